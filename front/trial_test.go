package front_test

import (
	"testing"

	"slim/api"
	"slim/emit"
	"slim/parts"
	"slim/scope"
	"slim/slim"
	"slim/words"
)

// trial: a text, its code, an input, and what P14 tells of them.
type trial struct {
	src     string
	code    string
	in      []int
	meaning *meaning
}

// tried: a text that is well typed is compiled, and evaluated for so many steps at first.
func tried(t *testing.T, src string, in []int, steps int) trial {
	t.Helper()
	code, err, at := slim.New().Compile(src)
	if err != api.OK || at != 0 {
		t.Fatalf("P8: Compile(%q) = %d, %d", src, err, at)
	}
	if err, at := slim.Machine().Check(code); err != api.OK {
		list, _, _ := slim.Machine().List(code)
		t.Fatalf("P8: Check of the code of %q = %d, %d\n%s", src, err, at, list)
	}
	list, _, _ := words.Split(src)
	tree, _, _ := parts.Parse(list, api.MaxNest)
	return trial{src, code, in, meant(tree, in, steps)}
}

// both: the text with its code; and, if that was made shorter (P16), with the lines as they were, which P14 and P15 hold for as well.
func (c trial) both(t *testing.T) []trial {
	t.Helper()
	whole := c
	whole.code = emit.Code(scope.Of(c.meaning.tree)).Bytes()
	if whole.code == c.code {
		return []trial{c}
	}
	if r := c.started(t, 0, 1).Go(2); r.Err != api.OK {
		t.Fatalf("P16: %q leaves something to do, but %+v", c.src, r)
	}
	return []trial{c, whole}
}

func (c trial) started(t *testing.T, words, depth int) interface{ Go(int) api.Result } {
	t.Helper()
	m := slim.Machine()
	if err, at := m.Start(c.code, words, depth, c.in); err != api.OK {
		t.Fatalf("P11: Start of the code of %q = %d, %d", c.src, err, at)
	}
	return m
}

// peakAbove tells the first size above a bound.
func peakAbove(list []peak, most int) (peak, bool) {
	for _, p := range list {
		if p.size > most {
			return p, true
		}
	}
	return peak{}, false
}

func greatest(list []peak) int {
	if len(list) == 0 {
		return 0
	}
	return list[len(list)-1].size
}

// within tells how many of some steps are among the first.
func within(at []int, steps int) int {
	count := 0
	for count < len(at) && at[count] <= steps {
		count++
	}
	return count
}

// fault tells what P15 forbids of a result, or nothing. A code may be far ahead of its text: this is evaluated as far as P15 lets it be behind.
func (c trial) fault(r api.Result, words, depth int) string {
	m := c.meaning
	m.evaluate(r.Steps/8 + 1)
	what := m.faultSoFar(r, words, depth)
	for what != "" && !m.ended && m.steps < (r.Steps+1)*4096 {
		m.evaluate(min(2*m.steps, (r.Steps+1)*4096))
		what = m.faultSoFar(r, words, depth)
	}
	return what
}

func (m *meaning) faultSoFar(r api.Result, words, depth int) string {
	if len(r.Out) > len(m.out) || r.Read > len(m.readAt) {
		return "it printed or read more than the text"
	}
	for i := range r.Out {
		if r.Out[i] != m.out[i] {
			return "it printed something else"
		}
	}
	if m.blocks == 0 && (r.Used != 0 || r.Gcs != 0) {
		return "words are in use, though nothing is made"
	}
	over, is := peak{}, true
	switch r.Err {
	case api.OK, api.RunIndex, api.RunSize, api.RunDiv, api.RunInput, api.RunOutput:
		if !m.ended || m.err != r.Err || m.pos != r.Pos || m.val != r.Val || len(m.out) != len(r.Out) || len(m.readAt) != r.Read {
			return "the text ends otherwise"
		}
		if m.steps > (r.Steps+1)*4096 {
			return "the text takes too many steps"
		}
		return ""
	case api.OutMemory:
		over, is = peakAbove(m.reach, words/2)
	case api.OutStack:
		over, is = peakAbove(m.calls, depth)
	case api.OutFuel:
		is = !m.ended || m.steps > r.Steps/8
	default:
		return "it ends as no code of a text may"
	}
	if !is {
		return "the text has room and time enough"
	}
	if over.printed > len(r.Out) || over.read > r.Read {
		return "the text goes further in that room"
	}
	if within(m.outAt, r.Steps/8) > len(r.Out) || within(m.readAt, r.Steps/8) > r.Read {
		return "the text goes further in that time"
	}
	return ""
}

// holds: P15 in that room, and for all grants up to fuel.
func (c trial) holds(t *testing.T, words, depth, fuel int) api.Result {
	t.Helper()
	run := c.started(t, words, depth)
	r := run.Go(0)
	for n := 0; n < fuel && r.Err == api.OutFuel; n++ {
		r = run.Go(1)
		if what := c.fault(r, words, depth); what != "" {
			list, _, _ := slim.Machine().List(c.code)
			t.Fatalf("P15: %q with %v in %d, %d: %+v: %s\nthe text: %+v\n%s", c.src, c.in, words, depth, r, what, c.meaning.told(), list)
		}
	}
	return r
}

// told: what the evaluation came to.
func (m *meaning) told() meaning {
	return meaning{ended: m.ended, err: m.err, pos: m.pos, val: m.val, out: m.out, outAt: m.outAt, readAt: m.readAt,
		steps: m.steps, blocks: m.blocks, reach: m.reach, calls: m.calls}
}

// enough: in just the room and the time that the text takes, the code does what the text does.
func (c trial) enough(t *testing.T) {
	t.Helper()
	m := c.meaning
	words, depth, fuel := 2*greatest(m.reach), greatest(m.calls), 8*m.steps
	if words > api.MaxHeap || depth > api.MaxDepth || fuel > api.MaxFuel {
		return
	}
	r := c.started(t, words, depth).Go(fuel)
	what := c.fault(r, words, depth)
	if what != "" {
		list, _, _ := slim.Machine().List(c.code)
		t.Fatalf("P15: %q with %v in %d, %d, %d: %+v: %s\nthe text: %+v\n%s", c.src, c.in, words, depth, fuel, r, what, m.told(), list)
	}
}
