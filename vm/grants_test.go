package vm_test

import (
	"math"
	"math/rand"
	"reflect"
	"testing"

	"slim/api"
	"slim/slim"
	"slim/vm"
)

// endless: a code that calls itself in its own place.
var endless = single(0, nil, ln(api.Tcal, 0, 0))

// printing: a code that reads and prints three numbers and ends with the last.
var printing = single(1, nil, ln(api.Rdi, 0), ln(api.Prn, 0), ln(api.Rdi, 0), ln(api.Prn, 0), ln(api.Rdi, 0), ln(api.Prn, 0), ret)

func TestIdle(t *testing.T) {
	for _, m := range []*vm.Machine{slim.Machine(), {}} {
		for _, n := range []int{0, 1, -1, 1 << 17, math.MaxInt, math.MinInt} {
			wantResult(t, "nothing was started", m.Go(n), api.Result{Err: api.ErrIdle})
		}
		m.Check(endless)
		m.List(endless)
		m.Start("", 0, 1, nil)
		wantResult(t, "nothing was started still", m.Go(1), api.Result{Err: api.ErrIdle})
	}
}

func TestRefusals(t *testing.T) {
	long := make([]int, 17)
	ill := single(0, nil, ret, ln(99))
	for _, c := range []struct {
		code         string
		words, depth int
		in           []int
		err          api.Errno
		at           int
	}{
		{endless, -1, 1, nil, api.ErrHeap, 0}, {endless, 4097, 1, nil, api.ErrHeap, 0}, {endless, math.MaxInt, 1, nil, api.ErrHeap, 0}, {endless, math.MinInt, 1, nil, api.ErrHeap, 0},
		{endless, 0, 0, nil, api.ErrDepth, 0}, {endless, 0, 65, nil, api.ErrDepth, 0}, {endless, 0, math.MaxInt, nil, api.ErrDepth, 0}, {endless, 0, math.MinInt, nil, api.ErrDepth, 0},
		{endless, 0, 1, long, api.ErrIn, 0}, {endless, 0, 1, make([]int, 5000), api.ErrIn, 0},
		{"", -1, 0, long, api.ErrHeap, 0}, {"", 0, 0, long, api.ErrDepth, 0}, {"", 0, 1, long, api.ErrIn, 0}, {"", 0, 1, nil, api.ErrForm, 0},
		{ill, 4097, 65, long, api.ErrHeap, 0}, {ill, 0, 65, long, api.ErrDepth, 0}, {ill, 0, 1, long, api.ErrIn, 0}, {ill, 0, 1, nil, api.ErrOp, 1},
		{single(0, nil, ret), 0, 1, nil, api.ErrFlow, 0},
		{endless, 0, 1, nil, api.OK, 0}, {endless, 4096, 64, long[:16], api.OK, 0}, {endless, 4095, 63, []int{}, api.OK, 0},
	} {
		m := slim.Machine()
		m.Start(printing, 0, 1, []int{5, 6, 7})
		before := m.Go(3)
		if err, at := m.Start(c.code, c.words, c.depth, c.in); err != c.err || at != c.at {
			t.Errorf("P11: Start(%d, %d, %d numbers) = %d, %d, want %d at %d", c.words, c.depth, len(c.in), err, at, c.err, c.at)
		}
		if c.err == api.OK {
			wantResult(t, "a new run", m.Go(0), api.Result{Err: api.OutFuel})
			continue
		}
		wantResult(t, "a run that stays", m.Go(0), before)
		wantResult(t, "a run that goes on", m.Go(9), api.Result{Val: 7, Out: []int{5, 6, 7}, Steps: 7, Read: 3})
	}
}

func TestFuel(t *testing.T) {
	m := slim.Machine()
	m.Start(endless, 0, 1, nil)
	for _, c := range []struct {
		n     int
		steps int // -1: ErrFuel
	}{
		{0, 0}, {-1, -1}, {65537, -1}, {1, 1}, {65536, -1}, {math.MaxInt, -1}, {math.MinInt, -1}, {65534, 65535}, {2, -1}, {0, 65535}, {1, 65536}, {1, -1}, {0, 65536}, {-1, -1}, {math.MaxInt, -1},
	} {
		want := api.Result{Err: api.OutFuel, Steps: c.steps}
		if c.steps < 0 {
			want = api.Result{Err: api.ErrFuel}
		}
		wantResult(t, "a grant", m.Go(c.n), want)
	}
	m.Start(endless, 0, 1, nil)
	wantResult(t, "a new run has its own grants", m.Go(65536), api.Result{Err: api.OutFuel, Steps: 65536})
	// Grants to a run that has ended count, too; and it stays as it ended.
	m.Start(printing, 0, 1, []int{1, 2, 3})
	end := api.Result{Val: 3, Out: []int{1, 2, 3}, Steps: 7, Read: 3}
	for _, n := range []int{7, 60000, 0, 5529} {
		wantResult(t, "an end", m.Go(n), end)
	}
	wantResult(t, "one line too many", m.Go(1), api.Result{Err: api.ErrFuel})
	wantResult(t, "an end for good", m.Go(0), end)
}

// Each kind of end stays, whatever is granted behind it.
func TestEnds(t *testing.T) {
	zero := []int{0}
	for _, c := range []struct {
		err  api.Errno
		code string
	}{
		{api.OK, single(0, zero, ldi(0, 0), ret)},
		{api.RunIndex, single(0, zero, ln(api.New, 1, 0), ldi(0, 0), ln(api.Get, 0, 1, 0, 5), ret)},
		{api.RunSize, single(0, []int{33}, ldi(0, 0), ln(api.Arr, 0, 0, 0, 5), ret)},
		{api.RunDiv, single(0, zero, ldi(0, 0), ln(api.Div, 0, 0, 0, 5), ret)},
		{api.RunInput, single(0, nil, ln(api.Rdi, 0, 0, 0, 5), ret)},
		{api.RunOutput, single(0, zero, join([]string{ldi(0, 0)}, times(17, ln(api.Prn, 0, 0, 0, 5)), []string{ret})...)},
		{api.OutMemory, single(0, nil, ln(api.New, 0, 9), ret)},
		{api.OutStack, single(0, nil, ln(api.Call), ret)},
		{api.Stuck, single(0, nil, ln(api.New, 0, 0), ret)},
	} {
		m := slim.Machine()
		m.Start(c.code, 10, 3, nil)
		first := m.Go(50)
		if first.Err != c.err || (first.Pos == 5) != (c.err >= api.RunIndex && c.err <= api.RunOutput) || first.Val != 0 {
			t.Errorf("P11: %+v, want %d", first, c.err)
		}
		for range 3 {
			wantResult(t, "for good", m.Go(100), first)
		}
	}
}

func TestInputIsCopied(t *testing.T) {
	in := []int{1 << 62, 6, 7, 8}
	m := slim.Machine()
	m.Start(printing, 0, 1, in[:3])
	m.Go(2)
	in[1], in[2] = 90, 91
	wantResult(t, "the input", m.Go(9), api.Result{Val: 7, Out: []int{least, 6, 7}, Steps: 7, Read: 3})
	if !reflect.DeepEqual(in, []int{1 << 62, 90, 91, 8}) {
		t.Errorf("P2: the input was written into: %v", in)
	}
}

func TestPrintsAreTheCallers(t *testing.T) {
	m := slim.Machine()
	m.Start(printing, 0, 1, []int{5, 6, 7})
	if r := m.Go(1); r.Out != nil {
		t.Errorf("P2: %v, where nothing was printed", r.Out)
	}
	for i, n := range []int{1, 2, 2, 0, 0} {
		r := m.Go(n)
		want := []int{5, 6, 7}[:min(i+1, 3)]
		if !reflect.DeepEqual(r.Out, want) || len(r.Out) != cap(r.Out) {
			t.Errorf("P2: printed %v, room for %d, want %v", r.Out, cap(r.Out), want)
		}
		for k := range r.Out {
			r.Out[k] = -1
		}
		r.Out = append(r.Out, -2)
	}
	if r := m.Go(-1); r.Out != nil {
		t.Errorf("P11: %v beside ErrFuel", r.Out)
	}
}

// Machines do not know of each other, and Check and List do not touch a run.
func TestManyMachines(t *testing.T) {
	r := rand.New(rand.NewSource(3))
	for range 300 {
		machines, plains := []*vm.Machine{}, []*plain{}
		for range 4 {
			s, words, depth := runnable(r), r.Intn(60), 1+r.Intn(6)
			m := slim.Machine()
			m.Start(s, words, depth, nil)
			machines, plains = append(machines, m), append(plains, newPlain(s, words, depth, nil))
		}
		for range 20 {
			i, n := r.Intn(4), r.Intn(30)
			machines[i].Check(printing)
			machines[i].List(printing)
			wantResult(t, "among others", machines[i].Go(n), plains[i].run(n))
		}
	}
}

// No bytes make a call fail; what Check takes runs, and the same bytes give the same answers.
func TestAnyBytes(t *testing.T) {
	r := rand.New(rand.NewSource(5))
	for range 4000 {
		b := []byte(runnable(r))
		for range 1 + r.Intn(4) {
			switch r.Intn(8) {
			case 0:
				b = b[:r.Intn(len(b)+1)]
			case 1:
				b = append(b, byte(r.Intn(256)))
			default:
				if len(b) > 0 {
					b[r.Intn(len(b))] = byte(r.Intn(256))
				}
			}
		}
		s := string(b)
		want, place := plainCheck(s)
		m := slim.Machine()
		text, err, at := m.List(s)
		if (err != api.OK) != (text == "") || err == api.OK && at != 0 {
			t.Fatalf("P1: List(%x) = %q, %d, %d", s, text, err, at)
		}
		if err, at := m.Start(s, 40, 3, []int{1, 2}); err != want || at != place {
			t.Fatalf("P11: Start(%x) = %d, %d, want %d, %d", s, err, at, want, place)
		}
		got := m.Go(200)
		if want != api.OK {
			wantResult(t, "refused", got, api.Result{Err: api.ErrIdle})
			continue
		}
		wantResult(t, "changed bytes", got, newPlain(s, 40, 3, []int{1, 2}).run(200))
	}
}

// The heaviest that the bounds allow ends soon.
func TestHeavy(t *testing.T) {
	again := func(function, fields int) []string {
		return []string{ln(api.New, 1, fields), ln(api.Tcal, 0, function)}
	}
	// Function 1 counts down; 63 frames of 1,024 slots wait, each with a block, while function 2 makes block after block.
	down := []string{ln(api.Sts, 0, 1), ln(api.New, 1, 0), ln(api.Sts, 1, 1023), ln(api.Ldk, 0, 1), ln(api.Jz, 0, 12), ldi(1, 1), ln(api.Sub, 0, 0, 1), ln(api.Call, 0, 1), ret, ln(api.Call, 0, 2), ret}
	deep := coded(rows(row(0, 0, 0, 1024), row(3, 1, 0, 1024), row(14, 0, 0, 1024)), []int{61, 1}, join([]string{ldi(0, 0), ln(api.Call, 0, 1), ret}, down, again(2, 0))...)
	got := started(t, deep, 126, 64, api.MaxFuel)
	wantResult(t, "deep", got, api.Result{Err: api.OutFuel, Steps: api.MaxFuel, Used: 63, Gcs: (api.MaxFuel-2-61*8-6)/2 - 1})
	// A slot holds a chain of 1,000 blocks, beside which there is room for one more.
	link := []string{ln(api.New, 1, 1), ln(api.Lds, 2, 0), ln(api.Set, 1, 0, 2), ln(api.Sts, 1, 0)}
	lines := []string{ldi(0, 0), ln(api.Sts, 0, 0)}
	for range 1000 {
		lines = append(lines, link...)
	}
	lines = append(lines, ln(api.Call, 0, 1), ret)
	chain := coded(rows(row(0, 0, 0, 1), row(4004, 0, 0, 0)), []int{1}, append(lines, again(1, 46)...)...)
	got = started(t, chain, 4096, 2, api.MaxFuel)
	wantResult(t, "a chain", got, api.Result{Err: api.OutFuel, Steps: api.MaxFuel, Used: 2047, Gcs: (api.MaxFuel-4003+1)/2 - 1})
	got = started(t, single(1024, nil, again(0, 2047)...), 4096, 1, api.MaxFuel)
	wantResult(t, "big blocks", got, api.Result{Err: api.OutFuel, Steps: api.MaxFuel, Used: 2048, Gcs: api.MaxFuel/2 - 1})
}
