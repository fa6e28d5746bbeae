package vm_test

import (
	"math/rand"
	"reflect"
	"testing"

	"slim/api"
	"slim/slim"
)

// shape: of a code whose registers 0 and 2 mostly hold numbers, 4, 5 and 7 blocks, 1 either; of its slots the even ones numbers, the odd ones blocks.
type shape struct {
	r         *rand.Rand
	functions int
	constants int
}

func (g *shape) number() int {
	if g.r.Intn(40) == 0 {
		return g.r.Intn(8)
	}
	return g.r.Intn(3)
}

func (g *shape) block() int {
	if g.r.Intn(40) == 0 {
		return g.r.Intn(8)
	}
	return []int{1, 4, 4, 5, 5, 7, 7}[g.r.Intn(7)]
}

const shapeSlots = 4

func (g *shape) line(at, end int) string {
	n := g.number
	b := g.block
	any := []func() int{n, b}[g.r.Intn(2)]
	even, odd := 2*g.r.Intn(shapeSlots/2), 2*g.r.Intn(shapeSlots/2)+1
	ahead := at + 1 + g.r.Intn(max(1, end-at-1))
	switch g.r.Intn(32) {
	case 0, 1, 2:
		return ldi(n(), g.r.Intn(g.constants))
	case 3:
		return ln(api.Mov, n(), n())
	case 4:
		return ln(api.Mov, b(), b())
	case 5:
		return ln([]int{api.Lds, api.Ldk}[g.r.Intn(2)], n(), even)
	case 6, 7:
		return ln([]int{api.Lds, api.Lds, api.Ldk}[g.r.Intn(3)], b(), odd)
	case 8:
		return ln(api.Sts, n(), even)
	case 9, 10, 11:
		return ln(api.Sts, b(), odd)
	case 12:
		return ln(api.Clr, 0, g.r.Intn(shapeSlots))
	case 13, 14:
		return ln(api.Add+g.r.Intn(8), n(), n(), n())
	case 15:
		return ln(api.Neg+g.r.Intn(2), n(), n())
	case 16:
		return ln(api.Jz, n(), ahead)
	case 17:
		return ln(api.Jmp, 0, ahead)
	case 18, 19:
		return ln(api.New, b(), g.r.Intn(4))
	case 20, 21:
		return ln(api.Clo, b(), g.r.Intn(4), g.r.Intn(g.functions))
	case 22:
		return ln(api.Set, b(), g.r.Intn(2), any())
	case 23:
		return ln(api.Fld, any(), b(), g.r.Intn(2))
	case 24, 25:
		return ln(api.Arr, b(), n(), any(), g.r.Intn(400))
	case 26:
		return ln(api.Get, any(), b(), n(), g.r.Intn(400))
	case 27:
		return ln(api.Put, b(), n(), any(), g.r.Intn(400))
	case 28:
		return ln(api.Len, n(), b())
	case 29:
		return ln([]int{api.Prn, api.Rdi}[g.r.Intn(2)], n(), 0, 0, g.r.Intn(400))
	case 30:
		return ln(api.Call, 0, g.r.Intn(g.functions))
	}
	return ln(api.Calc, 0, g.r.Intn(3))
}

func (g *shape) last() string {
	switch g.r.Intn(5) {
	case 0, 1:
		return ln(api.Tcal, 0, g.r.Intn(g.functions))
	case 2:
		return ln(api.Tclc, 0, g.r.Intn(3))
	}
	return ret
}

// runnable: a code that Check takes.
func runnable(r *rand.Rand) string {
	for {
		if s := mended(r); s != "" {
			return s
		}
	}
}

// mended: a code whose lines were made anew till Check took it, or nothing, if that took too long.
func mended(r *rand.Rand) string {
	g := &shape{r: r, functions: 1 + r.Intn(3), constants: 6}
	list, ends, at := []string{}, []int{}, 0
	for i := range g.functions {
		if i == 0 {
			list = append(list, row(0, 0, 0, shapeSlots))
		} else {
			list = append(list, row(at, r.Intn(3), r.Intn(2), shapeSlots))
		}
		at += 3 + r.Intn(20)
		ends = append(ends, at)
	}
	lines, function := []string{}, 0
	for len(lines) < at {
		if len(lines) == ends[function]-1 {
			lines = append(lines, g.last())
			function++
			continue
		}
		lines = append(lines, g.line(len(lines), ends[function]))
	}
	constants := []int{0, 1, 2, r.Intn(40) - 3, r.Int() - r.Int(), most}
	for i := range constants {
		constants[i] = constants[i] << 1 >> 1
	}
	s := coded(list, constants, lines...)
	for range 300 {
		err, at := slim.Machine().Check(s)
		if err == api.OK {
			return s
		}
		function := 0
		for ends[function] <= at {
			function++
		}
		if at == ends[function]-1 {
			s = withLine(s, at, g.last())
			// Something is laid just ahead of what reads it.
			at--
			s = withLine(s, at, ldi(r.Intn(2)*r.Intn(2), r.Intn(6)))
			continue
		}
		s = withLine(s, at, g.line(at, ends[function]))
	}
	return ""
}

// Codes of all kinds run as on the plain machine, in pieces and as a whole.
func TestAnyRuns(t *testing.T) {
	r := rand.New(rand.NewSource(12))
	seen := map[api.Errno]int{}
	collections := 0
	for range 15000 {
		s := runnable(r)
		if err, at := plainCheck(s); err != api.OK {
			t.Fatalf("P10: Check takes what is %d at %d: %x", err, at, s)
		}
		words, depth, in := r.Intn(60), 1+r.Intn(6), []int{}
		for range r.Intn(6) {
			in = append(in, r.Int()-r.Int())
		}
		whole, parts := slim.Machine(), slim.Machine()
		whole.Start(s, words, depth, in)
		parts.Start(s, words, depth, in)
		p := newPlain(s, words, depth, in)
		all := 0
		for range 6 {
			n := r.Intn(60)
			all += n
			got, want := parts.Go(n), p.run(n)
			if !reflect.DeepEqual(got, want) {
				text, _, _ := whole.List(s)
				t.Fatalf("P11 to P13: %d words, depth %d, input %v, %d lines granted: %+v, want %+v\n%s", words, depth, in, all, got, want, text)
			}
		}
		got, want := whole.Go(all), p.run(0)
		if !reflect.DeepEqual(got, want) {
			t.Fatalf("P11: at once: %+v, in parts: %+v of %x", got, want, s)
		}
		seen[got.Err]++
		collections += got.Gcs
	}
	for _, err := range []api.Errno{api.OK, api.RunIndex, api.RunSize, api.RunDiv, api.RunInput, api.RunOutput, api.OutMemory, api.OutStack, api.OutFuel, api.Stuck} {
		if seen[err] < 20 {
			t.Errorf("only %d runs were %d", seen[err], err)
		}
	}
	if collections < 10000 {
		t.Errorf("only %d collections", collections)
	}
}
