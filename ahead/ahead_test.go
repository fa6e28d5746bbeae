package ahead

import (
	"reflect"
	"testing"

	"slim/api"
	"slim/check"
	"slim/code"
)

func coded(t *testing.T, slots int, constants []int, lines ...code.Line) code.Code {
	t.Helper()
	made := code.Code{Functions: []code.Function{{Slots: slots}}, Constants: constants, Lines: lines}
	if err, at := check.Fault(made); err != api.OK {
		t.Fatalf("Fault of %v = %d, %d", made, err, at)
	}
	return made
}

// after: some lines that do nothing, and then others.
func after(count int, others ...code.Line) []code.Line {
	lines := []code.Line{}
	for len(lines) < count {
		lines = append(lines, code.Line{Op: api.Ldi})
	}
	return append(lines, others...)
}

func TestDone(t *testing.T) {
	end := code.Line{Op: api.Ret}
	called := coded(t, 0, []int{8}, code.Line{Op: api.Call}, end)
	called.Functions = append(called.Functions, code.Function{First: 2})
	called.Lines = append(called.Lines, code.Line{Op: api.Ldi}, end)
	called.Lines[0].X = 1
	for _, c := range []struct {
		given code.Code
		val   int
	}{
		{coded(t, 0, []int{7}, after(1, end)...), 7},
		{coded(t, 0, []int{7}, after(most-1, end)...), 7},
		{coded(t, 0, []int{api.MaxNum}, after(1, code.Line{Op: api.Add}, end)...), -2},
		{coded(t, 0, []int{-api.MaxNum - 1}, after(1, end)...), -api.MaxNum - 1},
		{coded(t, 1, []int{3}, after(1, code.Line{Op: api.Sts}, code.Line{Op: api.New, X: 6}, code.Line{Op: api.Ldk}, end)...), 3},
		{coded(t, 0, []int{3}, after(1, code.Line{Op: api.Arr}, code.Line{Op: api.Len}, end)...), 3},
		{called, 8},
		{coded(t, 0, []int{0}, after(1, code.Line{Op: api.Jz, X: 3}, code.Line{Op: api.Prn}, end)...), 0},
	} {
		want := code.Code{Functions: []code.Function{{}}, Constants: []int{c.val}, Lines: []code.Line{{Op: api.Ldi}, {Op: api.Ret}}}
		if got := Done(c.given); !reflect.DeepEqual(got, want) {
			t.Errorf("P16: of %v is left %v, want %v", c.given, got, want)
		}
	}
}

// Codes that leave something to do, or come to no number, stay as they are.
func TestNotDone(t *testing.T) {
	end := code.Line{Op: api.Ret}
	for _, given := range []code.Code{
		coded(t, 0, []int{7}, after(most, end)...),
		coded(t, 0, []int{7}, after(1, code.Line{Op: api.Prn}, end)...),
		coded(t, 0, nil, code.Line{Op: api.Rdi}, end),
		coded(t, 0, []int{0}, after(1, code.Line{Op: api.Div, P: 5}, end)...),
		coded(t, 0, []int{0}, after(1, code.Line{Op: api.Mod, P: 5}, end)...),
		coded(t, 0, []int{33}, after(1, code.Line{Op: api.Arr}, code.Line{Op: api.Len}, end)...),
		coded(t, 0, []int{-1}, after(1, code.Line{Op: api.Arr}, code.Line{Op: api.Len}, end)...),
		coded(t, 0, nil, code.Line{Op: api.New, X: 1}, end),
		coded(t, 0, nil, code.Line{Op: api.New, X: api.MaxHeap}, code.Line{Op: api.Rdi}, end),
		coded(t, 0, nil, code.Line{Op: api.Tcal}),
		{},
	} {
		want := code.Code{
			Functions: append([]code.Function(nil), given.Functions...),
			Constants: append([]int(nil), given.Constants...),
			Lines:     append([]code.Line(nil), given.Lines...),
		}
		if got := Done(given); !reflect.DeepEqual(got, want) {
			t.Errorf("P15: of %v is left %v", given, got)
		}
	}
}
