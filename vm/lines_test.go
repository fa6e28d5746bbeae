package vm_test

import (
	"reflect"
	"testing"

	"slim/api"
)

const (
	most  = 1<<62 - 1
	least = -1 << 62
)

func ldi(r, k int) string { return ln(api.Ldi, r, k) }

func wantResult(t *testing.T, what string, got, want api.Result) {
	t.Helper()
	if !reflect.DeepEqual(got, want) {
		t.Errorf("P11 to P13: %s: %+v, want %+v", what, got, want)
	}
}

func TestReckoning(t *testing.T) {
	for _, c := range []struct{ op, a, b, want int }{
		{api.Add, 2, 3, 5}, {api.Add, most, 1, least}, {api.Add, most, most, -2}, {api.Add, least, least, 0}, {api.Add, least, -1, most},
		{api.Sub, 2, 3, -1}, {api.Sub, least, 1, most}, {api.Sub, most, -1, least}, {api.Sub, 0, least, least},
		{api.Mul, -3, 4, -12}, {api.Mul, most, 2, -2}, {api.Mul, most, most, 1}, {api.Mul, least, -1, least}, {api.Mul, least, least, 0}, {api.Mul, 1 << 31, 1 << 31, least}, {api.Mul, 1 << 32, 1 << 31, 0},
		{api.Div, 7, 2, 3}, {api.Div, -7, 2, -3}, {api.Div, 7, -2, -3}, {api.Div, -7, -2, 3}, {api.Div, least, -1, least}, {api.Div, least, 1, least}, {api.Div, 0, 5, 0}, {api.Div, most, least, 0},
		{api.Mod, 7, 2, 1}, {api.Mod, -7, 2, -1}, {api.Mod, 7, -2, 1}, {api.Mod, -7, -2, -1}, {api.Mod, least, -1, 0}, {api.Mod, most, least, most}, {api.Mod, -6, 3, 0},
		{api.Eq, 3, 3, 1}, {api.Eq, 3, 4, 0}, {api.Eq, least, least, 1}, {api.Eq, least, most, 0},
		{api.Lt, 3, 3, 0}, {api.Lt, 3, 4, 1}, {api.Lt, 4, 3, 0}, {api.Lt, least, most, 1}, {api.Lt, -1, 0, 1},
		{api.Le, 3, 3, 1}, {api.Le, 3, 4, 1}, {api.Le, 4, 3, 0}, {api.Le, most, least, 0},
		{api.Neg, 5, 0, -5}, {api.Neg, least, 0, least}, {api.Neg, most, 0, -most}, {api.Neg, 0, 0, 0},
		{api.Not, 0, 0, 1}, {api.Not, 1, 0, 0}, {api.Not, -7, 0, 0}, {api.Not, least, 0, 0},
	} {
		line := ln(c.op, 3, 1, 2)
		if c.op == api.Neg || c.op == api.Not {
			line = ln(c.op, 3, 1)
		}
		s := single(0, []int{c.a, c.b}, ldi(1, 0), ldi(2, 1), line, ln(api.Mov, 0, 3), ret)
		wantResult(t, opNames[c.op], started(t, s, 0, 1, 9), api.Result{Val: c.want, Steps: 5})
	}
	for _, op := range []int{api.Div, api.Mod} {
		s := single(0, []int{5, 0}, ldi(1, 0), ldi(2, 1), ln(op, 0, 1, 2, 65535), ret)
		wantResult(t, "by 0", started(t, s, 0, 1, 9), api.Result{Err: api.RunDiv, Pos: 65535, Steps: 3})
	}
	// Whichever of the registers the answer goes to.
	s := single(0, []int{9, 4}, ldi(0, 0), ldi(1, 1), ln(api.Sub, 1, 0, 1), ln(api.Sub, 0, 0, 1), ret)
	wantResult(t, "in place", started(t, s, 0, 1, 9), api.Result{Val: 4, Steps: 5})
}

func TestMoves(t *testing.T) {
	s := single(1024, []int{3, 4}, ldi(5, 0), ln(api.Sts, 5, 1023), ldi(5, 1), ln(api.Sts, 5, 0), ln(api.Lds, 6, 1023), ln(api.Ldk, 0, 1023), ln(api.Lds, 7, 0), ln(api.Prn, 6), ln(api.Prn, 7), ln(api.Prn, 5), ret)
	wantResult(t, "slots", started(t, s, 0, 1, 99), api.Result{Val: 3, Out: []int{3, 4, 4}, Steps: 11})
	way := func(n int) string {
		return single(0, []int{n, 10, 20}, ldi(3, 0), ln(api.Jz, 3, 4), ldi(0, 1), ln(api.Jmp, 0, 5), ldi(0, 2), ret)
	}
	wantResult(t, "a condition of 0", started(t, way(0), 0, 1, 99), api.Result{Val: 20, Steps: 4})
	wantResult(t, "a condition of 1", started(t, way(1), 0, 1, 99), api.Result{Val: 10, Steps: 5})
	wantResult(t, "a condition below 0", started(t, way(least), 0, 1, 99), api.Result{Val: 10, Steps: 5})
}

func TestInputAndPrints(t *testing.T) {
	s := single(0, nil, ln(api.Rdi, 2, 0, 0, 11), ln(api.Prn, 2), ln(api.Rdi, 0, 0, 0, 12), ln(api.Prn, 0), ret)
	for _, c := range []struct {
		in   []int
		want api.Result
	}{
		{nil, api.Result{Err: api.RunInput, Pos: 11, Steps: 1}},
		{[]int{5}, api.Result{Err: api.RunInput, Pos: 12, Out: []int{5}, Steps: 3, Read: 1}},
		{[]int{5, -6}, api.Result{Val: -6, Out: []int{5, -6}, Steps: 5, Read: 2}},
		{[]int{1, 2, 3}, api.Result{Val: 2, Out: []int{1, 2}, Steps: 5, Read: 2}},
		{[]int{1 << 62, most}, api.Result{Val: most, Out: []int{least, most}, Steps: 5, Read: 2}},
		{[]int{1<<63 - 1, -1 << 63}, api.Result{Val: 0, Out: []int{-1, 0}, Steps: 5, Read: 2}},
		{[]int{least - 1, least}, api.Result{Val: least, Out: []int{most, least}, Steps: 5, Read: 2}},
	} {
		wantResult(t, "input", started(t, s, 0, 1, 99, c.in...), c.want)
	}
	in, lines := make([]int, 16), []string{}
	for i := range in {
		in[i] = i * i
		lines = append(lines, ln(api.Rdi, 0), ln(api.Prn, 0, 0, 0, i))
	}
	wantResult(t, "sixteen", started(t, single(0, nil, append(lines, ret)...), 0, 1, 99, in...), api.Result{Val: 225, Out: in, Steps: 33, Read: 16})
	lines = append(lines, ln(api.Prn, 0, 0, 0, 400), ret)
	wantResult(t, "seventeen", started(t, single(0, nil, lines...), 0, 1, 99, in...), api.Result{Err: api.RunOutput, Pos: 400, Out: in, Steps: 33, Read: 16})
}

func TestBlocks(t *testing.T) {
	array := func(n int, lines ...string) string {
		list := join([]string{ldi(1, 0), ldi(2, 1), ln(api.Arr, 3, 1, 2, 6)}, lines, []string{ret})
		return single(2, []int{n, 8, 0}, list...)
	}
	for _, c := range []struct {
		what string
		code string
		want api.Result
	}{
		{"no cells", array(0, ln(api.Len, 0, 3)), api.Result{Val: 0, Steps: 5, Used: 1}},
		{"32 cells", array(32, ln(api.Len, 0, 3)), api.Result{Val: 32, Steps: 5, Used: 33}},
		{"33 cells", array(33, ldi(0, 0)), api.Result{Err: api.RunSize, Pos: 6, Steps: 3}},
		{"-1 cells", array(-1, ldi(0, 0)), api.Result{Err: api.RunSize, Pos: 6, Steps: 3}},
		{"very many cells", array(most, ldi(0, 0)), api.Result{Err: api.RunSize, Pos: 6, Steps: 3}},
		{"very few cells", array(least, ldi(0, 0)), api.Result{Err: api.RunSize, Pos: 6, Steps: 3}},
		{"the first cell", array(2, ldi(1, 2), ln(api.Get, 0, 3, 1, 9)), api.Result{Val: 8, Steps: 6, Used: 3}},
		{"behind the last cell", array(2, ldi(1, 0), ln(api.Get, 0, 3, 1, 9)), api.Result{Err: api.RunIndex, Pos: 9, Steps: 5, Used: 3}},
		{"far behind", array(2, ldi(1, 1), ln(api.Get, 0, 3, 1, 9)), api.Result{Err: api.RunIndex, Pos: 9, Steps: 5, Used: 3}},
		{"ahead of the first cell", array(2, ldi(1, 1), ln(api.Neg, 1, 1), ln(api.Get, 0, 3, 1, 9)), api.Result{Err: api.RunIndex, Pos: 9, Steps: 6, Used: 3}},
		{"a cell of none", array(0, ldi(1, 0), ln(api.Get, 0, 3, 1, 9)), api.Result{Err: api.RunIndex, Pos: 9, Steps: 5, Used: 1}},
		{"put, then get", array(1, ldi(1, 2), ldi(2, 0), ln(api.Put, 3, 1, 2, 9), ln(api.Get, 0, 3, 1)), api.Result{Val: 1, Steps: 8, Used: 2}},
		{"put behind the last cell", array(1, ldi(1, 0), ln(api.Put, 3, 1, 1, 9), ldi(0, 0)), api.Result{Err: api.RunIndex, Pos: 9, Steps: 5, Used: 2}},
		{"put ahead of the first", array(1, ldi(1, 0), ln(api.Neg, 1, 1), ln(api.Put, 3, 1, 1, 9), ldi(0, 0)), api.Result{Err: api.RunIndex, Pos: 9, Steps: 6, Used: 2}},
		{"blocks are shared", array(1, ln(api.Mov, 4, 3), ldi(1, 2), ln(api.Put, 4, 1, 1), ln(api.Fld, 0, 3, 0)), api.Result{Val: 0, Steps: 8, Used: 2}},
		{"cells share what fills them", array(3, ln(api.Sts, 3, 0), ldi(1, 0), ln(api.Lds, 2, 0), ln(api.Arr, 4, 1, 2), ln(api.Fld, 5, 4, 2), ldi(6, 2), ln(api.Put, 5, 6, 6), ln(api.Fld, 5, 4, 0), ln(api.Fld, 0, 5, 0)), api.Result{Val: 0, Steps: 13, Used: 8}},
		{"fields are 0 at first", single(0, nil, ln(api.New, 1, 9), ln(api.Fld, 0, 1, 8), ret), api.Result{Val: 0, Steps: 3, Used: 10}},
		{"a closure's fields", single(0, []int{6}, ln(api.Clo, 1, 3, 0), ldi(2, 0), ln(api.Set, 1, 2, 2), ln(api.Fld, 0, 1, 2), ret), api.Result{Val: 6, Steps: 5, Used: 4}},
		{"a closure's length", single(0, nil, ln(api.Clo, 1, 3, 0), ln(api.Len, 0, 1), ret), api.Result{Val: 3, Steps: 3, Used: 4}},
		{"a block in itself", single(0, nil, ln(api.New, 1, 1), ln(api.Set, 1, 0, 1), ln(api.Fld, 1, 1, 0), ln(api.Fld, 1, 1, 0), ln(api.Len, 0, 1), ret), api.Result{Val: 1, Steps: 6, Used: 2}},
	} {
		wantResult(t, c.what, started(t, c.code, 4096, 1, 99), c.want)
	}
}

// Register 1 is 0, 2 and 7 are 1, 0 and 3 a block of two fields; sixteen numbers are printed; then comes the line.
func TestStuck(t *testing.T) {
	for _, c := range []struct {
		what string
		line string
	}{
		{"a block added", ln(api.Add, 0, 3, 1)}, {"a block to add", ln(api.Add, 0, 1, 3)}, {"Sub", ln(api.Sub, 0, 3, 1)}, {"Sub", ln(api.Sub, 0, 1, 3)},
		{"Mul", ln(api.Mul, 0, 3, 1)}, {"Mul", ln(api.Mul, 0, 1, 3)}, {"Div by 0", ln(api.Div, 0, 3, 1)}, {"Div", ln(api.Div, 0, 1, 3)}, {"Mod by 0", ln(api.Mod, 0, 3, 1)}, {"Mod", ln(api.Mod, 0, 1, 3)},
		{"Eq", ln(api.Eq, 0, 3, 3)}, {"Eq", ln(api.Eq, 0, 3, 1)}, {"Eq", ln(api.Eq, 0, 1, 3)}, {"Lt", ln(api.Lt, 0, 3, 1)}, {"Lt", ln(api.Lt, 0, 1, 3)}, {"Le", ln(api.Le, 0, 3, 1)}, {"Le", ln(api.Le, 0, 1, 3)},
		{"Neg", ln(api.Neg, 0, 3)}, {"Not", ln(api.Not, 0, 3)}, {"Jz", ln(api.Jz, 3, 25)}, {"Prn, though there is no room", ln(api.Prn, 3, 0, 0, 5)},
		{"Arr of a block's size", ln(api.Arr, 0, 3, 1, 5)}, {"Len of a number", ln(api.Len, 0, 1)},
		{"Fld of a number", ln(api.Fld, 0, 1, 0)}, {"Fld of no field", ln(api.Fld, 0, 3, 2)}, {"Fld of no field", ln(api.Fld, 0, 3, 65535)},
		{"Set of a number", ln(api.Set, 1, 0, 1)}, {"Set of no field", ln(api.Set, 3, 2, 1)}, {"Set of no field", ln(api.Set, 3, 65535, 1)},
		{"Get of a number", ln(api.Get, 0, 1, 1, 5)}, {"Get of a number, by a block", ln(api.Get, 0, 1, 3, 5)}, {"Get by a block", ln(api.Get, 0, 3, 3, 5)},
		{"Put in a number", ln(api.Put, 1, 1, 1, 5)}, {"Put in a number, by a block", ln(api.Put, 1, 3, 1, 5)}, {"Put by a block", ln(api.Put, 3, 3, 1, 5)},
		{"a call of a number", ln(api.Calc, 0, 0)}, {"a last call of a number", ln(api.Tclc, 0, 0)},
		{"the last Ret, of a block", ret},
	} {
		lines := join([]string{ln(api.New, 3, 2), ldi(1, 0), ldi(2, 1), ldi(7, 1), ln(api.Mov, 0, 3)}, times(16, ln(api.Prn, 2)), []string{c.line}, times(4, ret))
		got := started(t, single(0, []int{0, 1}, lines...), 6, 1, 99)
		got.Out = nil
		wantResult(t, c.what, got, api.Result{Err: api.Stuck, Steps: 22, Used: 3})
	}
}

func TestCalls(t *testing.T) {
	// Function 1: of two parameters, it subtracts; function 2: of one, it adds its closure's field.
	both := func(lines ...string) string {
		n := len(lines)
		lines = append(lines, ln(api.Sub, 0, 0, 1), ret, ln(api.Fld, 1, 7, 0), ln(api.Add, 0, 0, 1), ret)
		return coded(rows(row(0, 0, 0, 2), row(n, 2, 0, 0), row(n+2, 1, 1, 3)), []int{30, 12}, lines...)
	}
	closure := []string{ln(api.Clo, 7, 1, 2), ldi(0, 0), ldi(1, 1), ln(api.Set, 7, 0, 1)}
	for _, c := range []struct {
		what  string
		depth int
		lines []string
		want  api.Result
	}{
		{"a call", 2, []string{ldi(0, 0), ldi(1, 1), ln(api.Call, 0, 1), ln(api.Neg, 0, 0), ret}, api.Result{Val: -18, Steps: 7}},
		{"a call, no room", 1, []string{ldi(0, 0), ldi(1, 1), ln(api.Call, 0, 1), ln(api.Neg, 0, 0), ret}, api.Result{Err: api.OutStack, Steps: 3}},
		{"a last call", 1, []string{ldi(0, 0), ldi(1, 1), ln(api.Tcal, 0, 1)}, api.Result{Val: 18, Steps: 5}},
		{"two calls", 2, []string{ldi(0, 0), ldi(1, 1), ln(api.Call, 0, 1), ldi(1, 0), ln(api.Call, 0, 1), ret}, api.Result{Val: -12, Steps: 10}},
		{"a closure's call", 2, append(closure[:4:4], ln(api.Calc, 0, 1), ln(api.Neg, 0, 0), ret), api.Result{Val: -42, Steps: 10, Used: 2}},
		{"a closure's call, no room", 1, append(closure[:4:4], ln(api.Calc, 0, 1), ln(api.Neg, 0, 0), ret), api.Result{Err: api.OutStack, Steps: 5, Used: 2}},
		{"a closure's last call", 1, append(closure[:4:4], ln(api.Tclc, 0, 1)), api.Result{Val: 42, Steps: 8, Used: 2}},
		{"a call that hands a closure on", 1, append(closure[:4:4], ln(api.Tcal, 0, 2)), api.Result{Val: 42, Steps: 8, Used: 2}},
		{"a call that hands a number on", 1, []string{ldi(7, 0), ldi(0, 0), ln(api.Tcal, 0, 2)}, api.Result{Err: api.Stuck, Steps: 4}},
		{"too many arguments", 2, append(closure[:4:4], ln(api.Calc, 0, 2), ret), api.Result{Err: api.Stuck, Steps: 5, Used: 2}},
		{"too few arguments", 2, append(closure[:4:4], ln(api.Calc, 0, 0), ret), api.Result{Err: api.Stuck, Steps: 5, Used: 2}},
		{"too many arguments, and no room", 1, append(closure[:4:4], ln(api.Calc, 0, 2), ret), api.Result{Err: api.Stuck, Steps: 5, Used: 2}},
		{"too many arguments of a last call", 2, append(closure[:4:4], ln(api.Tclc, 0, 2)), api.Result{Err: api.Stuck, Steps: 5, Used: 2}},
		{"a block that is no closure", 2, []string{ln(api.New, 7, 0), ln(api.Calc, 0, 0), ret}, api.Result{Err: api.Stuck, Steps: 2, Used: 1}},
		{"an array that is no closure", 2, []string{ldi(1, 1), ln(api.Arr, 7, 1, 1), ln(api.Tclc, 0, 0)}, api.Result{Err: api.Stuck, Steps: 3, Used: 13}},
		{"a closure without want", 2, []string{ln(api.Clo, 7, 0, 1), ldi(0, 0), ldi(1, 1), ln(api.Calc, 0, 2), ret}, api.Result{Val: 18, Steps: 7, Used: 1}},
	} {
		wantResult(t, c.what, started(t, both(c.lines...), 40, c.depth, 99), c.want)
	}
	// A closure of function 0, which calls itself.
	s := single(0, nil, ln(api.Clo, 7, 0, 0), ln(api.Calc, 0, 0), ret)
	wantResult(t, "function 0", started(t, s, 4096, 64, 999), api.Result{Err: api.OutStack, Steps: 128, Used: 64})
	s = single(0, nil, ln(api.Clo, 7, 0, 0), ln(api.Tclc, 0, 0))
	wantResult(t, "function 0, for ever", started(t, s, 20, 1, 999), api.Result{Err: api.OutFuel, Steps: 999, Used: 10, Gcs: 49})
}

// A block may be what a call answers, but for the last one; and what a slot of the caller holds stays.
func TestAnswers(t *testing.T) {
	s := coded(rows(row(0, 0, 0, 1), row(6, 0, 0, 1)), []int{5, 7}, ldi(0, 0), ln(api.Sts, 0, 0), ln(api.Call, 0, 1), ln(api.Lds, 1, 0), ln(api.Fld, 0, 0, 0), ret,
		ln(api.New, 0, 1), ldi(1, 1), ln(api.Sts, 1, 0), ln(api.Set, 0, 0, 1), ret)
	wantResult(t, "a block", started(t, s, 4, 2, 99), api.Result{Val: 7, Steps: 11, Used: 2})
	// A slot is 0 again in each new frame: function 1 tells the block that it laid in none.
	s = coded(rows(row(0, 0, 0, 0), row(3, 1, 0, 1)), []int{2, 1}, ldi(0, 0), ln(api.Call, 0, 1), ret,
		ln(api.Jz, 0, 9), ldi(1, 1), ln(api.Sub, 0, 0, 1), ln(api.Sts, 0, 0), ln(api.Tcal, 0, 1), ret, ln(api.New, 1, 0), ln(api.Len, 0, 1), ret)
	wantResult(t, "frames", started(t, s, 2, 2, 99), api.Result{Val: 0, Steps: 17, Used: 1})
}

func TestDepth(t *testing.T) {
	// Function 1 counts down from 62, and calls itself.
	s := coded(rows(row(0, 0, 0, 0), row(3, 1, 0, 1024)), []int{62, 1}, ldi(0, 0), ln(api.Call, 0, 1), ret, ln(api.Jz, 0, 7), ldi(1, 1), ln(api.Sub, 0, 0, 1), ln(api.Call, 0, 1), ret)
	for depth := 1; depth <= 64; depth++ {
		got := started(t, s, 0, depth, 9999)
		want := api.Result{Err: api.OutStack, Steps: 4*depth - 2}
		if depth == 64 {
			want = api.Result{Steps: 2 + 62*4 + 2 + 62 + 1}
		}
		wantResult(t, "depth", got, want)
	}
}

func TestRoom(t *testing.T) {
	held := []string{ln(api.New, 1, 2), ln(api.Sts, 1, 0)}
	loose := func(n, fields int) []string { return times(n, ln(api.New, 1, fields)) }
	end := []string{ln(api.Len, 0, 1), ret}
	for _, c := range []struct {
		what  string
		words int
		lines []string
		want  api.Result
	}{
		{"just enough", 22, join(held, loose(2, 3), end), api.Result{Val: 3, Steps: 6, Used: 11}},
		{"half of an odd heap", 23, join(held, loose(2, 3), end), api.Result{Val: 3, Steps: 6, Used: 11}},
		{"a word too few", 21, join(held, loose(2, 3), end), api.Result{Val: 3, Steps: 6, Used: 7, Gcs: 1}},
		{"each a collection", 14, join(held, loose(4, 3), end), api.Result{Val: 3, Steps: 8, Used: 7, Gcs: 3}},
		{"no room beside what is held", 13, join(held, loose(1, 3), end), api.Result{Err: api.OutMemory, Steps: 3, Used: 3, Gcs: 1}},
		{"no words", 0, join(loose(1, 0), end), api.Result{Err: api.OutMemory, Steps: 1, Gcs: 1}},
		{"one word has no half", 1, join(loose(1, 0), end), api.Result{Err: api.OutMemory, Steps: 1, Gcs: 1}},
		{"a block of no field takes one", 2, join(loose(3, 0), end), api.Result{Val: 0, Steps: 5, Used: 1, Gcs: 2}},
		{"a block that never fits", 4096, join(loose(1, 65535), end), api.Result{Err: api.OutMemory, Steps: 1, Gcs: 1}},
		{"a block of 2,048 words", 4096, join(loose(2, 2047), end), api.Result{Val: 2047, Steps: 4, Used: 2048, Gcs: 1}},
		{"a block of 2,049 words", 4096, join(loose(1, 2048), end), api.Result{Err: api.OutMemory, Steps: 1, Gcs: 1}},
		{"a slot that was cleared holds nothing", 14, join(held, []string{ln(api.Clr, 0, 0)}, loose(2, 3), end), api.Result{Val: 3, Steps: 7, Used: 4, Gcs: 1}},
		{"a slot that was taken holds nothing", 14, join(held, []string{ln(api.Ldk, 1, 0)}, loose(2, 3), end), api.Result{Val: 3, Steps: 7, Used: 4, Gcs: 1}},
		{"a slot that was laid anew", 14, join(held, loose(1, 3), []string{ln(api.Sts, 1, 0)}, loose(1, 2), end), api.Result{Val: 2, Steps: 7, Used: 7, Gcs: 1}},
		{"a slot that was read holds still", 14, join(held, []string{ln(api.Lds, 1, 0)}, loose(2, 3), end), api.Result{Val: 3, Steps: 7, Used: 7, Gcs: 1}},
		{"two slots hold one block", 14, join(held, []string{ln(api.Sts, 1, 1), ln(api.Clr, 0, 0)}, loose(2, 3), end), api.Result{Val: 3, Steps: 8, Used: 7, Gcs: 1}},
		{"a block that holds itself", 14, join([]string{ln(api.New, 1, 2), ln(api.Set, 1, 0, 1)}, loose(2, 3), end), api.Result{Val: 3, Steps: 6, Used: 4, Gcs: 1}},
		{"closures take as much", 14, join(held, times(2, ln(api.Clo, 1, 3, 0)), end), api.Result{Val: 3, Steps: 6, Used: 7, Gcs: 1}},
	} {
		wantResult(t, c.what, started(t, single(2, nil, c.lines...), c.words, 1, 99), c.want)
	}
}

func TestReached(t *testing.T) {
	// A chain: the slot holds a block that holds one that holds one; all stay, and are what they were.
	chain := []string{ln(api.New, 1, 1), ldi(2, 0), ln(api.Set, 1, 0, 2), ln(api.Sts, 1, 0), ln(api.New, 1, 1), ln(api.Lds, 2, 0), ln(api.Set, 1, 0, 2), ln(api.Sts, 1, 0),
		ln(api.Clo, 1, 1, 0), ln(api.Lds, 2, 0), ln(api.Set, 1, 0, 2), ln(api.Sts, 1, 0)}
	down := []string{ln(api.Lds, 1, 0), ln(api.Fld, 1, 1, 0), ln(api.Fld, 1, 1, 0), ln(api.Fld, 0, 1, 0), ret}
	s := single(1, []int{77}, join(chain, times(3, ln(api.New, 1, 0)), down)...)
	wantResult(t, "a chain", started(t, s, 14, 1, 99), api.Result{Val: 77, Steps: 20, Used: 7, Gcs: 2})
	// What an array's fields are to have stays, though no slot holds it; its size is no block.
	filled := func(words int) api.Result {
		s := single(0, []int{2, 55}, join(times(2, ln(api.New, 3, 1)), []string{ldi(1, 0), ldi(2, 1), ln(api.Set, 3, 0, 2), ln(api.Arr, 4, 1, 3), ln(api.Fld, 4, 4, 1), ln(api.Fld, 0, 4, 0), ret})...)
		return started(t, s, words, 1, 99)
	}
	wantResult(t, "a filled array", filled(14), api.Result{Val: 55, Steps: 9, Used: 7})
	wantResult(t, "a filled array, behind a collection", filled(10), api.Result{Val: 55, Steps: 9, Used: 5, Gcs: 1})
	wantResult(t, "a filled array, no room", filled(8), api.Result{Err: api.OutMemory, Steps: 6, Used: 2, Gcs: 1})
	// The frames that wait hold their blocks, too; those that are gone hold none.
	inner := func(call string) string {
		return coded(rows(row(0, 0, 0, 1), row(6, 0, 0, 1)), []int{4}, ln(api.New, 1, 2), ln(api.Sts, 1, 0), call, ln(api.New, 1, 1), ln(api.Len, 0, 1), ret,
			ln(api.New, 1, 2), ln(api.Sts, 1, 0), ln(api.New, 1, 1), ln(api.Len, 0, 1), ret)
	}
	wantResult(t, "frames that wait", started(t, inner(ln(api.Call, 0, 1)), 16, 2, 99), api.Result{Val: 1, Steps: 11, Used: 5, Gcs: 1})
	wantResult(t, "frames that wait, no room", started(t, inner(ln(api.Call, 0, 1)), 14, 2, 99), api.Result{Err: api.OutMemory, Steps: 6, Used: 6, Gcs: 1})
	wantResult(t, "a frame in another's place", started(t, inner(ln(api.Tcal, 0, 1)), 14, 2, 99), api.Result{Val: 1, Steps: 8, Used: 5, Gcs: 1})
}

// A block that slots of several frames hold stays till the last of them is gone.
func TestHeldByFrames(t *testing.T) {
	// Function 1 lays what it is called with in two slots of its own; function 0 has it in one, and makes blocks behind the call.
	keep := []string{ln(api.Sts, 0, 0), ln(api.Sts, 0, 1), ret}
	behind := func(lines ...string) string {
		list := join(lines, times(2, ln(api.New, 1, 3)), []string{ln(api.Lds, 1, 0), ln(api.Len, 0, 1), ret})
		return coded(rows(row(0, 0, 0, 1), row(len(list), 1, 0, 2)), []int{6}, append(list, keep...)...)
	}
	made := []string{ln(api.New, 0, 2), ln(api.Sts, 0, 0), ln(api.Call, 0, 1)}
	want := api.Result{Val: 2, Steps: 11, Used: 7, Gcs: 1}
	wantResult(t, "the caller holds it still", started(t, behind(made...), 14, 2, 99), want)
	want.Steps = 12
	wantResult(t, "the caller takes the answer", started(t, behind(ln(api.New, 0, 2), ln(api.Call, 0, 1), ln(api.Sts, 0, 0), ln(api.Lds, 1, 0)), 14, 2, 99), want)
	wantResult(t, "it is laid where it lay", started(t, behind(append(made, ln(api.Sts, 0, 0))...), 14, 2, 99), want)
	want = api.Result{Val: 6, Steps: 13, Used: 4, Gcs: 1}
	dropped := behind(append(made, ldi(0, 0), ln(api.Sts, 0, 0))...)
	lines := valueAt(dropped, 6, 2)
	dropped = withLine(dropped, lines-5, ln(api.Mov, 0, 1))
	wantResult(t, "no one holds it", started(t, dropped, 14, 2, 99), want)
	// In place of a frame that held it: function 1 calls itself in its place with it, once.
	s := coded(rows(row(0, 0, 0, 1), row(6, 1, 0, 2), row(10, 1, 0, 2)), nil, ln(api.New, 0, 2), ln(api.Call, 0, 1), ln(api.Sts, 0, 0), ln(api.Lds, 1, 0), ln(api.Len, 0, 1), ret,
		ln(api.Sts, 0, 0), ln(api.Sts, 0, 1), ln(api.Tcal, 0, 2), ret,
		ln(api.Sts, 0, 0), ln(api.New, 1, 3), ln(api.New, 1, 3), ln(api.Lds, 0, 0), ret)
	wantResult(t, "a frame in its place", started(t, s, 14, 2, 99), api.Result{Val: 2, Steps: 14, Used: 7, Gcs: 1})
}
