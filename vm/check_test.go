package vm_test

import (
	"math/rand"
	"testing"

	"slim/api"
	"slim/slim"
)

// Each field of each operation, at and around its bounds: line 2 of a code of two functions, three constants, four slots.
func TestFields(t *testing.T) {
	if len(tableRows) != 33 {
		t.Fatalf("the table has %d operations", len(tableRows))
	}
	around := func(op int, fields [4]int) string {
		lines := []string{ret, ret, ln(op, fields[:]...), ret, ret, ret}
		return coded(rows(row(0, 0, 0, 9), row(1, 1, 0, 4)), []int{5, 6, 7}, lines...)
	}
	for op := range 256 {
		good := [4]int{}
		if told := tableRows[op]; told.fields[1] == "l" {
			good[1] = 3
		}
		for field := range 4 {
			for _, n := range []int{0, 1, 2, 3, 4, 5, 6, 7, 8, 9, 255, 256, 1023, 32768, 65535} {
				fields := good
				fields[field] = n
				if field == 0 && n > 255 {
					continue
				}
				s := around(op, fields)
				b, _, _ := takeApart(s)
				want, at := api.OK, 0
				if b.isIll(2) {
					want, at = api.ErrOp, 2
				}
				// Lines that read what is not laid stand further on, and count later.
				err, place := slim.Machine().Check(s)
				if want == api.ErrOp && (err != want || place != at) || want == api.OK && err == api.ErrOp {
					t.Errorf("P10: operation %d of %v: Check = %d, %d, want %d, %d", op, fields, err, place, want, at)
				}
			}
		}
	}
}

func TestLastLines(t *testing.T) {
	ldi := ln(api.Ldi)
	two := func(lines ...string) string { return coded(rows(row(0, 0, 0, 0), row(2, 1, 0, 0)), []int{1}, lines...) }
	checkAll(t, []checked{
		{"a function that runs into the next", two(ldi, ldi, ret), api.ErrOp, 1},
		{"the last function does not end", two(ldi, ret, ldi), api.ErrOp, 2},
		{"a condition last", two(ldi, ret, ret, ln(api.Jz, 0, 3)), api.ErrOp, 3},
		{"a condition last, whose way leads on", two(ldi, ln(api.Jz, 0, 2), ret), api.ErrOp, 1},
		{"a call last", two(ldi, ln(api.Call, 0, 1), ret), api.ErrOp, 1},
		{"a call of a closure last", two(ldi, ln(api.Calc, 0, 1), ret), api.ErrOp, 1},
		{"a call in its place last", two(ldi, ln(api.Tcal, 0, 1), ret), api.OK, 0},
		{"a jump last", two(ldi, ln(api.Jmp, 0, 2), ret), api.ErrOp, 1},
		{"a jump to itself", two(ldi, ret, ln(api.Jmp, 0, 2), ret), api.ErrOp, 2},
		{"a jump back", two(ldi, ret, ldi, ln(api.Jmp, 0, 2), ret), api.ErrOp, 3},
		{"a jump to the last line", two(ldi, ret, ln(api.Jmp, 0, 4), ldi, ret), api.OK, 0},
		{"a jump behind the last line", two(ldi, ret, ln(api.Jmp, 0, 5), ldi, ret), api.ErrOp, 2},
		{"a jump into the next function", two(ln(api.Jmp, 0, 2), ret, ret), api.ErrOp, 0},
		{"the first of two", two(ln(0), ln(0), ret), api.ErrOp, 0},
		{"a line that no road leads to", two(ldi, ret, ret, ln(99), ret), api.ErrOp, 3},
		{"ahead of what is not laid", two(ret, ret, ln(99), ret), api.ErrOp, 2},
	})
}

func TestRoads(t *testing.T) {
	ldi := func(r int) string { return ln(api.Ldi, r) }
	sts, lds, ldk, clr := ln(api.Sts, 0, 0), ln(api.Lds, 0, 0), ln(api.Ldk, 0, 0), ln(api.Clr, 0, 0)
	one := func(lines ...string) string { return single(1024, []int{1}, lines...) }
	two := func(params, want int, lines ...string) string {
		return coded(rows(row(0, 0, 0, 2), row(1, params, want, 2)), []int{1}, append([]string{ln(api.Tcal, 0, 0)}, lines...)...)
	}
	checkAll(t, []checked{
		{"nothing is laid at first", one(ret), api.ErrFlow, 0},
		{"a slot is not laid at first", one(lds, ret), api.ErrFlow, 0},
		{"a slot is laid", one(ldi(0), sts, lds, ret), api.OK, 0},
		{"the last slot", one(ldi(0), ln(api.Sts, 0, 1023), ln(api.Lds, 1, 1023), ret), api.OK, 0},
		{"the one ahead of the last slot", one(ldi(0), ln(api.Sts, 0, 1023), ln(api.Lds, 1, 1022), ret), api.ErrFlow, 2},
		{"slots that lie 64 apart", one(ldi(0), ln(api.Sts, 0, 5), ln(api.Lds, 1, 69), ret), api.ErrFlow, 2},
		{"a slot that was taken", one(ldi(0), sts, ldk, lds, ret), api.ErrFlow, 3},
		{"a slot that was taken may be laid again", one(ldi(0), sts, ldk, sts, ldk, ret), api.OK, 0},
		{"a slot that was cleared", one(ldi(0), sts, clr, lds, ret), api.ErrFlow, 3},
		{"a slot that was never laid may be cleared", one(clr, ldi(0), ret), api.OK, 0},
		{"a slot that is not laid cannot be taken", one(ldi(0), ldk, ret), api.ErrFlow, 1},
		{"a block is laid alone", one(ldi(0), ldi(1), ln(api.New, 1, 0), ret), api.ErrFlow, 3},
		{"a closure is laid alone", one(ldi(0), ldi(1), ln(api.Clo, 1, 0), ret), api.ErrFlow, 3},
		{"an array is laid alone", one(ldi(0), ldi(1), ln(api.Arr, 1, 0, 1), ret), api.ErrFlow, 3},
		{"slots stay", one(ldi(0), sts, ln(api.New, 1, 0), lds, ret), api.OK, 0},
		{"an answer is laid alone", two(1, 0, ldi(1), ln(api.Call, 0, 1), ln(api.Mov, 0, 1), ret), api.ErrFlow, 3},
		{"an answer is laid", two(1, 0, ln(api.Call, 0, 1), ret), api.OK, 0},
		{"a closure's answer is laid alone", two(1, 1, ldi(1), ln(api.Calc, 0, 1), ln(api.Mov, 0, 7), ret), api.ErrFlow, 3},
		{"too few parameters", two(1, 0, ln(api.Mov, 0, 1), ret), api.ErrFlow, 1},
		{"the last parameter", two(4, 0, ln(api.Mov, 0, 3), ret), api.OK, 0},
		{"the closure", two(0, 1, ln(api.Mov, 0, 7), ret), api.OK, 0},
		{"no closure", two(4, 0, ln(api.Mov, 0, 7), ret), api.ErrFlow, 1},
		{"a call without an argument", two(2, 0, ldi(0), ln(api.New, 0, 0), ln(api.Call, 0, 1), ret), api.ErrFlow, 3},
		{"a call without a closure", two(0, 1, ln(api.New, 0, 0), ln(api.Tcal, 0, 1)), api.ErrFlow, 2},
		{"a closure's call without it", two(1, 0, ln(api.Tclc, 0, 1)), api.ErrFlow, 1},
		{"a closure's call without an argument", two(1, 1, ln(api.Tclc, 0, 2)), api.ErrFlow, 1},
		{"a closure's call", two(1, 1, ln(api.Tclc, 0, 1)), api.OK, 0},
		{"the two registers of a sum", one(ldi(0), ln(api.Add, 1, 0, 2), ret), api.ErrFlow, 1},
		{"what is put", one(ldi(0), ldi(1), ln(api.Put, 0, 1, 2), ret), api.ErrFlow, 2},
		{"where it is put", one(ldi(0), ldi(1), ln(api.Put, 0, 2, 1), ret), api.ErrFlow, 2},
		{"in what it is put", one(ldi(0), ldi(1), ln(api.Put, 2, 0, 1), ret), api.ErrFlow, 2},
		{"laid on one way alone", one(ldi(0), ln(api.Jz, 0, 3), ldi(1), ln(api.Mov, 0, 1), ret), api.ErrFlow, 3},
		{"laid on both ways", one(ldi(0), ln(api.Jz, 0, 4), ldi(1), ln(api.Jmp, 0, 5), ldi(1), ln(api.Mov, 0, 1), ret), api.OK, 0},
		{"unlaid on one way", one(ldi(0), sts, ln(api.Jz, 0, 4), clr, lds, ret), api.ErrFlow, 4},
		{"a condition whose ways are one", one(ldi(0), ln(api.Jz, 0, 2), ret), api.OK, 0},
		{"no road leads there", one(ldi(0), ret, ln(api.Mov, 0, 5), lds, ret), api.OK, 0},
		{"no road leads there, whatever is unlaid", one(ldi(0), ret, ln(api.New, 3, 0), clr, lds, ret), api.OK, 0},
		{"a line that no road leads to makes no road", one(ldi(0), sts, ln(api.Jmp, 0, 4), clr, lds, ret), api.OK, 0},
		{"behind a jump", one(ldi(0), ln(api.Jmp, 0, 3), ldi(1), ln(api.Mov, 0, 1), ret), api.ErrFlow, 3},
		{"the first line of the first function", two(0, 0, ret, ret), api.ErrFlow, 1},
		{"what one function lays another has not", coded(rows(row(0, 0, 0, 1), row(3, 0, 0, 1)), []int{1}, ldi(0), sts, ret, lds, ret), api.ErrFlow, 3},
	})
}

// anyCode: lines of all kinds whose fields mostly are well made.
func anyCode(r *rand.Rand) string {
	functions := 1 + r.Intn(3)
	counts, firsts, all := []int{}, []int{}, 0
	for range functions {
		counts, firsts = append(counts, 1+r.Intn(9)), append(firsts, all)
		all += counts[len(counts)-1]
	}
	list, lines := []string{row(0, 0, 0, r.Intn(4))}, []string{}
	for i := 1; i < functions; i++ {
		list = append(list, row(firsts[i], r.Intn(4), r.Intn(2), r.Intn(4)))
	}
	for i := range functions {
		for k := range counts[i] {
			lines = append(lines, anyLine(r, firsts[i]+k, firsts[i]+counts[i], functions, k == counts[i]-1))
		}
	}
	return coded(list, []int{0, 1, r.Int()>>1 - 1<<61}, lines...)
}

func anyLine(r *rand.Rand, line, end, functions int, last bool) string {
	op := 1 + r.Intn(33)
	if last && r.Intn(20) > 0 {
		op = []int{api.Ret, api.Ret, api.Ret, api.Tcal, api.Tclc}[r.Intn(5)]
	} else if r.Intn(3) == 0 {
		op = []int{api.Ldi, api.Sts, api.Lds, api.Jz}[r.Intn(4)]
	}
	fields := [4]int{}
	for i, kind := range tableRows[op].fields {
		switch kind {
		case "r":
			fields[i] = r.Intn(4)
			if r.Intn(8) == 0 {
				fields[i] = 7
			}
		case "s", "k", "any":
			fields[i] = r.Intn(3)
		case "f":
			fields[i] = r.Intn(functions)
		case "l":
			fields[i] = line + 1 + r.Intn(max(1, end-line-1))
		case "a":
			fields[i] = r.Intn(3)
		}
	}
	return ln(op, fields[:]...)
}

// Codes of all kinds are held against P9 and P10 road by road.
func TestAnyCodes(t *testing.T) {
	r := rand.New(rand.NewSource(9))
	seen := map[api.Errno]int{}
	for range 40000 {
		s := anyCode(r)
		if r.Intn(4) == 0 {
			b := []byte(s)
			b[r.Intn(len(b))] = byte(r.Intn(256))
			s = string(b)
		}
		// Till it is well made, what is ill made gives way to what is always well made.
		for range 9 {
			want, place := plainCheck(s)
			err, at := slim.Machine().Check(s)
			if err != want || at != place {
				text, _, _ := slim.Machine().List(s)
				t.Fatalf("P9, P10: Check = %d, %d, want %d, %d of %x\n%s", err, at, want, place, s, text)
			}
			seen[err]++
			if err != api.ErrOp && err != api.ErrFlow {
				break
			}
			s = withLine(s, at, ln(api.Ldi, r.Intn(3), 0))
		}
	}
	for _, err := range []api.Errno{api.OK, api.ErrForm, api.ErrOp, api.ErrFlow} {
		if seen[err] < 200 {
			t.Errorf("only %d codes were %d", seen[err], err)
		}
	}
}

func withLine(s string, at int, line string) string {
	place := 8 + 6*valueAt(s, 2, 2) + 8*valueAt(s, 4, 2) + 8*at
	return s[:place] + line + s[place+8:]
}
