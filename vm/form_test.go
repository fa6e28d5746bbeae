package vm_test

import (
	"strings"
	"testing"

	"slim/api"
	"slim/slim"
)

type checked struct {
	what string
	code string
	err  api.Errno
	at   int
}

func checkAll(t *testing.T, list []checked) {
	t.Helper()
	for _, c := range list {
		if err, at := slim.Machine().Check(c.code); err != c.err || at != c.at {
			t.Errorf("P9, P10: %s: Check = %d, %d, want %d at %d", c.what, err, at, c.err, c.at)
		}
		if err, at := slim.Machine().Start(c.code, 10, 2, nil); err != c.err || at != c.at {
			t.Errorf("P11: %s: Start = %d, %d, want %d at %d", c.what, err, at, c.err, c.at)
		}
		if c.err == api.ErrOp || c.err == api.ErrFlow {
			c.err, c.at = api.OK, 0
		}
		text, err, at := slim.Machine().List(c.code)
		if err != c.err || at != c.at || (text == "") != (err != api.OK) {
			t.Errorf("P9: %s: List = %.40q, %d, %d, want %d at %d", c.what, text, err, at, c.err, c.at)
		}
	}
}

func TestForm(t *testing.T) {
	main, ldi := row(0, 0, 0, 0), ln(api.Ldi, 0, 0)
	good := single(0, []int{7}, ldi, ret)
	two := func(second string, constants ...int) string {
		return coded(rows(main, second), constants, ldi, ret, ret, ret)
	}
	checkAll(t, []checked{
		{"DOC.md's example", "\x6d\x6c\x00\x01\x00\x01\x00\x02\x00\x00\x00\x00\x00\x00\x00\x00\x00\x00\x00\x00\x00\x07\x01\x00\x00\x00\x00\x00\x00\x00\x21\x00\x00\x00\x00\x00\x00\x00", api.OK, 0},
		{"nothing", "", api.ErrForm, 0},
		{"half a beginning", "m", api.ErrForm, 0},
		{"half a head", good[:7], api.ErrForm, 0},
		{"a head alone", good[:8], api.ErrForm, 0},
		{"another beginning", "lm" + good[2:], api.ErrForm, 0},
		{"a wrong first byte", "M" + good[1:], api.ErrForm, 0},
		{"a wrong second byte", "mL" + good[2:], api.ErrForm, 0},
		{"no function", coded(nil, nil), api.ErrForm, 0},
		{"no function, but lines", coded(nil, []int{1}, ldi, ret), api.ErrForm, 0},
		{"a byte too few", good[:len(good)-1], api.ErrForm, 0},
		{"a byte too many", good + "\x00", api.ErrForm, 0},
		{"a line too few", good[:len(good)-8], api.ErrForm, 0},
		{"a line too many", good + ret, api.ErrForm, 0},
		{"a byte too few, and an ill row", coded(rows(row(0, 1, 0, 0)), nil, ret)[:21], api.ErrForm, 0},
		{"no line", coded(rows(main), nil), api.ErrForm, 8},
		{"function 0 at line 1", coded(rows(row(1, 0, 0, 0)), nil, ret, ret), api.ErrForm, 8},
		{"function 0 with a parameter", coded(rows(row(0, 1, 0, 0)), nil, ret), api.ErrForm, 8},
		{"function 0 with its closure", coded(rows(row(0, 0, 1, 0)), nil, ret), api.ErrForm, 8},
		{"1,025 slots", single(1025, []int{1}, ldi, ret), api.ErrForm, 8},
		{"65,535 slots", single(65535, []int{1}, ldi, ret), api.ErrForm, 8},
		{"1,024 slots", single(1024, []int{1}, ldi, ret), api.OK, 0},
		{"four parameters, its closure, 1,024 slots", two(row(2, 4, 1, 1024), 1), api.OK, 0},
		{"five parameters", two(row(2, 5, 0, 0), 1), api.ErrForm, 14},
		{"255 parameters", two(row(2, 255, 0, 0), 1), api.ErrForm, 14},
		{"a want of 2", two(row(2, 1, 2, 0), 1), api.ErrForm, 14},
		{"function 1 has 1,025 slots", two(row(2, 1, 1, 1025), 1), api.ErrForm, 14},
		{"function 1 at line 0", two(row(0, 1, 0, 0), 1), api.ErrForm, 14},
		{"function 1 at the last line", two(row(3, 1, 0, 0), 1), api.OK, 0},
		{"function 1 behind the last line", two(row(4, 1, 0, 0), 1), api.ErrForm, 14},
		{"function 1 far behind", two(row(65535, 1, 0, 0), 1), api.ErrForm, 14},
		{"function 2 at function 1's line", coded(rows(main, row(2, 1, 0, 0), row(2, 1, 0, 0)), []int{1}, ldi, ret, ret, ret), api.ErrForm, 20},
		{"function 2 ahead of function 1", coded(rows(main, row(2, 1, 0, 0), row(1, 1, 0, 0)), []int{1}, ldi, ret, ret, ret), api.ErrForm, 20},
		{"an ill row ahead of an ill constant", two(row(2, 5, 0, 0), 1<<62), api.ErrForm, 14},
		{"an ill constant ahead of an ill line", coded(rows(main), []int{0, 1 << 62}, ln(0)), api.ErrForm, 22},
		{"two ill rows", coded(rows(main, row(1, 9, 0, 0), row(2, 9, 0, 0)), nil, ret, ret, ret), api.ErrForm, 14},
		{"two ill constants", single(0, []int{1, -1<<62 - 1, 1 << 62}, ldi, ret), api.ErrForm, 22},
		{"the first constant", single(0, []int{1 << 62, 0}, ldi, ret), api.ErrForm, 14},
		{"a constant below", single(0, []int{0, 0, -1<<62 - 1}, ldi, ret), api.ErrForm, 30},
		{"constants far out", single(0, []int{0, -1 << 63}, ldi, ret), api.ErrForm, 22},
		{"the last constants that there are", single(0, []int{1<<62 - 1, -1 << 62, -1}, ldi, ret), api.OK, 0},
	})
}

func TestLongest(t *testing.T) {
	ldi := ln(api.Ldi, 0, 0)
	four := rows(row(0, 0, 0, 1024), row(2, 0, 0, 0), row(4, 0, 0, 0), row(6, 0, 0, 0))
	lines := join([]string{ldi, ret, ldi, ret, ldi, ret}, times(65535-7, ldi), []string{ret})
	whole := coded(four, make([]int, 9461), lines...)
	if len(whole) != api.MaxCode {
		t.Fatalf("%d bytes", len(whole))
	}
	longer := coded(append(four, row(8, 0, 0, 0)), make([]int, 9461), lines...)
	checkAll(t, []checked{
		{"as long as may be", whole, api.OK, 0},
		{"too long, and else well made", longer, api.ErrLong, 0},
		{"as long as may be, of nothing", strings.Repeat("\x00", api.MaxCode), api.ErrForm, 0},
		{"a byte longer", strings.Repeat("m", api.MaxCode+1), api.ErrLong, 0},
		{"much longer", strings.Repeat(whole, 3), api.ErrLong, 0},
	})
}

func TestList(t *testing.T) {
	names := "? ldi mov lds ldk sts clr add sub mul div mod eq lt le neg not jmp jz new clo set fld arr get put len prn rdi call calc tcal tclc ret ?"
	lines, want := []string{}, "f 0 0 0 5\nf 7 4 1 1024\nk 4611686018427387903\nk -4611686018427387904\nk 0\n"
	for op, name := range strings.Fields(names) {
		lines = append(lines, ln(op, 255, 65535, 256, 1))
		want += name + " 255 65535 256 1\n"
	}
	lines = append(lines, ln(255, 0, 1, 2, 3))
	want += "? 0 1 2 3\n"
	s := coded(rows(row(0, 0, 0, 5), row(7, 4, 1, 1024)), []int{1<<62 - 1, -1 << 62, 0}, lines...)
	text, err, at := slim.Machine().List(s)
	if text != want || err != api.OK || at != 0 {
		t.Errorf("P9: List = %q, %d, %d, want %q", text, err, at, want)
	}
	text, err, at = slim.Machine().List(single(0, []int{7}, ln(api.Ldi), ret))
	if text != "f 0 0 0 0\nk 7\nldi 0 0 0 0\nret 0 0 0 0\n" || err != api.OK || at != 0 {
		t.Errorf("P9: List = %q, %d, %d", text, err, at)
	}
}
