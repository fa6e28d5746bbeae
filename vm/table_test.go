package vm_test

import (
	"strings"

	"slim/api"
)

// DOC.md's table of operations (P10), but for Call to Ret's reads and lays in short.
const table = `
Ldi | r | k | 0 | 0 | | R
Mov Neg Not Len | r | r | 0 | 0 | X | R
Lds | r | s | 0 | 0 | slot | R
Ldk | r | s | 0 | 0 | slot | R unlays
Sts | r | s | 0 | 0 | R | slot
Clr | 0 | s | 0 | 0 | | unlays
Add Sub Mul Eq Lt Le | r | r | r | 0 | X Y | R
Div Mod Get | r | r | r | any | X Y | R
Arr | r | r | r | any | X Y | R alone
Put | r | r | r | any | R X Y |
Jmp | 0 | l | 0 | 0 | |
Jz | r | l | 0 | 0 | R |
New | r | any | 0 | 0 | | R alone
Clo | r | any | f | 0 | | R alone
Set | r | any | r | 0 | R Y |
Fld | r | r | any | 0 | X | R
Prn | r | 0 | 0 | any | R |
Rdi | r | 0 | 0 | any | | R
Call | 0 | f | 0 | 0 | function | zero alone
Tcal | 0 | f | 0 | 0 | function |
Calc | 0 | a | 0 | 0 | closure | zero alone
Tclc | 0 | a | 0 | 0 | closure |
Ret | 0 | 0 | 0 | 0 | zero |
`

var opNames = strings.Fields("none Ldi Mov Lds Ldk Sts Clr Add Sub Mul Div Mod Eq Lt Le Neg Not Jmp Jz New Clo Set Fld Arr Get Put Len Prn Rdi Call Calc Tcal Tclc Ret")

type tableRow struct {
	fields [4]string
	reads  string
	lays   string
}

// tableRows: the table, by operation.
var tableRows = readTable()

func readTable() map[int]tableRow {
	all := map[int]tableRow{}
	for _, text := range strings.Split(strings.TrimSpace(table), "\n") {
		cells := strings.Split(text, "|")
		for i := range cells {
			cells[i] = strings.TrimSpace(cells[i])
		}
		for _, name := range strings.Fields(cells[0]) {
			for op, known := range opNames {
				if name == known {
					all[op] = tableRow{[4]string(cells[1:5]), cells[5], cells[6]}
				}
			}
		}
	}
	return all
}

// bare: a code taken apart in the plainest way.
type bare struct {
	rows      [][4]int // first, parameters, want, slots
	constants []int
	lines     [][5]int // op, r, x, y, p
}

func valueAt(s string, at, size int) int {
	n := 0
	for _, b := range []byte(s[at : at+size]) {
		n = n*256 + int(b)
	}
	return n
}

// takeApart: P9.
func takeApart(s string) (bare, api.Errno, int) {
	b := bare{}
	if len(s) > 600000 {
		return b, api.ErrLong, 0
	}
	if len(s) < 8 || s[0] != 'm' || s[1] != 'l' {
		return b, api.ErrForm, 0
	}
	functions, constants, lines := valueAt(s, 2, 2), valueAt(s, 4, 2), valueAt(s, 6, 2)
	if functions == 0 || len(s) != 8+6*functions+8*constants+8*lines {
		return b, api.ErrForm, 0
	}
	at, ahead := 8, -1
	for i := range functions {
		r := [4]int{valueAt(s, at, 2), valueAt(s, at+2, 1), valueAt(s, at+3, 1), valueAt(s, at+4, 2)}
		if r[1] > 4 || r[2] > 1 || r[3] > 1024 || r[0] >= lines || r[0] <= ahead || i == 0 && (r[0] != 0 || r[1] != 0 || r[2] != 0) {
			return b, api.ErrForm, at
		}
		b.rows, at, ahead = append(b.rows, r), at+6, r[0]
	}
	for range constants {
		n := valueAt(s, at, 8)
		if n < -1<<62 || n > 1<<62-1 {
			return b, api.ErrForm, at
		}
		b.constants, at = append(b.constants, n), at+8
	}
	for range lines {
		b.lines = append(b.lines, [5]int{int(s[at]), int(s[at+1]), valueAt(s, at+2, 2), valueAt(s, at+4, 2), valueAt(s, at+6, 2)})
		at += 8
	}
	return b, api.OK, 0
}

func (b bare) end(function int) int {
	if function+1 < len(b.rows) {
		return b.rows[function+1][0]
	}
	return len(b.lines)
}

func (b bare) functionOf(line int) int {
	found := 0
	for i, r := range b.rows {
		if r[0] <= line {
			found = i
		}
	}
	return found
}

// isIll: P10's first half, of one line.
func (b bare) isIll(line int) bool {
	l, function := b.lines[line], b.functionOf(line)
	told, ok := tableRows[l[0]]
	if !ok {
		return true
	}
	bounds := map[string]int{"r": 8, "s": b.rows[function][3], "k": len(b.constants), "f": len(b.rows), "l": b.end(function), "a": 5, "any": 65536, "0": 1}
	for i, kind := range told.fields {
		if l[i+1] >= bounds[kind] || kind == "l" && l[i+1] <= line {
			return true
		}
	}
	return line == b.end(function)-1 && !strings.Contains("Jmp Tcal Tclc Ret", opNames[l[0]])
}

// reads: what a line reads, by name.
func (b bare) reads(line int) []string {
	l := b.lines[line]
	register := func(n int) string { return "r" + string(rune('0'+n)) }
	list := []string{}
	count, closure := 0, false
	for _, what := range strings.Fields(tableRows[l[0]].reads) {
		switch what {
		case "R":
			list = append(list, register(l[1]))
		case "X":
			list = append(list, register(l[2]))
		case "Y":
			list = append(list, register(l[3]))
		case "slot":
			list = append(list, "s"+bytesOf(l[2], 2))
		case "zero":
			count = 1
		case "function":
			count, closure = b.rows[l[2]][1], b.rows[l[2]][2] == 1
		case "closure":
			count, closure = l[2], true
		}
	}
	for n := range count {
		list = append(list, register(n))
	}
	if closure {
		list = append(list, register(7))
	}
	return list
}

// lay: what is laid behind a line, as a set of its own.
func (b bare) lay(line int, laid map[string]bool) map[string]bool {
	l := b.lines[line]
	told := tableRows[l[0]].lays
	next := map[string]bool{}
	for name := range laid {
		if !strings.Contains(told, "alone") || name[0] != 'r' {
			next[name] = true
		}
	}
	slot := "s" + bytesOf(l[2], 2)
	for _, what := range strings.Fields(told) {
		switch what {
		case "R":
			next["r"+string(rune('0'+l[1]))] = true
		case "zero":
			next["r0"] = true
		case "slot":
			next[slot] = true
		case "unlays":
			delete(next, slot)
		}
	}
	return next
}

// roads: each road on from a line; the first line that reads what is not laid on one, or least as it was.
func (b bare) roads(line int, laid map[string]bool, least int) int {
	for _, name := range b.reads(line) {
		if !laid[name] {
			least = min(least, line)
		}
	}
	l := b.lines[line]
	next := b.lay(line, laid)
	name := opNames[l[0]]
	if name == "Jmp" || name == "Jz" {
		least = b.roads(l[2], next, least)
	}
	if !strings.Contains("Jmp Tcal Tclc Ret", name) {
		least = b.roads(line+1, next, least)
	}
	return least
}

// plainCheck: P9 and P10, road by road.
func plainCheck(s string) (api.Errno, int) {
	b, err, at := takeApart(s)
	if err != api.OK {
		return err, at
	}
	for i := range b.lines {
		if b.isIll(i) {
			return api.ErrOp, i
		}
	}
	for i, r := range b.rows {
		laid := map[string]bool{}
		for n := range r[1] {
			laid["r"+string(rune('0'+n))] = true
		}
		if r[2] == 1 {
			laid["r7"] = true
		}
		if least := b.roads(r[0], laid, b.end(i)); least < b.end(i) {
			return api.ErrFlow, least
		}
	}
	return api.OK, 0
}
