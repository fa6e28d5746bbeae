// Package code: what stands in a code's bytes, and the text that lists it.
package code

import "slim/api"

// Function: a row of the table of functions.
type Function struct {
	First  int // its first line
	Params int
	Want   int // 1, if it wants its closure
	Slots  int
}

// Line: an operation and its fields.
type Line struct {
	Op int
	R  int
	X  int
	Y  int
	P  int
}

// Code: a code's parts, in the order of its bytes.
type Code struct {
	Functions []Function
	Constants []int
	Lines     []Line
}

// Function tells row n: an empty one, if there is none.
func (c Code) Function(n int) Function {
	if n < 0 || n >= len(c.Functions) {
		return Function{}
	}
	return c.Functions[n]
}

// End tells the line behind the last one of function n.
func (c Code) End(n int) int {
	if n < 0 || n >= len(c.Functions)-1 {
		return len(c.Lines)
	}
	return c.Functions[n+1].First
}

// Constant tells constant n: 0, if there is none.
func (c Code) Constant(n int) int {
	if n < 0 || n >= len(c.Constants) {
		return 0
	}
	return c.Constants[n]
}

// Line tells line n: one of no operation, if there is none.
func (c Code) Line(n int) Line {
	if n < 0 || n >= len(c.Lines) {
		return Line{}
	}
	return c.Lines[n]
}

// Wrapped takes multiples of 2^63 away until a number of 63 bits is left.
func Wrapped(n int) int {
	return n << 1 >> 1
}

// number tells what some bytes say, the high one first; eight of them may say one below 0.
func number(s string, at int, size int) int {
	told := 0
	for i := at; i < at+size; i++ {
		if i >= 0 && i < len(s) {
			told = told<<8 | int(s[i])
		}
	}
	return told
}

// Read takes a code's bytes apart, or tells the first error of their form and where (P9).
func Read(s string) (Code, api.Errno, int) {
	if len(s) > api.MaxCode {
		return Code{}, api.ErrLong, 0
	}
	if !isWhole(s) {
		return Code{}, api.ErrForm, 0
	}
	r := &reader{src: s, at: api.Head}
	if !r.rows(number(s, 2, 2), number(s, 6, 2)) {
		return Code{}, api.ErrForm, r.at
	}
	if !r.constants(number(s, 4, 2)) {
		return Code{}, api.ErrForm, r.at
	}
	r.lines(number(s, 6, 2))
	return r.code, api.OK, 0
}

// isWhole tells whether the bytes begin with a head, and are as many as it says.
func isWhole(s string) bool {
	if len(s) < api.Head || s[:2] != "ml" {
		return false
	}
	functions := number(s, 2, 2)
	constants := number(s, 4, 2)
	lines := number(s, 6, 2)
	return functions > 0 && len(s) == api.Head+functions*api.FunSize+constants*api.NumSize+lines*api.OpSize
}

// reader: at is the place of what is read next, or of what is ill made.
type reader struct {
	src  string
	at   int
	code Code
}

func (r *reader) rows(count int, lines int) bool {
	for i := 0; i < count; i++ {
		row := Function{
			First:  number(r.src, r.at, 2),
			Params: number(r.src, r.at+2, 1),
			Want:   number(r.src, r.at+3, 1),
			Slots:  number(r.src, r.at+4, 2),
		}
		if !r.follows(row) || row.First >= lines {
			return false
		}
		r.code.Functions = append(r.code.Functions, row)
		r.at += api.FunSize
	}
	return true
}

// follows tells whether a row may stand behind those that were read.
func (r *reader) follows(row Function) bool {
	if row.Params > api.MaxArgs || row.Want > 1 || row.Slots > api.MaxSlots {
		return false
	}
	count := len(r.code.Functions)
	if count == 0 {
		return row.First == 0 && row.Params == 0 && row.Want == 0
	}
	return row.First > r.code.Function(count-1).First
}

func (r *reader) constants(count int) bool {
	for i := 0; i < count; i++ {
		told := number(r.src, r.at, api.NumSize)
		if Wrapped(told) != told {
			return false
		}
		r.code.Constants = append(r.code.Constants, told)
		r.at += api.NumSize
	}
	return true
}

func (r *reader) lines(count int) {
	for i := 0; i < count; i++ {
		line := Line{
			Op: number(r.src, r.at, 1),
			R:  number(r.src, r.at+1, 1),
			X:  number(r.src, r.at+2, 2),
			Y:  number(r.src, r.at+4, 2),
			P:  number(r.src, r.at+6, 2),
		}
		r.code.Lines = append(r.code.Lines, line)
		r.at += api.OpSize
	}
}
