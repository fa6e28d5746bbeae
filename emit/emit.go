// Package emit: the code of a text, so made that it does what P14 tells, in the room and the time of P15.
//
// Where a part begins, no register is in use: what waits lies in slots, since calls and new blocks leave registers unlaid, and a collection does not look at them.
package emit

import (
	"slim/api"
	"slim/code"
	"slim/scope"
)

// function: what becomes a function of the code.
type function struct {
	itself     int // the binding that means it in its own body, or Nobody
	parameters []int
	fields     []int // the bindings that its closure holds
	body       int
}

type emitter struct {
	tree      scope.Tree
	functions []function // those ahead of the row that comes next are done
	made      code.Code
	frame     *frame
}

// want: what is to become of a part's value.
type want struct {
	register int
	last     bool      // it is the function's answer; register is 0, and nothing is read later on
	later    scope.Set // the bindings that are read later on in the frame
}

// Code tells the code of a text that is well typed.
func Code(tree scope.Tree) code.Code {
	e := &emitter{tree: tree}
	e.functions = append(e.functions, function{itself: scope.Nobody, body: tree.Root()})
	// A function is found where the one around it is made: each node once, so that this ends.
	for i := 0; i < len(e.functions); i++ {
		next := e.functions[i]
		e.whole(next)
	}
	return e.made
}

// whole adds a function's row and lines.
func (e *emitter) whole(f function) {
	e.frame = newFrame()
	row := code.Function{First: len(e.made.Lines), Params: len(f.parameters)}
	read := e.tree.Node(f.body).Free
	if read.Has(f.itself) || len(f.fields) > 0 {
		row.Want = 1
		e.keepClosure(f)
	}
	for i := 0; i < len(f.parameters); i++ {
		e.keep(f.parameters[i], i, read)
	}
	e.part(f.body, want{last: true})
	row.Slots = e.frame.slots
	e.made.Functions = append(e.made.Functions, row)
}

// keepClosure lays the function's own closure in a slot, through which all is read that the closure holds.
func (e *emitter) keepClosure(f function) {
	slot := e.frame.take()
	e.line(code.Line{Op: api.Sts, R: api.Self, X: slot})
	e.frame.settle(f.itself, slot, nowhere)
	for i := 0; i < len(f.fields); i++ {
		e.frame.settle(f.fields[i], slot, i)
	}
}

// keep lays a register in a slot as the value of a binding, if that is among those which are read.
func (e *emitter) keep(binding int, register int, read scope.Set) {
	if !read.Has(binding) {
		return
	}
	slot := e.frame.take()
	e.frame.settle(binding, slot, nowhere)
	e.line(code.Line{Op: api.Sts, R: register, X: slot})
}

// load lays the value of a binding in a register, and clears its slot if nothing reads it later on.
func (e *emitter) load(binding int, register int, later scope.Set) {
	home := e.frame.homeOf(binding)
	op := api.Ldk
	if e.frame.reads(later, home.slot) {
		op = api.Lds
	}
	e.line(code.Line{Op: op, R: register, X: home.slot})
	if home.field != nowhere {
		e.line(code.Line{Op: api.Fld, R: register, X: register, Y: home.field})
	}
}

// drop clears the slots that only the way not taken would have read.
func (e *emitter) drop(other scope.Set, later scope.Set) {
	for slot := 0; slot < e.frame.top; slot++ {
		if e.frame.reads(other, slot) && !e.frame.reads(later, slot) {
			e.line(code.Line{Op: api.Clr, X: slot})
		}
	}
}

func (e *emitter) line(l code.Line) {
	e.made.Lines = append(e.made.Lines, l)
}

// jump adds a line whose aim is not known yet, and tells its number.
func (e *emitter) jump(op int, register int) int {
	e.line(code.Line{Op: op, R: register})
	return len(e.made.Lines) - 1
}

// aim lets a jump lead to the line that comes next.
func (e *emitter) aim(jump int) {
	if jump >= 0 && jump < len(e.made.Lines) {
		e.made.Lines[jump].X = len(e.made.Lines)
	}
}

// number lays a number in a register. Each number is a constant once.
func (e *emitter) number(n int, register int) {
	at := 0
	for at < len(e.made.Constants) && e.made.Constants[at] != n {
		at++
	}
	if at == len(e.made.Constants) {
		e.made.Constants = append(e.made.Constants, n)
	}
	e.line(code.Line{Op: api.Ldi, R: register, X: at})
}
