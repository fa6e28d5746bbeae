package emit

import (
	"slim/api"
	"slim/code"
	"slim/parts"
	"slim/scope"
	"slim/words"
)

// value adds the lines of a part that is neither last nor leads to one that is.
func (e *emitter) value(n int, w want) {
	node := e.tree.Node(n)
	switch node.Kind {
	case parts.Read:
		e.line(code.Line{Op: api.Rdi, R: w.register, P: node.At})
	case parts.Tuple:
		e.tuple(n, w)
	case parts.Fun:
		e.closure(n, w)
	case parts.Neg, parts.Not, parts.Prod, parts.Sum, parts.Cmp, parts.Index, parts.Len, parts.Array:
		e.operands(n, 0, w.later)
		e.operation(n, w.register)
	case parts.Print:
		e.operands(n, 0, w.later)
		e.line(code.Line{Op: api.Prn, R: 0, P: node.At})
		e.number(0, w.register)
	case parts.Put:
		e.operands(n, 0, w.later)
		e.line(code.Line{Op: api.Put, R: 0, X: 1, Y: 2, P: node.At})
		e.number(0, w.register)
	default:
		e.plain(n, w.register, w.later)
	}
}

// operation adds the line that lays in a register what is made of the first ones.
func (e *emitter) operation(n int, register int) {
	node := e.tree.Node(n)
	switch node.Kind {
	case parts.Neg:
		e.line(code.Line{Op: api.Neg, R: register})
	case parts.Not:
		e.line(code.Line{Op: api.Not, R: register})
	case parts.Len:
		e.line(code.Line{Op: api.Len, R: register})
	case parts.Index:
		e.line(code.Line{Op: api.Get, R: register, Y: 1, P: node.At})
	case parts.Array:
		e.line(code.Line{Op: api.Arr, R: register, Y: 1, P: node.At})
	default:
		e.between(node.Word, register, node.At)
	}
}

// between adds the line of a sign between two numbers.
func (e *emitter) between(sign int, register int, at int) {
	l := code.Line{R: register, X: 0, Y: 1}
	switch sign {
	case words.Plus:
		l.Op = api.Add
	case words.Minus:
		l.Op = api.Sub
	case words.Times:
		l.Op = api.Mul
	case words.Over:
		l.Op = api.Div
		l.P = at
	case words.Rest:
		l.Op = api.Mod
		l.P = at
	case words.Equal, words.Unequal:
		l.Op = api.Eq
	case words.Less:
		l.Op = api.Lt
	case words.AtMost:
		l.Op = api.Le
	case words.Greater:
		l = code.Line{Op: api.Lt, R: register, X: 1, Y: 0}
	case words.AtLeast:
		l = code.Line{Op: api.Le, R: register, X: 1, Y: 0}
	}
	e.line(l)
	if sign == words.Unequal {
		e.line(code.Line{Op: api.Not, R: register, X: register})
	}
}

// tuple: its members wait in slots, as a new block leaves all registers but its own unlaid.
func (e *emitter) tuple(n int, w want) {
	top := e.frame.top
	e.makeAll(n, 0, nowhere, w.later)
	count := len(e.tree.Node(n).Kids)
	e.line(code.Line{Op: api.New, R: w.register, X: count})
	member := (w.register + 1) % api.Regs
	slot := top
	for i := 0; i < count; i++ {
		kid := e.tree.Kid(n, i)
		if e.isPlain(kid) {
			e.plain(kid, member, e.behind(n, i, w.later))
		} else {
			e.line(code.Line{Op: api.Ldk, R: member, X: slot})
			slot++
		}
		e.line(code.Line{Op: api.Set, R: w.register, X: i, Y: member})
	}
	e.frame.top = top
}

// closure: it holds what its body reads from around it, and no more: all of that is in scope where the text makes the function.
func (e *emitter) closure(n int, w want) {
	node := e.tree.Node(n)
	fields := node.Free.List()
	e.line(code.Line{Op: api.Clo, R: w.register, X: len(fields), Y: len(e.functions)})
	field := (w.register + 1) % api.Regs
	left := node.Free
	for i := 0; i < len(fields); i++ {
		left = left.Without(fields[i : i+1])
		e.load(fields[i], field, w.later.Joined(left))
		e.line(code.Line{Op: api.Set, R: w.register, X: i, Y: field})
	}
	made := function{itself: scope.Nobody, fields: fields, body: e.tree.Kid(n, 0)}
	if len(node.Binds) > 0 {
		made.itself = node.Binds[0]
		made.parameters = append([]int{}, node.Binds[1:]...)
	}
	e.functions = append(e.functions, made)
}
