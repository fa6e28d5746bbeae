package emit

import (
	"slim/api"
	"slim/code"
	"slim/parts"
	"slim/scope"
)

// part adds the lines of a part.
func (e *emitter) part(n int, w want) {
	switch e.tree.Node(n).Kind {
	case parts.Let:
		e.let(n, w)
	case parts.LetTuple:
		e.letTuple(n, w)
	case parts.Seq:
		e.first(n, w)
		e.part(e.tree.Kid(n, 1), w)
	case parts.If:
		e.choice(n, w)
	case parts.Call:
		e.call(n, w)
	default:
		e.value(n, w)
		if w.last {
			e.line(code.Line{Op: api.Ret})
		}
	}
}

// first lays the value of a part's first part in register 0. (What the part binds has no slot yet, so that it may be among what is read later on.)
func (e *emitter) first(n int, w want) {
	later := w.later
	for i := 1; i < len(e.tree.Node(n).Kids); i++ {
		later = later.Joined(e.free(e.tree.Kid(n, i)))
	}
	e.part(e.tree.Kid(n, 0), want{later: later})
}

func (e *emitter) free(n int) scope.Set {
	return e.tree.Node(n).Free
}

func (e *emitter) let(n int, w want) {
	top := e.frame.top
	e.first(n, w)
	body := e.tree.Kid(n, 1)
	for _, binding := range e.tree.Node(n).Binds {
		e.keep(binding, 0, e.free(body))
	}
	e.part(body, w)
	e.frame.top = top
}

func (e *emitter) letTuple(n int, w want) {
	top := e.frame.top
	e.first(n, w)
	body := e.tree.Kid(n, 1)
	binds := e.tree.Node(n).Binds
	for i := 0; i < len(binds); i++ {
		if e.free(body).Has(binds[i]) {
			e.line(code.Line{Op: api.Fld, R: 1, X: 0, Y: i})
			e.keep(binds[i], 1, e.free(body))
		}
	}
	e.part(body, w)
	e.frame.top = top
}

func (e *emitter) choice(n int, w want) {
	e.first(n, w)
	yes := e.tree.Kid(n, 1)
	no := e.tree.Kid(n, 2)
	past := e.jump(api.Jz, 0)
	e.way(yes, no, w)
	if w.last {
		e.aim(past)
		e.way(no, yes, w)
		return
	}
	end := e.jump(api.Jmp, 0)
	e.aim(past)
	e.way(no, yes, w)
	e.aim(end)
}

func (e *emitter) way(taken int, other int, w want) {
	e.drop(e.free(other), w.later.Joined(e.free(taken)))
	e.part(taken, w)
}

func (e *emitter) call(n int, w want) {
	e.operands(n, api.Self, w.later)
	count := len(e.tree.Node(n).Kids) - 1
	if w.last {
		e.line(code.Line{Op: api.Tclc, X: count})
		return
	}
	e.line(code.Line{Op: api.Calc, X: count})
	if w.register != 0 {
		e.line(code.Line{Op: api.Mov, R: w.register, X: 0})
	}
}
