package emit

import (
	"slim/api"
	"slim/code"
	"slim/parts"
	"slim/scope"
)

// isPlain tells whether a part is loaded into a register without touching another, and at any time.
func (e *emitter) isPlain(n int) bool {
	switch e.tree.Node(n).Kind {
	case parts.Num, parts.True, parts.False, parts.Unit, parts.Name:
		return true
	}
	return false
}

func (e *emitter) plain(n int, register int, later scope.Set) {
	node := e.tree.Node(n)
	switch node.Kind {
	case parts.Num:
		e.number(node.Num, register)
	case parts.True:
		e.number(1, register)
	case parts.Name:
		for _, binding := range node.Binds {
			e.load(binding, register, later)
		}
	default:
		e.number(0, register)
	}
}

// behind tells the bindings that are read behind part i of a part: those that are plain are loaded behind all others.
func (e *emitter) behind(n int, i int, later scope.Set) scope.Set {
	plain := e.isPlain(e.tree.Kid(n, i))
	for j := 0; j < len(e.tree.Node(n).Kids); j++ {
		kid := e.tree.Kid(n, j)
		same := e.isPlain(kid) == plain
		if same && j > i || !same && !plain {
			later = later.Joined(e.free(kid))
		}
	}
	return later
}

// operands lays the values of a part's parts in registers, from the first one on (behind the last register comes register 0).
func (e *emitter) operands(n int, first int, later scope.Set) {
	top := e.frame.top
	kept := e.lastMade(n)
	e.makeAll(n, first, kept, later)
	slot := top
	for i := 0; i < len(e.tree.Node(n).Kids); i++ {
		register := (first + i) % api.Regs
		kid := e.tree.Kid(n, i)
		if e.isPlain(kid) {
			e.plain(kid, register, e.behind(n, i, later))
		} else if i != kept {
			e.line(code.Line{Op: api.Ldk, R: register, X: slot})
			slot++
		}
	}
	e.frame.top = top
}

// lastMade tells the last of a part's parts that is not plain.
func (e *emitter) lastMade(n int) int {
	last := nowhere
	for i := 0; i < len(e.tree.Node(n).Kids); i++ {
		if !e.isPlain(e.tree.Kid(n, i)) {
			last = i
		}
	}
	return last
}

// makeAll runs those of a part's parts that are not plain, and lays them in slots, one behind the other; but the one that is kept stays in its register.
func (e *emitter) makeAll(n int, first int, kept int, later scope.Set) {
	for i := 0; i < len(e.tree.Node(n).Kids); i++ {
		kid := e.tree.Kid(n, i)
		if e.isPlain(kid) {
			continue
		}
		register := (first + i) % api.Regs
		e.part(kid, want{register: register, later: e.behind(n, i, later)})
		if i != kept {
			slot := e.frame.take()
			e.line(code.Line{Op: api.Sts, R: register, X: slot})
		}
	}
}
