package run

import (
	"slim/api"
	"slim/code"
)

// step runs the next line (P12).
func (r *Run) step() {
	r.steps++
	l := r.code.Line(r.next)
	r.next++
	switch {
	case l.Op >= api.Ldi && l.Op <= api.Clr:
		r.move(l)
	case l.Op >= api.Add && l.Op <= api.Not:
		r.reckon(l)
	case l.Op == api.Jmp || l.Op == api.Jz:
		r.jump(l)
	case l.Op == api.New || l.Op == api.Clo || l.Op == api.Arr:
		r.build(l)
	case l.Op >= api.Set && l.Op <= api.Len:
		r.touch(l)
	case l.Op == api.Prn:
		r.print(l)
	case l.Op == api.Rdi:
		r.input(l)
	case l.Op >= api.Call && l.Op <= api.Tclc:
		r.call(l)
	case l.Op == api.Ret:
		r.ret()
	default:
		r.stuck()
	}
}

func (r *Run) move(l code.Line) {
	v := r.moved(l)
	switch l.Op {
	case api.Sts, api.Clr:
		r.setSlot(l.X, v)
		return
	case api.Ldk:
		r.setSlot(l.X, value{})
	}
	r.setRegister(l.R, v)
}

func (r *Run) moved(l code.Line) value {
	switch l.Op {
	case api.Ldi:
		return numberOf(r.code.Constant(l.X))
	case api.Mov:
		return r.register(l.X)
	case api.Lds, api.Ldk:
		return r.slot(l.X)
	case api.Sts:
		return r.register(l.R)
	}
	return value{}
}

func (r *Run) reckon(l code.Line) {
	a := r.register(l.X)
	b := r.register(l.Y)
	if l.Op == api.Neg || l.Op == api.Not {
		// Y names no register here: what lies in register 0 is not asked for.
		b = value{}
	}
	if a.isBlock || b.isBlock {
		r.stuck()
		return
	}
	if b.n == 0 && (l.Op == api.Div || l.Op == api.Mod) {
		r.end(api.RunDiv, l.P)
		return
	}
	r.setRegister(l.R, numberOf(code.Wrapped(reckoned(l.Op, a.n, b.n))))
}

func reckoned(op int, a int, b int) int {
	switch op {
	case api.Add:
		return a + b
	case api.Sub:
		return a - b
	case api.Mul:
		return a * b
	case api.Neg:
		return -a
	case api.Not:
		return truth(a == 0)
	case api.Eq:
		return truth(a == b)
	case api.Lt:
		return truth(a < b)
	case api.Le:
		return truth(a <= b)
	}
	if b == 0 {
		return 0
	}
	if op == api.Div {
		return a / b
	}
	return a % b
}

func truth(holds bool) int {
	if holds {
		return 1
	}
	return 0
}

func (r *Run) jump(l code.Line) {
	if l.Op == api.Jmp {
		r.next = l.X
		return
	}
	v := r.register(l.R)
	if v.isBlock {
		r.stuck()
		return
	}
	if v.n == 0 {
		r.next = l.X
	}
}

func (r *Run) print(l code.Line) {
	v := r.register(l.R)
	if v.isBlock {
		r.stuck()
		return
	}
	if len(r.out) >= api.MaxOut {
		r.end(api.RunOutput, l.P)
		return
	}
	r.out = append(r.out, v.n)
}

func (r *Run) input(l code.Line) {
	if r.read >= len(r.in) {
		r.end(api.RunInput, l.P)
		return
	}
	r.setRegister(l.R, numberOf(code.Wrapped(r.in[r.read])))
	r.read++
}

func (r *Run) call(l code.Line) {
	function := l.X
	if l.Op == api.Calc || l.Op == api.Tclc {
		function = r.heap.functionOf(r.register(api.Self))
		if function == noFunction || r.code.Function(function).Params != l.X {
			r.stuck()
			return
		}
	}
	back := r.next
	if l.Op == api.Tcal || l.Op == api.Tclc {
		back = r.leave()
	}
	if len(r.frames) >= r.depth {
		r.end(api.OutStack, 0)
		return
	}
	r.enter(function, back)
}

func (r *Run) ret() {
	v := r.register(0)
	if len(r.frames) > 1 {
		r.next = r.leave()
		return
	}
	if v.isBlock {
		r.stuck()
		return
	}
	r.val = v.n
	r.end(api.OK, 0)
}
