package check

import (
	"slim/api"
	"slim/code"
)

// flow goes through one function. Jumps lead onward alone: when a line's turn comes, every road to it is known.
type flow struct {
	code  code.Code
	first int
	roads []laid // of each line of the function
}

// roads tells the first line that reads what is not laid, as ErrFlow and its number.
func roads(c code.Code) (api.Errno, int) {
	for n := 0; n < len(c.Functions); n++ {
		f := begin(c, n)
		line := f.fault()
		if line >= 0 {
			return api.ErrFlow, line
		}
	}
	return api.OK, 0
}

func begin(c code.Code, n int) *flow {
	row := c.Function(n)
	f := &flow{code: c, first: row.First}
	count := c.End(n) - row.First
	if count > 0 {
		f.roads = make([]laid, count)
		f.arrive(row.First, &laid{reached: true, registers: entry(row)})
	}
	return f
}

// entry tells the registers in which a function finds what it is called with.
func entry(row code.Function) int {
	all := first(row.Params)
	if row.Want == 1 {
		all |= only(api.Self)
	}
	return all
}

// arrive adds a road to a line.
func (f *flow) arrive(line int, now *laid) {
	at := line - f.first
	if at >= 0 && at < len(f.roads) {
		f.roads[at].meet(now)
	}
}

// fault tells the first line that reads what is not laid: -1, if there is none.
func (f *flow) fault() int {
	for i := 0; i < len(f.roads); i++ {
		now := &f.roads[i]
		if !now.reached {
			continue
		}
		l := f.code.Line(f.first + i)
		if !f.mayRead(l, now) {
			return f.first + i
		}
		now.run(l)
		f.leave(f.first+i, l, now)
	}
	return -1
}

func (f *flow) leave(line int, l code.Line, now *laid) {
	if l.Op == api.Jmp || l.Op == api.Jz {
		f.arrive(l.X, now)
	}
	if goesOn(l.Op) {
		f.arrive(line+1, now)
	}
}

func (f *flow) mayRead(l code.Line, now *laid) bool {
	if l.Op == api.Lds || l.Op == api.Ldk {
		return now.hasSlot(l.X)
	}
	return f.read(l)&^now.registers == 0
}

// read tells the registers that a line reads.
func (f *flow) read(l code.Line) int {
	switch l.Op {
	case api.Mov, api.Neg, api.Not, api.Len, api.Fld:
		return only(l.X)
	case api.Add, api.Sub, api.Mul, api.Div, api.Mod, api.Eq, api.Lt, api.Le, api.Arr, api.Get:
		return only(l.X) | only(l.Y)
	case api.Put:
		return only(l.R) | only(l.X) | only(l.Y)
	case api.Set:
		return only(l.R) | only(l.Y)
	case api.Sts, api.Jz, api.Prn:
		return only(l.R)
	case api.Call, api.Tcal:
		return entry(f.code.Function(l.X))
	case api.Calc, api.Tclc:
		return first(l.X) | only(api.Self)
	case api.Ret:
		return only(0)
	}
	return 0
}

// run lays what a line lays.
func (a *laid) run(l code.Line) {
	switch l.Op {
	case api.Ldi, api.Mov, api.Lds, api.Add, api.Sub, api.Mul, api.Div, api.Mod, api.Eq, api.Lt, api.Le,
		api.Neg, api.Not, api.Fld, api.Get, api.Len, api.Rdi:
		a.registers |= only(l.R)
	case api.Ldk:
		a.registers |= only(l.R)
		a.unlaySlot(l.X)
	case api.Sts:
		a.laySlot(l.X)
	case api.Clr:
		a.unlaySlot(l.X)
	case api.New, api.Clo, api.Arr:
		a.registers = only(l.R)
	case api.Call, api.Calc:
		a.registers = only(0)
	}
}
