package check

import (
	"slim/api"
	"slim/code"
)

// What R, X, Y and P may be: the letters of P10, * for any, 0 for nothing else.
var fields = [...]string{
	api.Ldi: "rk00", api.Mov: "rr00", api.Lds: "rs00", api.Ldk: "rs00", api.Sts: "rs00", api.Clr: "0s00",
	api.Add: "rrr0", api.Sub: "rrr0", api.Mul: "rrr0", api.Div: "rrr*", api.Mod: "rrr*",
	api.Eq: "rrr0", api.Lt: "rrr0", api.Le: "rrr0", api.Neg: "rr00", api.Not: "rr00",
	api.Jmp: "0l00", api.Jz: "rl00",
	api.New: "r*00", api.Clo: "r*f0", api.Set: "r*r0", api.Fld: "rr*0",
	api.Arr: "rrr*", api.Get: "rrr*", api.Put: "rrr*", api.Len: "rr00", api.Prn: "r00*", api.Rdi: "r00*",
	api.Call: "0f00", api.Calc: "0a00", api.Tcal: "0f00", api.Tclc: "0a00", api.Ret: "0000",
}

// spot: a line, and what its fields are held against.
type spot struct {
	code  code.Code
	slots int // of its function
	line  int
	end   int // the line behind its function's last
}

// lines tells the first line that is ill made, as ErrOp and its number.
func lines(c code.Code) (api.Errno, int) {
	for n := 0; n < len(c.Functions); n++ {
		s := spot{code: c, slots: c.Function(n).Slots, end: c.End(n)}
		for s.line = c.Function(n).First; s.line < s.end; s.line++ {
			if !s.isWell() {
				return api.ErrOp, s.line
			}
		}
	}
	return api.OK, 0
}

func (s spot) isWell() bool {
	l := s.code.Line(s.line)
	if l.Op < 0 || l.Op >= len(fields) {
		return false
	}
	if s.line == s.end-1 && goesOn(l.Op) {
		return false
	}
	form := fields[l.Op]
	return len(form) == 4 && s.fits(form[0], l.R) && s.fits(form[1], l.X) && s.fits(form[2], l.Y) && s.fits(form[3], l.P)
}

// goesOn tells whether the line behind may be run next.
func goesOn(op int) bool {
	return op != api.Jmp && op != api.Tcal && op != api.Tclc && op != api.Ret
}

func (s spot) fits(letter byte, n int) bool {
	switch letter {
	case 'r':
		return n < api.Regs
	case 's':
		return n < s.slots
	case 'k':
		return n < len(s.code.Constants)
	case 'f':
		return n < len(s.code.Functions)
	case 'l':
		return n > s.line && n < s.end
	case 'a':
		return n <= api.MaxArgs
	case '*':
		return true
	}
	return n == 0
}
