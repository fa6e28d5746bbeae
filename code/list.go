package code

import (
	"slim/api"
	"strconv"
)

var names = [...]string{
	api.Ldi: "ldi", api.Mov: "mov", api.Lds: "lds", api.Ldk: "ldk", api.Sts: "sts", api.Clr: "clr",
	api.Add: "add", api.Sub: "sub", api.Mul: "mul", api.Div: "div", api.Mod: "mod",
	api.Eq: "eq", api.Lt: "lt", api.Le: "le", api.Neg: "neg", api.Not: "not", api.Jmp: "jmp", api.Jz: "jz",
	api.New: "new", api.Clo: "clo", api.Set: "set", api.Fld: "fld",
	api.Arr: "arr", api.Get: "get", api.Put: "put", api.Len: "len", api.Prn: "prn", api.Rdi: "rdi",
	api.Call: "call", api.Calc: "calc", api.Tcal: "tcal", api.Tclc: "tclc", api.Ret: "ret",
}

func nameOf(op int) string {
	if op <= 0 || op >= len(names) {
		return "?"
	}
	return names[op]
}

// Text lists a code, a line for each function, constant and line (P9).
func (c Code) Text() string {
	// Bytes are gathered, since a text that grows by each line would be copied as often.
	list := []byte{}
	for i := 0; i < len(c.Functions); i++ {
		f := c.Functions[i]
		list = addLine(list, "f", []int{f.First, f.Params, f.Want, f.Slots})
	}
	for i := 0; i < len(c.Constants); i++ {
		list = addLine(list, "k", []int{c.Constants[i]})
	}
	for i := 0; i < len(c.Lines); i++ {
		l := c.Lines[i]
		list = addLine(list, nameOf(l.Op), []int{l.R, l.X, l.Y, l.P})
	}
	return string(list)
}

func addLine(list []byte, name string, numbers []int) []byte {
	list = append(list, name...)
	for i := 0; i < len(numbers); i++ {
		list = append(list, ' ')
		list = append(list, strconv.Itoa(numbers[i])...)
	}
	return append(list, '\n')
}
