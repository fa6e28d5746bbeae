package code

import "slim/api"

// Bytes writes a code down: what Read takes apart (P9).
func (c Code) Bytes() string {
	list := []byte("ml")
	list = addNumber(list, len(c.Functions), 2)
	list = addNumber(list, len(c.Constants), 2)
	list = addNumber(list, len(c.Lines), 2)
	for _, row := range c.Functions {
		list = addNumber(list, row.First, 2)
		list = addNumber(list, row.Params, 1)
		list = addNumber(list, row.Want, 1)
		list = addNumber(list, row.Slots, 2)
	}
	for _, constant := range c.Constants {
		list = addNumber(list, constant, api.NumSize)
	}
	for _, l := range c.Lines {
		list = addNumber(list, l.Op, 1)
		list = addNumber(list, l.R, 1)
		list = addNumber(list, l.X, 2)
		list = addNumber(list, l.Y, 2)
		list = addNumber(list, l.P, 2)
	}
	return string(list)
}

// addNumber adds a number in so many bytes, the high one first.
func addNumber(list []byte, n int, size int) []byte {
	for i := size - 1; i >= 0; i-- {
		list = append(list, byte(n>>(8*i&63)))
	}
	return list
}
