package scope

import "slim/api"

const wide = 64

// Set: some of a text's bindings. Each binding takes a byte of the text at least, so that its number is below MaxSrc.
type Set struct {
	bits [api.MaxSrc/wide + 1]uint64
}

// Has tells whether a binding is one of the set.
func (s Set) Has(binding int) bool {
	at := binding / wide
	return binding >= 0 && at < len(s.bits) && s.bits[at]>>(binding&(wide-1))&1 == 1
}

// With tells the set and one binding more.
func (s Set) With(binding int) Set {
	at := binding / wide
	if binding >= 0 && at < len(s.bits) {
		s.bits[at] |= 1 << (binding & (wide - 1))
	}
	return s
}

// Without tells the set but for some bindings.
func (s Set) Without(bindings []int) Set {
	for _, binding := range bindings {
		at := binding / wide
		if binding >= 0 && at < len(s.bits) {
			s.bits[at] &^= 1 << (binding & (wide - 1))
		}
	}
	return s
}

// Joined tells what is in one of two sets.
func (s Set) Joined(other Set) Set {
	for i := 0; i < len(s.bits); i++ {
		s.bits[i] |= other.bits[i]
	}
	return s
}

// List tells the set's bindings in their order.
func (s Set) List() []int {
	list := []int{}
	for binding := 0; binding < len(s.bits)*wide; binding++ {
		if s.Has(binding) {
			list = append(list, binding)
		}
	}
	return list
}
