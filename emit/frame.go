package emit

import (
	"slim/api"
	"slim/scope"
)

// nowhere: no slot, or no field.
const nowhere = -1

// home: where a binding lies in a frame: in a slot, or in a field of the closure that lies in that slot.
type home struct {
	slot  int
	field int
}

// frame: the homes of the bindings that the function at hand reads. Slots are taken and given back like a pile.
// A slot holds what is read later on, and nothing else: a collection shall find no more than the text reaches.
type frame struct {
	homes [api.MaxSrc]home // by the number of the binding
	top   int              // the next slot that is not taken
	slots int              // the most that were taken at a time
}

func newFrame() *frame {
	f := &frame{}
	for i := 0; i < len(f.homes); i++ {
		f.homes[i] = home{slot: nowhere, field: nowhere}
	}
	return f
}

// take tells a slot that is not taken yet.
func (f *frame) take() int {
	slot := f.top
	f.top++
	if f.top > f.slots {
		f.slots = f.top
	}
	return slot
}

func (f *frame) settle(binding int, slot int, field int) {
	if binding >= 0 && binding < len(f.homes) {
		f.homes[binding] = home{slot: slot, field: field}
	}
}

func (f *frame) homeOf(binding int) home {
	if binding < 0 || binding >= len(f.homes) {
		return home{slot: nowhere, field: nowhere}
	}
	return f.homes[binding]
}

// reads tells whether some of the bindings lie in a slot, or behind it.
func (f *frame) reads(bindings scope.Set, slot int) bool {
	for i := 0; i < len(f.homes); i++ {
		if f.homes[i].slot == slot && bindings.Has(i) {
			return true
		}
	}
	return false
}
