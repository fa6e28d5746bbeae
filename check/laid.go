package check

import "slim/api"

const wide = 64

// laid: the registers and slots that every road so far has laid, a bit each.
type laid struct {
	reached   bool // some road leads here
	registers int
	slots     [api.MaxSlots / wide]uint64
}

// first tells the registers 0, 1, .. as many as are asked for.
func first(count int) int {
	all := 0
	for n := 0; n < count; n++ {
		all |= only(n)
	}
	return all
}

func only(n int) int {
	return 1 << (n & (wide - 1))
}

func (a *laid) hasSlot(n int) bool {
	at := n / wide
	return at >= 0 && at < len(a.slots) && a.slots[at]>>(n&(wide-1))&1 == 1
}

func (a *laid) laySlot(n int) {
	at := n / wide
	if at >= 0 && at < len(a.slots) {
		a.slots[at] |= 1 << (n & (wide - 1))
	}
}

func (a *laid) unlaySlot(n int) {
	at := n / wide
	if at >= 0 && at < len(a.slots) {
		a.slots[at] &^= 1 << (n & (wide - 1))
	}
}

// meet leaves what is laid on one more road, too.
func (a *laid) meet(road *laid) {
	if !a.reached {
		*a = *road
		return
	}
	a.registers &= road.registers
	for i := 0; i < len(a.slots); i++ {
		a.slots[i] &= road.slots[i]
	}
}
