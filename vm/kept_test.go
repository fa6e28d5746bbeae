package vm_test

import (
	"math/rand"
	"reflect"
	"testing"

	"slim/api"
	"slim/slim"
)

// keeper: makes codes that are never stuck, and do little else than make blocks of two fields and hand them about. It knows where a block lies for certain.
type keeper struct {
	r         *rand.Rand
	function  int
	functions int
	registers map[int]bool // laid; true: a block
	slots     map[int]bool
	lines     []string
}

func (k *keeper) add(line string) { k.lines = append(k.lines, line) }

// pick: one of those that are laid (of blocks alone, if it is asked for), or -1.
func (k *keeper) pick(of map[int]bool, blocks bool) int {
	list := []int{}
	for n := range 8 {
		if isBlock, laid := of[n]; laid && (isBlock || !blocks) {
			list = append(list, n)
		}
	}
	if len(list) == 0 {
		return -1
	}
	return list[k.r.Intn(len(list))]
}

func (k *keeper) made(r int) {
	k.registers = map[int]bool{r: true}
}

func (k *keeper) line() {
	to := k.r.Intn(8)
	register, block, slot := k.pick(k.registers, false), k.pick(k.registers, true), k.pick(k.slots, false)
	switch k.r.Intn(13) {
	case 0, 1:
		k.add(ln(api.New, to, 2))
		k.made(to)
	case 2:
		k.add(ln(api.Clo, to, 2, k.r.Intn(k.functions)))
		k.made(to)
	case 3:
		if register >= 0 {
			k.add(ldi(7, 0))
			k.registers[7] = false
			k.add(ln(api.Arr, to, 7, register))
			k.made(to)
		}
	case 4, 5, 6:
		if register >= 0 {
			at := k.r.Intn(4)
			k.add(ln(api.Sts, register, at))
			k.slots[at] = k.registers[register]
		}
	case 7, 8:
		if slot >= 0 {
			k.add(ln(api.Lds, to, slot))
			k.registers[to] = k.slots[slot]
		}
	case 9:
		if slot >= 0 {
			k.add(ln([]int{api.Ldk, api.Clr}[k.r.Intn(2)], 0, slot))
			if k.lines[len(k.lines)-1][0] == api.Ldk {
				k.registers[0] = k.slots[slot]
			}
			delete(k.slots, slot)
		}
	case 10:
		if block >= 0 && register >= 0 {
			k.add(ln(api.Set, block, k.r.Intn(2), register))
		}
	case 11:
		if block >= 0 {
			k.add(ln(api.Fld, to, block, k.r.Intn(2)))
			k.registers[to] = false
		}
	case 12:
		k.call()
	}
}

// call: of a function further on, with anything and a block.
func (k *keeper) call() {
	if k.function+1 >= k.functions || !k.arguments() {
		return
	}
	k.add(ln(api.Call, 0, k.function+1+k.r.Intn(k.functions-k.function-1)))
	k.made(0)
}

func (k *keeper) arguments() bool {
	block := k.pick(k.registers, true)
	if block < 0 {
		return false
	}
	k.add(ln(api.Mov, 1, block))
	k.registers[1] = true
	k.add(ln(api.Mov, 0, k.pick(k.registers, false)))
	return true
}

// last: the answer is a block; function 0 begins anew, and others go on in their place.
func (k *keeper) last() {
	if k.function == 0 {
		k.add(ln(api.Tcal, 0, 0))
		return
	}
	if k.r.Intn(3) == 0 && k.function+1 < k.functions && k.arguments() {
		k.add(ln(api.Tcal, 0, k.function+1))
		return
	}
	if block := k.pick(k.registers, true); block >= 0 {
		k.add(ln(api.Mov, 0, block))
	} else {
		k.add(ln(api.New, 0, 2))
	}
	k.add(ret)
}

func kept(r *rand.Rand) string {
	k := &keeper{r: r, functions: 4}
	list := []string{}
	for k.function = range k.functions {
		k.registers, k.slots = map[int]bool{}, map[int]bool{}
		if k.function == 0 {
			list = append(list, row(0, 0, 0, 4))
		} else {
			list = append(list, row(len(k.lines), 2, 0, 4))
			k.registers[0], k.registers[1] = false, true
		}
		for range 5 + r.Intn(30) {
			k.line()
		}
		k.last()
	}
	return coded(list, []int{2}, k.lines...)
}

// What frames hold and what they have given up is in use, or not, just as it is on the plain machine.
func TestKeptBlocks(t *testing.T) {
	r := rand.New(rand.NewSource(13))
	seen, collections := map[api.Errno]int{}, 0
	for range 4000 {
		s, words := kept(r), 20+r.Intn(80)
		m, p := slim.Machine(), newPlain(s, words, 5, nil)
		if err, at := m.Start(s, words, 5, nil); err != api.OK {
			text, _, _ := m.List(s)
			t.Fatalf("P10: %d at %d of\n%s", err, at, text)
		}
		for range 8 {
			n := 1 + r.Intn(80)
			got, want := m.Go(n), p.run(n)
			if !reflect.DeepEqual(got, want) {
				text, _, _ := m.List(s)
				t.Fatalf("P13: %d words: %+v, want %+v\n%s", words, got, want, text)
			}
			collections += got.Gcs
			seen[got.Err]++
		}
	}
	if seen[api.Stuck] > 0 || seen[api.OutFuel] < 5000 || seen[api.OutMemory] < 500 || collections < 10000 {
		t.Errorf("these codes are not as they should be: %v, %d collections", seen, collections)
	}
}
