package run

// value: what a register, a slot or a field holds: a number, or a block.
type value struct {
	isBlock bool
	n       int // the number, or which block of the heap
}

func numberOf(n int) value {
	return value{n: n}
}

// noFunction: of a block that is no closure.
const noFunction = -1

type block struct {
	inUse    bool
	function int
	fields   []value
	held     int  // how many slots hold it
	reached  bool // by the collection that is under way
}

// heap: the slots that hold a block are counted as they change, so that a collection need not look at all slots of all frames.
type heap struct {
	half   int
	used   int
	gcs    int
	blocks []block
	free   []int // blocks that are not in use
}

// hold counts a slot that takes a value, or (by -1) one that gives it up.
func (h *heap) hold(v value, by int) {
	if h.has(v) {
		h.blocks[v.n].held += by
	}
}

func (h *heap) has(v value) bool {
	return v.isBlock && v.n >= 0 && v.n < len(h.blocks)
}

// size tells how many fields a block has: -1, if the value is a number.
func (h *heap) size(v value) int {
	if !h.has(v) {
		return -1
	}
	return len(h.blocks[v.n].fields)
}

// functionOf tells a closure's function.
func (h *heap) functionOf(v value) int {
	if !h.has(v) {
		return noFunction
	}
	return h.blocks[v.n].function
}

func (h *heap) field(v value, at int) value {
	if at < 0 || at >= h.size(v) {
		return value{}
	}
	return h.blocks[v.n].fields[at]
}

func (h *heap) setField(v value, at int, to value) {
	if at >= 0 && at < h.size(v) {
		h.blocks[v.n].fields[at] = to
	}
}

// newBlock tells a block whose fields all are fill, or that there is no room for it.
func (h *heap) newBlock(size int, function int, fill value) (value, bool) {
	if h.used+size+1 > h.half {
		h.collect(fill)
	}
	if size < 0 || h.used+size+1 > h.half {
		return value{}, false
	}
	h.used += size + 1
	fields := make([]value, size)
	for i := 0; i < len(fields); i++ {
		fields[i] = fill
	}
	at := h.place()
	h.blocks[at] = block{inUse: true, function: function, fields: fields}
	return value{isBlock: true, n: at}, true
}

// place tells where a new block may stand.
func (h *heap) place() int {
	last := len(h.free) - 1
	if last < 0 {
		h.blocks = append(h.blocks, block{})
		return len(h.blocks) - 1
	}
	at := h.free[last]
	h.free = h.free[:last]
	return at
}

// collect leaves in use what is reached from the slots, and from one value more.
func (h *heap) collect(more value) {
	h.gcs++
	todo := h.reach([]int{}, more)
	for i := 0; i < len(h.blocks); i++ {
		if h.blocks[i].held > 0 {
			todo = h.reach(todo, value{isBlock: true, n: i})
		}
	}
	for len(todo) > 0 {
		last := len(todo) - 1
		at := todo[last]
		todo = todo[:last]
		todo = h.reachFields(todo, at)
	}
	h.sweep()
}

// reach puts a block on the list of those whose fields are to be looked at, each once.
func (h *heap) reach(todo []int, v value) []int {
	if !h.has(v) || h.blocks[v.n].reached {
		return todo
	}
	h.blocks[v.n].reached = true
	return append(todo, v.n)
}

func (h *heap) reachFields(todo []int, at int) []int {
	whole := value{isBlock: true, n: at}
	for i := 0; i < h.size(whole); i++ {
		v := h.field(whole, i)
		todo = h.reach(todo, v)
	}
	return todo
}

// sweep gives up what was not reached.
func (h *heap) sweep() {
	for i := 0; i < len(h.blocks); i++ {
		if h.blocks[i].inUse && !h.blocks[i].reached {
			h.used -= len(h.blocks[i].fields) + 1
			h.blocks[i] = block{}
			h.free = append(h.free, i)
		}
		h.blocks[i].reached = false
	}
}
