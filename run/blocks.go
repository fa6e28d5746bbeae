package run

import (
	"slim/api"
	"slim/code"
)

// build runs the lines that make a block.
func (r *Run) build(l code.Line) {
	size := l.X
	function := noFunction
	fill := value{}
	if l.Op == api.Clo {
		function = l.Y
	}
	if l.Op == api.Arr {
		asked := r.register(l.X)
		if asked.isBlock {
			r.stuck()
			return
		}
		if asked.n < 0 || asked.n > api.MaxArray {
			r.end(api.RunSize, l.P)
			return
		}
		size = asked.n
		fill = r.register(l.Y)
	}
	made, ok := r.heap.newBlock(size, function, fill)
	if !ok {
		r.end(api.OutMemory, 0)
		return
	}
	// Registers keep no block in use, so that none of the others may be read from here on.
	r.registers = [api.Regs]value{}
	r.setRegister(l.R, made)
}

// touch runs the lines that look into a block.
func (r *Run) touch(l code.Line) {
	whole := r.register(l.X)
	if l.Op == api.Set || l.Op == api.Put {
		whole = r.register(l.R)
	}
	switch l.Op {
	case api.Len:
		r.length(l, whole)
	case api.Fld:
		r.take(l, whole, l.Y)
	case api.Set:
		r.put(l, whole, l.X)
	case api.Get:
		index := r.register(l.Y)
		if r.mayIndex(l, whole, index) {
			r.take(l, whole, index.n)
		}
	case api.Put:
		index := r.register(l.X)
		if r.mayIndex(l, whole, index) {
			r.put(l, whole, index.n)
		}
	}
}

func (r *Run) length(l code.Line, whole value) {
	if !whole.isBlock {
		r.stuck()
		return
	}
	r.setRegister(l.R, numberOf(r.heap.size(whole)))
}

func (r *Run) take(l code.Line, whole value, at int) {
	if at >= r.heap.size(whole) {
		r.stuck()
		return
	}
	r.setRegister(l.R, r.heap.field(whole, at))
}

func (r *Run) put(l code.Line, whole value, at int) {
	if at >= r.heap.size(whole) {
		r.stuck()
		return
	}
	r.heap.setField(whole, at, r.register(l.Y))
}

// mayIndex tells whether a block has the field that is asked for, or ends the run.
func (r *Run) mayIndex(l code.Line, whole value, asked value) bool {
	if !whole.isBlock || asked.isBlock {
		r.stuck()
		return false
	}
	if asked.n < 0 || asked.n >= r.heap.size(whole) {
		r.end(api.RunIndex, l.P)
		return false
	}
	return true
}
