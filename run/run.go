// Package run: a code on its way: its frames, its heap and its fuel.
package run

import (
	"slim/api"
	"slim/code"
)

type frame struct {
	back  int // the line with which the frame ahead goes on
	slots []value
}

// Run: a code that was started, and how it stands.
type Run struct {
	code      code.Code
	depth     int
	in        []int
	next      int // the line that comes next
	registers [api.Regs]value
	frames    []frame
	heap      heap
	granted   int
	// What is told of it.
	err   api.Errno
	pos   int
	val   int
	out   []int
	steps int
	read  int
}

// Begin makes a run of a code that Check takes. It stands ahead of line 0, without fuel.
func Begin(c code.Code, words int, depth int, in []int) *Run {
	r := &Run{code: c, depth: depth, err: api.OutFuel}
	r.in = append([]int{}, in...)
	r.heap.half = words / 2
	r.enter(0, 0)
	return r
}

// Go grants n lines more and runs as far as it may (P11).
func (r *Run) Go(n int) api.Result {
	if n < 0 || n > api.MaxFuel-r.granted {
		return api.Result{Err: api.ErrFuel}
	}
	r.granted += n
	for r.err == api.OutFuel && r.steps < r.granted {
		r.step()
	}
	return r.result()
}

func (r *Run) result() api.Result {
	told := api.Result{Err: r.err, Pos: r.pos, Val: r.val, Steps: r.steps, Read: r.read, Gcs: r.heap.gcs, Used: r.heap.used}
	if len(r.out) > 0 {
		told.Out = make([]int, len(r.out))
		copy(told.Out, r.out)
	}
	return told
}

// end stops the run for good. What only a run that goes on needs is given up.
func (r *Run) end(err api.Errno, pos int) {
	r.err = err
	r.pos = pos
	r.code = code.Code{}
	r.in = nil
	r.frames = nil
	r.registers = [api.Regs]value{}
	r.heap = heap{used: r.heap.used, gcs: r.heap.gcs}
}

func (r *Run) stuck() {
	r.end(api.Stuck, 0)
}

// register: a field below eight names one, so that nothing is lost.
func (r *Run) register(n int) value {
	return r.registers[n&(api.Regs-1)]
}

func (r *Run) setRegister(n int, to value) {
	r.registers[n&(api.Regs-1)] = to
}

func (r *Run) slot(n int) value {
	top := len(r.frames) - 1
	if top < 0 || n < 0 || n >= len(r.frames[top].slots) {
		return value{}
	}
	return r.frames[top].slots[n]
}

func (r *Run) setSlot(n int, to value) {
	top := len(r.frames) - 1
	if top < 0 || n < 0 || n >= len(r.frames[top].slots) {
		return
	}
	r.heap.hold(r.frames[top].slots[n], -1)
	r.heap.hold(to, 1)
	r.frames[top].slots[n] = to
}

// enter makes a frame for a function, ahead of its first line.
func (r *Run) enter(function int, back int) {
	row := r.code.Function(function)
	made := frame{back: back}
	if row.Slots > 0 {
		made.slots = make([]value, row.Slots)
	}
	r.frames = append(r.frames, made)
	r.next = row.First
}

// leave gives the last frame up, and tells the line with which the one ahead goes on.
func (r *Run) leave() int {
	top := len(r.frames) - 1
	if top < 0 {
		return 0
	}
	gone := r.frames[top]
	for i := 0; i < len(gone.slots); i++ {
		r.heap.hold(gone.slots[i], -1)
	}
	r.frames[top] = frame{}
	r.frames = r.frames[:top]
	return gone.back
}
