package vm_test

import (
	"math/big"

	"slim/api"
)

// cell: a block of the plain machine. Values are an int or a *cell.
type cell struct {
	function int // -1, if it is no closure
	fields   []any
}

type plainFrame struct {
	function int
	back     int
	slots    []any
}

// plain: the machine of P11 to P13, told once more: with Go's own blocks, of which those in use are listed, and numbers of any size.
type plain struct {
	bare
	words, depth int
	in           []int
	registers    [8]any
	frames       []*plainFrame
	inUse        []*cell
	next         int
	now          api.Result
	ended        bool
}

func newPlain(s string, words, depth int, in []int) *plain {
	b, _, _ := takeApart(s)
	p := &plain{bare: b, words: words, depth: depth, in: in}
	p.frames = []*plainFrame{p.frame(0, -1)}
	return p
}

func (p *plain) frame(function, back int) *plainFrame {
	f := &plainFrame{function: function, back: back}
	for range p.rows[function][3] {
		f.slots = append(f.slots, 0)
	}
	p.next = p.rows[function][0]
	return f
}

// run: so many lines at most.
func (p *plain) run(lines int) api.Result {
	for range lines {
		if p.ended {
			break
		}
		p.now.Steps++
		l := p.lines[p.next]
		p.next++
		if err := p.line(l); err != api.OutFuel {
			p.ended = true
			p.now.Err = err
			if err >= api.RunIndex && err <= api.RunOutput {
				p.now.Pos = l[4]
			}
		}
	}
	if !p.ended {
		p.now.Err = api.OutFuel
	}
	p.now.Used = 0
	for _, c := range p.inUse {
		p.now.Used += len(c.fields) + 1
	}
	return p.now
}

func wrap(n *big.Int) int {
	whole := new(big.Int).Lsh(big.NewInt(1), 63)
	half := new(big.Int).Lsh(big.NewInt(1), 62)
	n = new(big.Int).Mod(new(big.Int).Add(n, half), whole)
	return int(n.Sub(n, half).Int64())
}

// line: OutFuel, if the run goes on.
func (p *plain) line(l [5]int) api.Errno {
	op, r, x, y := opNames[l[0]], l[1], l[2], l[3]
	top := p.frames[len(p.frames)-1]
	switch op {
	case "Ldi":
		p.registers[r] = p.constants[x]
	case "Mov":
		p.registers[r] = p.registers[x]
	case "Lds":
		p.registers[r] = top.slots[x]
	case "Ldk":
		p.registers[r], top.slots[x] = top.slots[x], 0
	case "Sts":
		top.slots[x] = p.registers[r]
	case "Clr":
		top.slots[x] = 0
	case "Add", "Sub", "Mul", "Div", "Mod", "Eq", "Lt", "Le":
		a, isA := p.registers[x].(int)
		b, isB := p.registers[y].(int)
		if !isA || !isB {
			return api.Stuck
		}
		if b == 0 && (op == "Div" || op == "Mod") {
			return api.RunDiv
		}
		p.registers[r] = told(op, big.NewInt(int64(a)), big.NewInt(int64(b)))
	case "Neg", "Not":
		a, isA := p.registers[x].(int)
		if !isA {
			return api.Stuck
		}
		p.registers[r] = told(op, big.NewInt(int64(a)), nil)
	case "Jmp":
		p.next = x
	case "Jz":
		a, isA := p.registers[r].(int)
		if !isA {
			return api.Stuck
		}
		if a == 0 {
			p.next = x
		}
	case "Prn":
		a, isA := p.registers[r].(int)
		if !isA {
			return api.Stuck
		}
		if len(p.now.Out) == 16 {
			return api.RunOutput
		}
		p.now.Out = append(p.now.Out, a)
	case "Rdi":
		if p.now.Read == len(p.in) {
			return api.RunInput
		}
		p.registers[r] = wrap(big.NewInt(int64(p.in[p.now.Read])))
		p.now.Read++
	default:
		return p.further(op, l, top)
	}
	return api.OutFuel
}

func told(op string, a, b *big.Int) int {
	yes := false
	n := new(big.Int)
	switch op {
	case "Add":
		return wrap(n.Add(a, b))
	case "Sub":
		return wrap(n.Sub(a, b))
	case "Mul":
		return wrap(n.Mul(a, b))
	case "Div":
		return wrap(n.Quo(a, b))
	case "Mod":
		return wrap(n.Rem(a, b))
	case "Neg":
		return wrap(n.Neg(a))
	case "Not":
		yes = a.Sign() == 0
	case "Eq":
		yes = a.Cmp(b) == 0
	case "Lt":
		yes = a.Cmp(b) < 0
	case "Le":
		yes = a.Cmp(b) <= 0
	}
	if yes {
		return 1
	}
	return 0
}

func (p *plain) further(op string, l [5]int, top *plainFrame) api.Errno {
	r, x, y := l[1], l[2], l[3]
	switch op {
	case "New":
		return p.build(r, x, -1, 0)
	case "Clo":
		return p.build(r, x, y, 0)
	case "Arr":
		size, ok := p.registers[x].(int)
		if !ok {
			return api.Stuck
		}
		if size < 0 || size > 32 {
			return api.RunSize
		}
		return p.build(r, size, -1, p.registers[y])
	case "Set", "Fld":
		whole, field := p.registers[r], x
		if op == "Fld" {
			whole, field = p.registers[x], y
		}
		c, ok := whole.(*cell)
		if !ok || field >= len(c.fields) {
			return api.Stuck
		}
		if op == "Fld" {
			p.registers[r] = c.fields[field]
		} else {
			c.fields[field] = p.registers[y]
		}
	case "Get", "Put":
		whole, index := p.registers[x], p.registers[y]
		if op == "Put" {
			whole, index = p.registers[r], p.registers[x]
		}
		c, ok := whole.(*cell)
		n, isNumber := index.(int)
		if !ok || !isNumber {
			return api.Stuck
		}
		if n < 0 || n >= len(c.fields) {
			return api.RunIndex
		}
		if op == "Get" {
			p.registers[r] = c.fields[n]
		} else {
			c.fields[n] = p.registers[y]
		}
	case "Len":
		c, ok := p.registers[x].(*cell)
		if !ok {
			return api.Stuck
		}
		p.registers[r] = len(c.fields)
	case "Ret":
		if len(p.frames) > 1 {
			p.frames = p.frames[:len(p.frames)-1]
			p.next = top.back
			return api.OutFuel
		}
		n, ok := p.registers[0].(int)
		if !ok {
			return api.Stuck
		}
		p.now.Val = n
		return api.OK
	default:
		return p.call(op, x, top)
	}
	return api.OutFuel
}

func (p *plain) call(op string, x int, top *plainFrame) api.Errno {
	function := x
	if op == "Calc" || op == "Tclc" {
		c, ok := p.registers[7].(*cell)
		if !ok || c.function < 0 || p.rows[c.function][1] != x {
			return api.Stuck
		}
		function = c.function
	}
	if op == "Tcal" || op == "Tclc" {
		p.frames[len(p.frames)-1] = p.frame(function, top.back)
		return api.OutFuel
	}
	if len(p.frames) == p.depth {
		return api.OutStack
	}
	p.frames = append(p.frames, p.frame(function, p.next))
	return api.OutFuel
}

func (p *plain) build(r, size, function int, fill any) api.Errno {
	room := func() bool {
		used := size + 1
		for _, c := range p.inUse {
			used += len(c.fields) + 1
		}
		return used <= p.words/2
	}
	if !room() {
		p.now.Gcs++
		reached := map[*cell]bool{}
		p.reach(fill, reached)
		for _, f := range p.frames {
			for _, v := range f.slots {
				p.reach(v, reached)
			}
		}
		p.inUse = nil
		for c := range reached {
			p.inUse = append(p.inUse, c)
		}
	}
	if !room() {
		return api.OutMemory
	}
	c := &cell{function: function}
	for range size {
		c.fields = append(c.fields, fill)
	}
	p.inUse = append(p.inUse, c)
	p.registers[r] = c
	return api.OutFuel
}

func (p *plain) reach(v any, reached map[*cell]bool) {
	c, ok := v.(*cell)
	if !ok || reached[c] {
		return
	}
	reached[c] = true
	for _, f := range c.fields {
		p.reach(f, reached)
	}
}
