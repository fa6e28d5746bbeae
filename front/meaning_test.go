package front_test

import (
	"slim/api"
	"slim/parts"
	"slim/words"
)

// thing: a value of P14: a number (true is 1, false and () are 0), or what has words.
type thing struct {
	n     int
	block *block
}

// block: a tuple or an array; a function, whose fields are the bindings in scope where it was made.
type block struct {
	fields []thing
	part   int // of a function
	scope  *binding
	seen   int
}

// binding: one in scope, and those around it.
type binding struct {
	name  string
	value thing
	up    *binding
	count int
	seen  int
}

// waiting: an evaluation that waits for one of its parts; or (with part -1) an open call.
type waiting struct {
	part  int
	scope *binding
	hand  []thing // the values of parts at hand
}

// peak: a size that was not reached before, and what was printed and read till then.
type peak struct{ size, printed, read int }

// meaning: how a text is evaluated by P14, step by step: a list of what waits, and no more.
type meaning struct {
	tree  parts.Tree
	in    []int
	next  int // the part that is looked at next
	scope *binding
	list  []waiting
	depth int
	marks int
	// What it came to.
	ended  bool
	err    api.Errno
	pos    int
	val    int
	out    []int
	outAt  []int // the steps till then
	readAt []int
	steps  int
	blocks int
	reach  []peak
	calls  []peak
}

func bound(scope *binding, name string, v thing) *binding {
	made := &binding{name: name, value: v, up: scope, count: 1}
	if scope != nil {
		made.count += scope.count
	}
	return made
}

func (s *binding) length() int {
	if s == nil {
		return 0
	}
	return s.count
}

func (s *binding) find(name string) thing {
	for s.name != name {
		s = s.up
	}
	return s.value
}

// meant evaluates a text, for so many steps at first.
func meant(tree parts.Tree, in []int, steps int) *meaning {
	m := &meaning{tree: tree, in: in, next: tree.Root(), depth: 1, calls: []peak{{1, 0, 0}}}
	m.evaluate(steps)
	return m
}

// evaluate goes on till the text ends, or has taken so many steps in all.
func (m *meaning) evaluate(steps int) {
	for !m.ended && m.steps < steps {
		v, next, inner := m.look(m.next, m.scope)
		if next < 0 {
			next, inner = m.goOn(v)
		}
		m.next, m.scope = next, inner
	}
}

// goOn hands a value to what waits, and tells what is looked at next.
func (m *meaning) goOn(v thing) (int, *binding) {
	for !m.ended {
		if len(m.list) == 0 {
			m.end(api.OK, 0)
			m.val = v.n
			break
		}
		w := m.list[len(m.list)-1]
		m.list = m.list[:len(m.list)-1]
		if w.part < 0 {
			m.depth--
			continue
		}
		w.hand = append(append([]thing{}, w.hand...), v)
		n, scope, done := m.advance(w, &v)
		if !done {
			return n, scope
		}
	}
	return 0, nil
}

func (m *meaning) end(err api.Errno, pos int) { m.ended, m.err, m.pos = true, err, pos }

// look counts a part, and tells its value; or the part that is looked at next.
func (m *meaning) look(n int, scope *binding) (thing, int, *binding) {
	m.steps++
	part := m.tree.Part(n)
	switch part.Kind {
	case parts.Num:
		return thing{n: part.Num}, -1, nil
	case parts.True:
		return thing{n: 1}, -1, nil
	case parts.False, parts.Unit:
		return thing{}, -1, nil
	case parts.Name:
		return scope.find(part.Names[0]), -1, nil
	case parts.Read:
		if len(m.readAt) >= len(m.in) {
			m.end(api.RunInput, part.At)
			return thing{}, -1, nil
		}
		m.readAt = append(m.readAt, m.steps)
		return thing{n: wrapped(m.in[len(m.readAt)-1])}, -1, nil
	case parts.Fun:
		return m.function(n, scope), -1, nil
	case parts.LetRec:
		return thing{}, m.tree.Kid(n, 1), bound(scope, part.Names[0], m.function(n, scope))
	}
	m.list = append(m.list, waiting{n, scope, nil})
	return thing{}, m.tree.Kid(n, 0), scope
}

func (m *meaning) function(n int, scope *binding) thing {
	m.steps += scope.length()
	made := &block{part: n, scope: scope}
	for s := scope; s != nil; s = s.up {
		made.fields = append(made.fields, s.value)
	}
	m.count(made, scope, nil)
	return thing{block: made}
}

// count tells the words that are reached where a block is made.
func (m *meaning) count(made *block, scope *binding, hand []thing) {
	m.blocks++
	if len(m.reach) > 0 && m.reach[len(m.reach)-1].size > api.MaxHeap/2 {
		return
	}
	m.marks++
	size := m.ofBlock(made) + m.ofScope(scope) + m.ofAll(hand)
	for _, w := range m.list {
		size += m.ofScope(w.scope) + m.ofAll(w.hand)
	}
	if len(m.reach) == 0 || size > m.reach[len(m.reach)-1].size {
		m.reach = append(m.reach, peak{size, len(m.out), len(m.readAt)})
	}
}

func (m *meaning) ofBlock(b *block) int {
	if b == nil || b.seen == m.marks {
		return 0
	}
	b.seen = m.marks
	return 1 + len(b.fields) + m.ofAll(b.fields)
}

func (m *meaning) ofAll(list []thing) int {
	size := 0
	for _, v := range list {
		size += m.ofBlock(v.block)
	}
	return size
}

func (m *meaning) ofScope(s *binding) int {
	size := 0
	for ; s != nil && s.seen != m.marks; s = s.up {
		s.seen = m.marks
		size += m.ofBlock(s.value.block)
	}
	return size
}

// advance lets an evaluation go on that has one value more: a part is looked at next, or (done) it has a value itself.
func (m *meaning) advance(w waiting, v *thing) (int, *binding, bool) {
	part := m.tree.Part(w.part)
	next := m.tree.Kid(w.part, len(w.hand))
	switch part.Kind {
	case parts.Let, parts.Seq:
		scope := w.scope
		if part.Kind == parts.Let {
			scope = bound(scope, part.Names[0], *v)
		}
		return next, scope, false
	case parts.LetTuple:
		m.steps += len(part.Names)
		scope := w.scope
		for i, name := range part.Names {
			scope = bound(scope, name, v.block.fields[i])
		}
		return next, scope, false
	case parts.If:
		if v.n == 0 {
			next = m.tree.Kid(w.part, 2)
		}
		return next, w.scope, false
	}
	if len(w.hand) < len(part.Kids) {
		m.list = append(m.list, w)
		return next, w.scope, false
	}
	if part.Kind == parts.Call {
		n, scope := m.call(w)
		return n, scope, false
	}
	*v = m.made(w, part)
	return 0, nil, true
}

func (m *meaning) call(w waiting) (int, *binding) {
	m.steps += len(w.hand) - 1
	f := w.hand[0]
	part := m.tree.Part(f.block.part)
	names := part.Names
	itself := ""
	if part.Kind == parts.LetRec {
		itself, names = names[0], names[1:]
	}
	scope := bound(f.block.scope, itself, f)
	for i, name := range names {
		scope = bound(scope, name, w.hand[i+1])
	}
	if len(m.list) > 0 && m.list[len(m.list)-1].part >= 0 {
		m.list = append(m.list, waiting{part: -1})
		m.depth++
		if m.depth > m.calls[len(m.calls)-1].size {
			m.calls = append(m.calls, peak{m.depth, len(m.out), len(m.readAt)})
		}
	}
	return m.tree.Kid(f.block.part, 0), scope
}

func wrapped(n int) int {
	n &= 1<<63 - 1
	if n >= 1<<62 {
		n -= 1 << 62
		n -= 1 << 62
	}
	return n
}

func truth(holds bool) thing {
	if holds {
		return thing{n: 1}
	}
	return thing{}
}

// made tells the value of a part whose parts' values are all at hand.
func (m *meaning) made(w waiting, part parts.Part) thing {
	a := w.hand[0]
	switch part.Kind {
	case parts.Neg:
		return thing{n: wrapped(-a.n)}
	case parts.Not:
		return truth(a.n == 0)
	case parts.Sum, parts.Prod, parts.Cmp:
		return m.between(a.n, part, w.hand[1].n)
	case parts.Len:
		return thing{n: len(a.block.fields)}
	case parts.Print:
		if len(m.out) == 16 {
			m.end(api.RunOutput, part.At)
			return thing{}
		}
		m.out = append(m.out, a.n)
		m.outAt = append(m.outAt, m.steps)
		return thing{}
	case parts.Array:
		if a.n < 0 || a.n > 32 {
			m.end(api.RunSize, part.At)
			return thing{}
		}
		made := &block{}
		for range a.n {
			made.fields = append(made.fields, w.hand[1])
		}
		m.count(made, w.scope, w.hand)
		return thing{block: made}
	case parts.Tuple:
		made := &block{fields: w.hand}
		m.count(made, w.scope, w.hand)
		return thing{block: made}
	}
	i := w.hand[1].n
	if i < 0 || i >= len(a.block.fields) {
		m.end(api.RunIndex, part.At)
		return thing{}
	}
	if part.Kind == parts.Put {
		a.block.fields[i] = w.hand[2]
		return thing{}
	}
	return a.block.fields[i]
}

func (m *meaning) between(a int, part parts.Part, b int) thing {
	sign := words.Text(part.Word)
	if b == 0 && (sign == "/" || sign == "%") {
		m.end(api.RunDiv, part.At)
		return thing{}
	}
	switch sign {
	case "+":
		return thing{n: wrapped(a + b)}
	case "-":
		return thing{n: wrapped(a - b)}
	case "*":
		return thing{n: wrapped(a * b)}
	case "/":
		return thing{n: wrapped(a / b)}
	case "%":
		return thing{n: wrapped(a % b)}
	case "=":
		return truth(a == b)
	case "<>":
		return truth(a != b)
	case "<":
		return truth(a < b)
	case "<=":
		return truth(a <= b)
	case ">":
		return truth(a > b)
	}
	return truth(a >= b)
}
