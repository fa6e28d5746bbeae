package types

// The kinds of types. One that is open may still become any other.
const (
	open = iota
	number
	truth
	unit
	array
	tuple
	function
)

// node: a type. Types share their parts, so that a text's types take no more room than the text, however big they are written out.
type node struct {
	kind  int
	kids  []int // an array's cell; a tuple's members; a function's arguments, then its answer
	first int   // the node that speaks for all that mean the same type
}

type graph struct {
	nodes []node
}

func (g *graph) add(kind int, kids []int) int {
	made := len(g.nodes)
	own := append([]int{}, kids...)
	g.nodes = append(g.nodes, node{kind: kind, kids: own, first: made})
	return made
}

func (g *graph) addFunction(arguments []int, answer int) int {
	kids := append([]int{}, arguments...)
	kids = append(kids, answer)
	return g.add(function, kids)
}

// addNames tells the type of what is bound to names of these types: one name takes it whole.
func (g *graph) addNames(kinds []int) int {
	if len(kinds) == 1 {
		return kinds[0]
	}
	return g.add(tuple, kinds)
}

func (g *graph) has(n int) bool {
	return n >= 0 && n < len(g.nodes)
}

// firstOf tells the node that speaks for n: n itself, if there is no such node.
func (g *graph) firstOf(n int) int {
	if !g.has(n) {
		return n
	}
	return g.nodes[n].first
}

// meant tells what a type is by now: an open one, if there is no such node.
func (g *graph) meant(n int) node {
	first := g.firstOf(n)
	if !g.has(first) {
		return node{}
	}
	return g.nodes[first]
}

// same makes two types one, or tells that they cannot be.
func (g *graph) same(a int, b int) bool {
	if !g.merge(a, b) {
		return false
	}
	s := &search{graph: g, marks: make([]int, len(g.nodes))}
	return !s.loops(a)
}

// merge ends: it goes on to the parts only where two types have become one, which happens no more often than there are types.
func (g *graph) merge(a int, b int) bool {
	left := g.firstOf(a)
	right := g.firstOf(b)
	if left == right {
		return true
	}
	from := g.meant(left)
	to := g.meant(right)
	if from.kind == open {
		g.join(left, right)
		return true
	}
	g.join(right, left)
	if to.kind == open {
		return true
	}
	return from.kind == to.kind && g.mergeAll(from.kids, to.kids)
}

func (g *graph) mergeAll(left []int, right []int) bool {
	if len(left) != len(right) {
		return false
	}
	for i := 0; i < len(left) && i < len(right); i++ {
		if !g.merge(left[i], right[i]) {
			return false
		}
	}
	return true
}

// join lets one node speak for all for which another spoke.
func (g *graph) join(old int, first int) {
	for i := 0; i < len(g.nodes); i++ {
		if g.nodes[i].first == old {
			g.nodes[i].first = first
		}
	}
}

const (
	unseen = iota
	within // its parts are being looked at
	done
)

// search looks for a type that is a part of itself.
type search struct {
	graph *graph
	marks []int
}

func (s *search) loops(n int) bool {
	first := s.graph.firstOf(n)
	if first < 0 || first >= len(s.marks) {
		return false
	}
	if s.marks[first] != unseen {
		return s.marks[first] == within
	}
	s.marks[first] = within
	for _, kid := range s.graph.meant(first).kids {
		if s.loops(kid) {
			return true
		}
	}
	s.marks[first] = done
	return false
}
