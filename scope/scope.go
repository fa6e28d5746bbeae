package scope

import "slim/parts"

// sighted: a name in sight, and its binding.
type sighted struct {
	name    string
	binding int
}

type walker struct {
	from  parts.Tree
	made  Tree
	sight []sighted // the innermost one is the last
	next  int       // the number of the next binding
}

// Of tells a text's nodes. Bindings are numbered in the order in which the text makes them.
func Of(tree parts.Tree) Tree {
	w := &walker{from: tree}
	w.walk(tree.Root())
	return w.made
}

func (w *walker) walk(n int) int {
	part := w.from.Part(n)
	switch part.Kind {
	case parts.Let, parts.LetTuple:
		return w.let(n)
	case parts.LetRec:
		return w.letRec(n)
	case parts.Fun:
		return w.function(n)
	}
	node := Node{Kind: part.Kind, At: part.At, Word: part.Word, Num: part.Num}
	for i := 0; i < len(part.Kids); i++ {
		kid := w.walk(w.from.Kid(n, i))
		node.Kids = append(node.Kids, kid)
	}
	if part.Kind == parts.Name {
		node.Binds = w.meant(part.Names)
	}
	return w.add(node)
}

func (w *walker) let(n int) int {
	part := w.from.Part(n)
	bound := w.walk(w.from.Kid(n, 0))
	outer := len(w.sight)
	binds := w.bind(part.Names)
	body := w.walk(w.from.Kid(n, 1))
	w.leave(outer)
	return w.add(Node{Kind: part.Kind, At: part.At, Binds: binds, Kids: []int{bound, body}})
}

func (w *walker) letRec(n int) int {
	part := w.from.Part(n)
	outer := len(w.sight)
	binds := w.bind(part.Names)
	inner := w.walk(w.from.Kid(n, 0))
	bound := w.add(Node{Kind: parts.Fun, At: part.At, Binds: binds, Kids: []int{inner}})
	// The function stays in sight, its parameters do not.
	w.leave(outer + 1)
	body := w.walk(w.from.Kid(n, 1))
	w.leave(outer)
	return w.add(Node{Kind: parts.Let, At: part.At, Binds: firstOf(binds), Kids: []int{bound, body}})
}

func (w *walker) function(n int) int {
	part := w.from.Part(n)
	outer := len(w.sight)
	parameters := w.bind(part.Names)
	binds := append([]int{Nobody}, parameters...)
	body := w.walk(w.from.Kid(n, 0))
	w.leave(outer)
	return w.add(Node{Kind: parts.Fun, At: part.At, Binds: binds, Kids: []int{body}})
}

func firstOf(binds []int) []int {
	if len(binds) == 0 {
		return []int{Nobody}
	}
	return []int{binds[0]}
}

// bind brings names in sight. Of two that are the same the last hides the other.
func (w *walker) bind(names []string) []int {
	binds := []int{}
	for _, name := range names {
		w.sight = append(w.sight, sighted{name: name, binding: w.next})
		binds = append(binds, w.next)
		w.next++
	}
	return binds
}

// leave takes all names out of sight but the outermost, as many as are told.
func (w *walker) leave(count int) {
	if count >= 0 && count < len(w.sight) {
		w.sight = w.sight[:count]
	}
}

func (w *walker) meant(names []string) []int {
	if len(names) > 0 {
		for i := len(w.sight) - 1; i >= 0; i-- {
			if w.sight[i].name == names[0] {
				return []int{w.sight[i].binding}
			}
		}
	}
	return []int{Nobody}
}

// add: a binding has a number of its own, so that what a node makes is not mistaken for what its first part reads.
func (w *walker) add(node Node) int {
	for _, kid := range node.Kids {
		node.Free = node.Free.Joined(w.made.Node(kid).Free)
	}
	if node.Kind == parts.Name {
		for _, binding := range node.Binds {
			node.Free = node.Free.With(binding)
		}
	} else {
		node.Free = node.Free.Without(node.Binds)
	}
	w.made.Nodes = append(w.made.Nodes, node)
	return len(w.made.Nodes) - 1
}
