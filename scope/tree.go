// Package scope: a text's parts with bindings in the place of names.
package scope

// Nobody: in the place of a binding, where there is none.
const Nobody = -1

// Node: a part of one of the kinds of package parts. LetRec is none of them here: it is a Let of a Fun that knows itself.
type Node struct {
	Kind  int
	At    int
	Word  int
	Num   int
	Binds []int // of a Name: the binding that it means; of a Fun: the one that is itself (or Nobody), then its parameters; else those that it makes
	Kids  []int
	Free  Set // the bindings that it reads and does not make
}

// Tree: a text's nodes, each behind its own; the last one is the whole text.
type Tree struct {
	Nodes []Node
}

// Root tells the number of the node that is the whole text.
func (t Tree) Root() int {
	return len(t.Nodes) - 1
}

// Node tells a node by its number: an empty one, if there is no such node.
func (t Tree) Node(number int) Node {
	if number < 0 || number >= len(t.Nodes) {
		return Node{}
	}
	return t.Nodes[number]
}

// Kid tells the number of a node's own node: -1, if there is none.
// It is always the lower number, so that a walk down a tree ends.
func (t Tree) Kid(number int, i int) int {
	kids := t.Node(number).Kids
	if i < 0 || i >= len(kids) || kids[i] >= number {
		return -1
	}
	return kids[i]
}
