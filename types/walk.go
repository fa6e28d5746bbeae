// Package types: the types of a text's names (P7).
package types

import (
	"slim/api"
	"slim/parts"
)

// binding: a name where it is bound.
type binding struct {
	name  string
	at    int // of the let or fun
	kind  int // its type
	outer int // the binding that is in sight around it: -1, if there is none
}

// walker: once a demand is not met, it walks no further.
type walker struct {
	tree     parts.Tree
	graph    graph
	bindings []binding
	err      api.Errno
	at       int
}

// Walk makes a text's demands, in their order, and tells the names that it binds; or the first demand that cannot be met, and where.
func Walk(tree parts.Tree) (Names, api.Errno, int) {
	w := walked(tree)
	if w.err != api.OK {
		return Names{}, w.err, w.at
	}
	return Names{graph: w.graph, bindings: w.bindings}, api.OK, 0
}

// Fault tells the first demand of a text that cannot be met, and where.
func Fault(tree parts.Tree) (api.Errno, int) {
	w := walked(tree)
	return w.err, w.at
}

func walked(tree parts.Tree) *walker {
	w := &walker{tree: tree}
	w.isPlain(tree.Root(), -1, number)
	return w
}

func (w *walker) fail(err api.Errno, at int) {
	w.err = err
	w.at = at
}

func (w *walker) demand(kind int, wanted int, at int) {
	if w.err == api.OK && !w.graph.same(kind, wanted) {
		w.fail(api.ErrType, at)
	}
}

// is walks a part and demands that it is of a type.
func (w *walker) is(n int, scope int, wanted int) {
	kind := w.walk(n, scope)
	w.demand(kind, wanted, w.tree.Part(n).At)
}

func (w *walker) isPlain(n int, scope int, kind int) {
	wanted := w.graph.add(kind, nil)
	w.is(n, scope, wanted)
}

// isArray tells the type of the cells, too.
func (w *walker) isArray(n int, scope int) int {
	cell := w.graph.add(open, nil)
	wanted := w.graph.add(array, []int{cell})
	w.is(n, scope, wanted)
	return cell
}

// isFunction demands that the first of some types is a function from the others to an answer.
func (w *walker) isFunction(kinds []int, answer int, at int) {
	if len(kinds) == 0 {
		return
	}
	wanted := w.graph.addFunction(kinds[1:], answer)
	w.demand(kinds[0], wanted, at)
}

// bind adds the names of a part, with open types, each in sight of the next; it tells the innermost, and the types.
func (w *walker) bind(part parts.Part, scope int) (int, []int) {
	kinds := []int{}
	for _, name := range part.Names {
		kind := w.graph.add(open, nil)
		kinds = append(kinds, kind)
		w.bindings = append(w.bindings, binding{name: name, at: part.At, kind: kind, outer: scope})
		scope = len(w.bindings) - 1
	}
	return scope, kinds
}

// named tells the type of the innermost binding of a name. A binding's outer one was made ahead of it: the way out ends.
func (w *walker) named(name string, at int, scope int) int {
	for scope >= 0 && scope < len(w.bindings) {
		found := w.bindings[scope]
		if found.name == name {
			return found.kind
		}
		scope = found.outer
	}
	w.fail(api.ErrUnbound, at)
	return -1
}
