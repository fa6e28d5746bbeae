package types

import (
	"slim/api"
	"slim/parts"
)

// walk makes the demands of a part and of all its parts, and tells its type.
func (w *walker) walk(n int, scope int) int {
	if w.err != api.OK {
		return -1
	}
	part := w.tree.Part(n)
	switch part.Kind {
	case parts.Num, parts.Read:
		return w.graph.add(number, nil)
	case parts.True, parts.False:
		return w.graph.add(truth, nil)
	case parts.Unit:
		return w.graph.add(unit, nil)
	case parts.Name:
		return w.name(part, scope)
	case parts.Let, parts.LetTuple:
		return w.let(n, scope)
	case parts.LetRec:
		return w.letRec(n, scope)
	case parts.Fun:
		return w.function(n, scope)
	case parts.If:
		return w.choice(n, scope)
	case parts.Seq:
		w.isPlain(w.tree.Kid(n, 0), scope, unit)
		return w.walk(w.tree.Kid(n, 1), scope)
	case parts.Neg, parts.Prod, parts.Sum:
		return w.operator(n, scope, number, number)
	case parts.Not:
		return w.operator(n, scope, truth, truth)
	case parts.Cmp:
		return w.operator(n, scope, number, truth)
	}
	return w.compound(n, scope)
}

func (w *walker) compound(n int, scope int) int {
	switch w.tree.Part(n).Kind {
	case parts.Tuple:
		kinds := w.all(n, scope)
		return w.graph.add(tuple, kinds)
	case parts.Call:
		return w.call(n, scope)
	case parts.Index:
		return w.index(n, scope)
	case parts.Put:
		cell := w.index(n, scope)
		w.is(w.tree.Kid(n, 2), scope, cell)
		return w.graph.add(unit, nil)
	case parts.Array:
		w.isPlain(w.tree.Kid(n, 0), scope, number)
		cell := w.walk(w.tree.Kid(n, 1), scope)
		return w.graph.add(array, []int{cell})
	case parts.Len:
		w.isArray(w.tree.Kid(n, 0), scope)
		return w.graph.add(number, nil)
	case parts.Print:
		return w.operator(n, scope, number, unit)
	}
	return -1
}

func (w *walker) name(part parts.Part, scope int) int {
	if len(part.Names) == 0 {
		return -1
	}
	return w.named(part.Names[0], part.At, scope)
}

func (w *walker) let(n int, scope int) int {
	inner, kinds := w.bind(w.tree.Part(n), scope)
	wanted := w.graph.addNames(kinds)
	w.is(w.tree.Kid(n, 0), scope, wanted)
	return w.walk(w.tree.Kid(n, 1), inner)
}

func (w *walker) letRec(n int, scope int) int {
	part := w.tree.Part(n)
	itself := len(w.bindings)
	inner, kinds := w.bind(part, scope)
	answer := w.graph.add(open, nil)
	w.isFunction(kinds, answer, part.At)
	w.is(w.tree.Kid(n, 0), inner, answer)
	return w.walk(w.tree.Kid(n, 1), itself)
}

func (w *walker) function(n int, scope int) int {
	inner, kinds := w.bind(w.tree.Part(n), scope)
	answer := w.walk(w.tree.Kid(n, 0), inner)
	return w.graph.addFunction(kinds, answer)
}

func (w *walker) choice(n int, scope int) int {
	w.isPlain(w.tree.Kid(n, 0), scope, truth)
	kind := w.walk(w.tree.Kid(n, 1), scope)
	w.is(w.tree.Kid(n, 2), scope, kind)
	return kind
}

// operator demands the same plain type of all parts of a part, which is of a plain type itself.
func (w *walker) operator(n int, scope int, wanted int, kind int) int {
	for i := 0; i < len(w.tree.Part(n).Kids); i++ {
		w.isPlain(w.tree.Kid(n, i), scope, wanted)
	}
	return w.graph.add(kind, nil)
}

func (w *walker) all(n int, scope int) []int {
	kinds := []int{}
	for i := 0; i < len(w.tree.Part(n).Kids); i++ {
		kind := w.walk(w.tree.Kid(n, i), scope)
		kinds = append(kinds, kind)
	}
	return kinds
}

func (w *walker) call(n int, scope int) int {
	kinds := w.all(n, scope)
	answer := w.graph.add(open, nil)
	w.isFunction(kinds, answer, w.tree.Part(n).At)
	return answer
}

// index demands that a part's first part is an array and its second one a number, and tells the cells' type.
func (w *walker) index(n int, scope int) int {
	cell := w.isArray(w.tree.Kid(n, 0), scope)
	w.isPlain(w.tree.Kid(n, 1), scope, number)
	return cell
}
