package types

import "slim/api"

// Names: what a text binds, in the order of the walk, and the types.
type Names struct {
	graph    graph
	bindings []binding
}

// Text tells each name and its type, a line each; or that a type is too big, and where its name is bound.
func (n Names) Text() (string, api.Errno, int) {
	text := ""
	for _, bound := range n.bindings {
		if n.graph.size(bound.kind, api.MaxType) > api.MaxType {
			return "", api.ErrBig, bound.at
		}
		text += bound.name + ":" + n.graph.text(bound.kind) + "\n"
	}
	return text, api.OK, 0
}

// size tells how many parts a type has, written out: no more than most + 1 are counted, as there may be too many to count.
func (g *graph) size(kind int, most int) int {
	count := 1
	for _, kid := range g.meant(kind).kids {
		if count > most {
			return count
		}
		count += g.size(kid, most-count)
	}
	return count
}

func (g *graph) text(kind int) string {
	meant := g.meant(kind)
	switch meant.kind {
	case truth:
		return "bool"
	case unit:
		return "unit"
	case array:
		return g.list(meant.kids, "") + " array"
	case tuple:
		return "(" + g.list(meant.kids, "*") + ")"
	case function:
		return g.functionText(meant.kids)
	}
	return "int"
}

func (g *graph) functionText(kinds []int) string {
	last := len(kinds) - 1
	if last < 0 {
		return ""
	}
	arguments := g.list(kinds[:last], ",")
	return "(" + arguments + "->" + g.text(kinds[last]) + ")"
}

// list writes types behind each other, with a sign between them.
func (g *graph) list(kinds []int, sign string) string {
	text := ""
	for i, kind := range kinds {
		if i > 0 {
			text += sign
		}
		text += g.text(kind)
	}
	return text
}
