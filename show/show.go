// Package show: the shortest text of a tree (P6).
package show

import (
	"strconv"

	"slim/parts"
	"slim/words"
)

// The ranks of parts: one that stands where the grammar wants a higher rank needs its brackets, and no other does,
// since the grammar reads each text in one way alone.
const (
	exprRank = iota
	cmpRank
	sumRank
	prodRank
	unRank
	callRank
	operandRank
	atomRank
)

type writer struct {
	tree parts.Tree
	out  []byte
}

// Text tells the shortest text that says a tree's parts.
func Text(tree parts.Tree) string {
	w := &writer{tree: tree}
	w.part(tree.Root(), exprRank)
	return string(w.out)
}

func rankOf(kind int) int {
	switch kind {
	case parts.Let, parts.LetRec, parts.LetTuple, parts.If, parts.Fun, parts.Seq:
		return exprRank
	case parts.Cmp:
		return cmpRank
	case parts.Sum:
		return sumRank
	case parts.Prod:
		return prodRank
	case parts.Neg, parts.Not:
		return unRank
	case parts.Call, parts.Print, parts.Len, parts.Array, parts.Put:
		return callRank
	case parts.Index:
		return operandRank
	}
	return atomRank
}

// wantedRank tells the rank that the grammar wants of the i-th part of a part.
func wantedRank(kind int, i int) int {
	first := i == 0
	switch kind {
	case parts.Cmp:
		return sumRank
	case parts.Sum:
		if first {
			return sumRank
		}
		return prodRank
	case parts.Prod:
		if first {
			return prodRank
		}
		return unRank
	case parts.Neg, parts.Not:
		return unRank
	case parts.Call, parts.Print, parts.Len, parts.Array, parts.Put:
		return operandRank
	case parts.Seq:
		if first {
			return cmpRank
		}
	case parts.Index:
		if first {
			return operandRank
		}
	}
	return exprRank
}

// text writes a word. Of the signs that the grammar lets stand side by side no two make another one: only letters need a blank.
func (w *writer) text(text string) {
	if text == "" {
		return
	}
	if len(w.out) > 0 && words.IsLetter(text[0]) {
		last := w.out[len(w.out)-1]
		if words.IsLetter(last) {
			w.out = append(w.out, ' ')
		}
	}
	w.out = append(w.out, text...)
}

func (w *writer) word(kind int) {
	text := words.Text(kind)
	w.text(text)
}

func (w *writer) number(value int) {
	text := strconv.Itoa(value)
	w.text(text)
}

// list writes names, with a sign (or none) between them.
func (w *writer) list(names []string, sign int) {
	for i := 0; i < len(names); i++ {
		if i > 0 {
			w.word(sign)
		}
		w.text(names[i])
	}
}
