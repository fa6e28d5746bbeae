package show

import (
	"slim/parts"
	"slim/words"
)

func (w *writer) part(number int, wanted int) {
	part := w.tree.Part(number)
	if rankOf(part.Kind) >= wanted {
		w.bare(number, part)
		return
	}
	w.word(words.Open)
	w.bare(number, part)
	w.word(words.Close)
}

func (w *writer) bare(number int, part parts.Part) {
	switch part.Kind {
	case parts.Num:
		w.number(part.Num)
	case parts.Name:
		w.list(part.Names, words.End)
	case parts.Unit, parts.Tuple:
		w.word(words.Open)
		w.kids(number, part, words.Comma)
		w.word(words.Close)
	case parts.Let, parts.LetRec, parts.LetTuple:
		w.let(number, part)
	case parts.If:
		w.choice(number, part)
	case parts.Fun:
		w.word(part.Word)
		w.list(part.Names, words.End)
		w.word(words.Arrow)
		w.kid(number, part, 0)
	case parts.Prod, parts.Sum, parts.Cmp, parts.Seq:
		w.kids(number, part, part.Word)
	case parts.Index:
		w.kids(number, part, part.Word)
		w.word(words.Close)
	default:
		w.word(part.Word)
		w.kids(number, part, words.End)
	}
}

func (w *writer) kid(number int, part parts.Part, i int) {
	kid := w.tree.Kid(number, i)
	wanted := wantedRank(part.Kind, i)
	w.part(kid, wanted)
}

// kids writes a part's parts, with a sign (or none) between them.
func (w *writer) kids(number int, part parts.Part, sign int) {
	for i := 0; i < len(part.Kids); i++ {
		if i > 0 {
			w.word(sign)
		}
		w.kid(number, part, i)
	}
}

func (w *writer) let(number int, part parts.Part) {
	w.word(words.Let)
	switch part.Kind {
	case parts.LetRec:
		w.word(words.Rec)
		w.list(part.Names, words.End)
	case parts.LetTuple:
		w.word(words.Open)
		w.list(part.Names, words.Comma)
		w.word(words.Close)
	default:
		w.list(part.Names, words.End)
	}
	w.word(words.Equal)
	w.kid(number, part, 0)
	w.word(words.In)
	w.kid(number, part, 1)
}

func (w *writer) choice(number int, part parts.Part) {
	w.word(words.If)
	w.kid(number, part, 0)
	w.word(words.Then)
	w.kid(number, part, 1)
	w.word(words.Else)
	w.kid(number, part, 2)
}
