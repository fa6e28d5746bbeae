package parts

import (
	"slim/api"
	"slim/words"
)

func (p *parser) unary() int {
	kind := None
	switch p.kind() {
	case words.Minus:
		kind = Neg
	case words.Not:
		kind = Not
	default:
		return p.call()
	}
	word := p.take()
	kid := p.unary()
	return p.add(Part{Kind: kind, At: word.At, Word: word.Kind, Kids: []int{kid}})
}

func (p *parser) call() int {
	switch p.kind() {
	case words.Print:
		return p.prefixed(Print, 1)
	case words.Len:
		return p.prefixed(Len, 1)
	case words.Array:
		return p.prefixed(Array, 2)
	case words.Put:
		return p.prefixed(Put, 3)
	}
	function := p.operand()
	kids := []int{function}
	for len(kids) <= api.MaxArgs && p.atOperand() {
		kid := p.operand()
		kids = append(kids, kid)
	}
	if len(kids) == 1 {
		return function
	}
	at := p.placeOf(function)
	return p.add(Part{Kind: Call, At: at, Kids: kids})
}

func (p *parser) placeOf(number int) int {
	if number < 0 || number >= len(p.parts) {
		return 0
	}
	return p.parts[number].At
}

// prefixed takes a part that is a word of the grammar's own, with so many operands behind it.
func (p *parser) prefixed(kind int, count int) int {
	word := p.take()
	kids := []int{}
	for len(kids) < count {
		kid := p.operand()
		kids = append(kids, kid)
	}
	return p.add(Part{Kind: kind, At: word.At, Word: word.Kind, Kids: kids})
}

func (p *parser) atOperand() bool {
	switch p.kind() {
	case words.Num, words.True, words.False, words.Read, words.Name, words.Open:
		return true
	}
	return false
}

func (p *parser) operand() int {
	left := p.atom()
	for p.kind() == words.Index {
		sign := p.begin(words.Index)
		right := p.expr()
		p.finish()
		left = p.between(Index, left, sign, right)
	}
	return left
}

func (p *parser) atom() int {
	switch p.kind() {
	case words.Num:
		word := p.take()
		return p.add(Part{Kind: Num, At: word.At, Num: word.Num})
	case words.Name:
		word := p.take()
		return p.add(Part{Kind: Name, At: word.At, Names: []string{word.Name}})
	case words.True:
		return p.prefixed(True, 0)
	case words.False:
		return p.prefixed(False, 0)
	case words.Read:
		return p.prefixed(Read, 0)
	case words.Open:
		return p.bracketed()
	}
	p.fail(api.ErrSyntax)
	return -1
}

func (p *parser) bracketed() int {
	bracket := p.begin(words.Open)
	if p.kind() == words.Close {
		p.finish()
		return p.add(Part{Kind: Unit, At: bracket.At})
	}
	first := p.expr()
	kids := []int{first}
	for len(kids) < api.MaxTuple && p.kind() == words.Comma {
		p.take()
		kid := p.expr()
		kids = append(kids, kid)
	}
	p.finish()
	if len(kids) == 1 {
		return first
	}
	return p.add(Part{Kind: Tuple, At: bracket.At, Kids: kids})
}
