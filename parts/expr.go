package parts

import (
	"slim/api"
	"slim/words"
)

func (p *parser) expr() int {
	switch p.kind() {
	case words.Let:
		return p.let()
	case words.If:
		return p.choice()
	case words.Fun:
		return p.function()
	}
	return p.sequence()
}

func (p *parser) let() int {
	word := p.take()
	part := Part{Kind: Let, At: word.At, Word: word.Kind}
	switch p.kind() {
	case words.Rec:
		p.take()
		part.Kind = LetRec
		part.Names = p.functionNames()
	case words.Open:
		part.Kind = LetTuple
		part.Names = p.tupleNames()
	default:
		name := p.want(words.Name)
		part.Names = []string{name.Name}
	}
	p.want(words.Equal)
	bound := p.expr()
	p.want(words.In)
	body := p.expr()
	part.Kids = []int{bound, body}
	return p.add(part)
}

func (p *parser) functionNames() []string {
	name := p.want(words.Name)
	parameters := p.parameters()
	return append([]string{name.Name}, parameters...)
}

func (p *parser) parameters() []string {
	first := p.want(words.Name)
	names := []string{first.Name}
	for len(names) < api.MaxArgs && p.kind() == words.Name {
		name := p.take()
		names = append(names, name.Name)
	}
	return names
}

func (p *parser) tupleNames() []string {
	p.begin(words.Open)
	first := p.want(words.Name)
	p.want(words.Comma)
	second := p.want(words.Name)
	names := []string{first.Name, second.Name}
	for len(names) < api.MaxTuple && p.kind() == words.Comma {
		p.take()
		name := p.want(words.Name)
		names = append(names, name.Name)
	}
	p.finish()
	return names
}

func (p *parser) choice() int {
	word := p.take()
	condition := p.expr()
	p.want(words.Then)
	first := p.expr()
	p.want(words.Else)
	second := p.expr()
	return p.add(Part{Kind: If, At: word.At, Word: word.Kind, Kids: []int{condition, first, second}})
}

func (p *parser) function() int {
	word := p.take()
	names := p.parameters()
	p.want(words.Arrow)
	body := p.expr()
	return p.add(Part{Kind: Fun, At: word.At, Word: word.Kind, Names: names, Kids: []int{body}})
}

func (p *parser) sequence() int {
	left := p.comparison()
	if p.kind() != words.Semi {
		return left
	}
	sign := p.take()
	right := p.expr()
	return p.between(Seq, left, sign, right)
}

func (p *parser) comparison() int {
	left := p.sum()
	if p.operator() != Cmp {
		return left
	}
	sign := p.take()
	right := p.sum()
	return p.between(Cmp, left, sign, right)
}

func (p *parser) sum() int {
	left := p.product()
	for p.operator() == Sum {
		sign := p.take()
		right := p.product()
		left = p.between(Sum, left, sign, right)
	}
	return left
}

func (p *parser) product() int {
	left := p.unary()
	for p.operator() == Prod {
		sign := p.take()
		right := p.unary()
		left = p.between(Prod, left, sign, right)
	}
	return left
}

// operator tells the kind of part that the next word, as a sign between two parts, makes.
func (p *parser) operator() int {
	switch p.kind() {
	case words.Equal, words.Unequal, words.Less, words.AtMost, words.Greater, words.AtLeast:
		return Cmp
	case words.Plus, words.Minus:
		return Sum
	case words.Times, words.Over, words.Rest:
		return Prod
	}
	return None
}

func (p *parser) between(kind int, left int, sign words.Word, right int) int {
	return p.add(Part{Kind: kind, At: sign.At, Word: sign.Kind, Kids: []int{left, right}})
}
