// Package parts: the grammar (P4), and a text's parts and their places (P5).
package parts

import (
	"slim/api"
	"slim/words"
)

// parser: a fault moves it behind the last word, where nothing goes on, so that all that waits ends at once.
type parser struct {
	list  []words.Word
	next  int
	open  int
	nest  int
	parts []Part
	err   api.Errno
	at    int
}

// Parse tells the parts of a text's words (their End among them), of which nest brackets may be open at a time; or the first error and where.
func Parse(list []words.Word, nest int) (Tree, api.Errno, int) {
	p := &parser{list: list, nest: nest}
	p.expr()
	p.want(words.End)
	if p.err != api.OK {
		return Tree{}, p.err, p.at
	}
	return Tree{Parts: p.parts}, api.OK, 0
}

func (p *parser) word() words.Word {
	if p.next >= len(p.list) {
		return words.Word{Kind: words.End}
	}
	return p.list[p.next]
}

func (p *parser) kind() int {
	return p.word().Kind
}

func (p *parser) take() words.Word {
	word := p.word()
	p.next++
	return word
}

func (p *parser) fail(err api.Errno) {
	if p.err == api.OK {
		p.err = err
		p.at = p.word().At
	}
	p.next = len(p.list)
}

func (p *parser) want(kind int) words.Word {
	if p.kind() != kind {
		p.fail(api.ErrSyntax)
	}
	return p.take()
}

// begin takes a bracket. The grammar is asked ahead of the count: at one bracket ErrSyntax is told.
func (p *parser) begin(kind int) words.Word {
	if p.kind() != kind {
		p.fail(api.ErrSyntax)
	} else if p.open >= p.nest {
		p.fail(api.ErrNest)
	}
	p.open++
	return p.take()
}

func (p *parser) finish() {
	p.want(words.Close)
	p.open--
}

func (p *parser) add(part Part) int {
	p.parts = append(p.parts, part)
	return len(p.parts) - 1
}
