package policy

import (
	"byway/api"
	"byway/token"
)

// The functions here are the rows of the document's table. Those that answer
// a bool read nothing, and answer false, if what comes next begins no such thing.

func (r *reader) policy() {
	for n := 0; n < api.MaxDefs && r.def(); n++ {
	}
	r.oneOrMore(r.statement)
	if r.kind() != token.End {
		r.fail()
	}
}

func (r *reader) oneOrMore(read func() bool) {
	if !read() {
		r.fail()
	}
	for read() {
	}
}

func (r *reader) def() bool {
	switch {
	case r.took(token.Set):
		r.define(token.Set)
		r.take(token.Equal)
		r.ranges()
	case r.took(token.Way):
		r.define(token.Way)
		r.take(token.Equal)
		r.either()
	default:
		return false
	}
	r.take(token.Semicolon)
	return true
}

func (r *reader) ranges() {
	r.take(token.OpenBrace)
	r.oneRange()
	for r.took(token.Comma) {
		r.oneRange()
	}
	r.take(token.ShutBrace)
}

func (r *reader) oneRange() {
	prefix := r.take(token.Prefix)
	if r.kind() != token.Number {
		return
	}
	first := r.length(prefix.Net.Len)
	r.length(first)
}

func (r *reader) either() {
	r.oneOrMore(r.item)
	for r.took(token.Bar) {
		r.oneOrMore(r.item)
	}
}

func (r *reader) item() bool {
	switch r.kind() {
	case token.Number:
		r.system()
	case token.Dot:
		r.take(token.Dot)
	case token.OpenParen:
		r.open(token.OpenParen)
		r.either()
		r.shut(token.ShutParen)
	default:
		return false
	}
	for r.took(token.Star) || r.took(token.Plus) || r.took(token.Question) {
	}
	return true
}

func (r *reader) statement() bool {
	switch {
	case r.took(token.If):
		r.choice()
		return true
	case r.took(token.Accept), r.took(token.Reject):
	case r.took(token.Pref), r.took(token.Med):
		r.take(token.Equal)
		r.sum()
	case r.took(token.Mark), r.took(token.Unmark):
		r.mark()
	case r.took(token.Prepend):
		r.system()
	default:
		return false
	}
	r.take(token.Semicolon)
	return true
}

// choice reads what stands behind an if.
func (r *reader) choice() {
	r.cond()
	r.take(token.Then)
	r.block()
	if r.took(token.Else) {
		r.block()
	}
}

func (r *reader) block() {
	r.open(token.OpenBrace)
	r.page.endLine()
	for r.statement() {
	}
	r.shut(token.ShutBrace)
	r.page.endLine()
}

func (r *reader) sum() {
	r.term()
	for r.took(token.Plus) || r.took(token.Minus) {
		r.term()
	}
}

func (r *reader) term() {
	switch r.kind() {
	case token.Number, token.Pref, token.Med, token.Len:
		r.take(r.kind())
	case token.OpenParen:
		r.open(token.OpenParen)
		r.sum()
		r.shut(token.ShutParen)
	default:
		r.fail()
	}
}

func (r *reader) cond() {
	r.and()
	for r.took(token.Or) {
		r.and()
	}
}

func (r *reader) and() {
	r.not()
	for r.took(token.And) {
		r.not()
	}
}

func (r *reader) not() {
	if r.kind() != token.Not {
		r.test()
		return
	}
	r.open(token.Not)
	r.not()
	r.depth--
}

// test reads a NOT that begins with no not.
func (r *reader) test() {
	switch {
	case r.took(token.Net):
		r.take(token.In)
		r.use(token.Set)
	case r.took(token.Path):
		r.take(token.Like)
		r.use(token.Way)
	case r.took(token.Marked):
		r.mark()
	case r.kind() == token.OpenBracket:
		r.open(token.OpenBracket)
		r.cond()
		r.shut(token.ShutBracket)
	default:
		r.compare()
	}
}

func (r *reader) compare() {
	r.sum()
	if !r.took(token.Equal) && !r.took(token.Less) {
		r.fail()
	}
	r.sum()
}
