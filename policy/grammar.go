package policy

import (
	"byway/api"
	"byway/token"
)

// The functions here are the rows of the document's table: each reads a thing
// and gives its closure. Those that answer a bool read nothing, and answer
// false, if what comes next begins no such thing. What they give behind a
// fault is never run.

func (r *reader) policy() []step {
	for n := 0; n < api.MaxDefs && r.def(); n++ {
	}
	steps := oneOrMore(r, r.statement)
	if r.kind() != token.End {
		r.fail()
	}
	return steps
}

func oneOrMore[T any](r *reader, read func() (T, bool)) []T {
	all := noneOrMore(read)
	if len(all) == 0 {
		r.fail()
	}
	return all
}

func noneOrMore[T any](read func() (T, bool)) []T {
	var all []T
	for one, ok := read(); ok; one, ok = read() {
		all = append(all, one)
	}
	return all
}

func (r *reader) def() bool {
	d := def{}
	switch {
	case r.took(token.Set):
		d.name = r.newName()
		r.take(token.Equal)
		d.set = r.ranges()
	case r.took(token.Way):
		d.name = r.newName()
		r.take(token.Equal)
		d.way = r.either()
	default:
		return false
	}
	r.take(token.Semicolon)
	r.defs = append(r.defs, d)
	return true
}

func (r *reader) ranges() set {
	r.take(token.OpenBrace)
	spans := []set{r.oneRange()}
	for r.took(token.Comma) {
		spans = append(spans, r.oneRange())
	}
	r.take(token.ShutBrace)
	return union(spans)
}

func (r *reader) oneRange() set {
	prefix := r.take(token.Prefix).Net
	if r.kind() != token.Number {
		return span(prefix, prefix.Len, prefix.Len)
	}
	first := r.length(prefix.Len)
	second := r.length(first)
	return span(prefix, first, second)
}

func (r *reader) either() way {
	rows := []way{row(oneOrMore(r, r.item))}
	for r.took(token.Bar) {
		rows = append(rows, row(oneOrMore(r, r.item)))
	}
	return oneOf(rows)
}

func (r *reader) item() (way, bool) {
	switch r.kind() {
	case token.Number:
		return r.repeats(system(r.system())), true
	case token.Dot:
		r.take(token.Dot)
		return r.repeats(anySystem), true
	case token.OpenParen:
		r.open(token.OpenParen)
		inner := r.either()
		r.shut(token.ShutParen)
		return r.repeats(inner), true
	default:
		return nil, false
	}
}

// repeats reads the signs behind an ITEM. Any number of them comes to no more
// than whether there may be none of it, and whether there may be many.
func (r *reader) repeats(item way) way {
	zero, many := false, false
	for {
		switch {
		case r.took(token.Star):
			zero, many = true, true
		case r.took(token.Plus):
			many = true
		case r.took(token.Question):
			zero = true
		default:
			return repeat(item, zero, many)
		}
	}
}

func (r *reader) statement() (step, bool) {
	if r.took(token.If) {
		return r.choice(), true
	}
	var s step
	switch {
	case r.took(token.Accept):
		s = conclude(api.Accept)
	case r.took(token.Reject):
		s = conclude(api.Reject)
	case r.took(token.Pref):
		s = assign(r.newValue(), putPref)
	case r.took(token.Med):
		s = assign(r.newValue(), putMed)
	case r.took(token.Mark):
		s = putMark(r.mark())
	case r.took(token.Unmark):
		s = dropMark(r.mark())
	case r.took(token.Prepend):
		s = prepend(r.system())
	default:
		return nil, false
	}
	r.take(token.Semicolon)
	return s, true
}

func (r *reader) newValue() amount {
	r.take(token.Equal)
	return r.sum()
}

// choice reads what stands behind an if.
func (r *reader) choice() step {
	c := r.cond()
	r.take(token.Then)
	yes, no := r.block(), []step(nil)
	if r.took(token.Else) {
		no = r.block()
	}
	return choose(c, yes, no)
}

func (r *reader) block() []step {
	r.open(token.OpenBrace)
	r.page.endLine()
	steps := noneOrMore(r.statement)
	r.shut(token.ShutBrace)
	r.page.endLine()
	return steps
}

func (r *reader) sum() amount {
	total := r.term()
	for {
		switch {
		case r.took(token.Plus):
			total = plus(total, r.term(), 1)
		case r.took(token.Minus):
			total = plus(total, r.term(), -1)
		default:
			return total
		}
	}
}

func (r *reader) term() amount {
	switch {
	case r.kind() == token.Number:
		return constant(r.take(token.Number).Number)
	case r.took(token.Pref):
		return thePref
	case r.took(token.Med):
		return theMed
	case r.took(token.Len):
		return theLen
	case r.kind() == token.OpenParen:
		r.open(token.OpenParen)
		inner := r.sum()
		r.shut(token.ShutParen)
		return inner
	default:
		r.fail()
		return nil
	}
}

func (r *reader) cond() cond {
	c := r.and()
	for r.took(token.Or) {
		c = or(c, r.and())
	}
	return c
}

func (r *reader) and() cond {
	c := r.not()
	for r.took(token.And) {
		c = and(c, r.not())
	}
	return c
}

func (r *reader) not() cond {
	if r.kind() != token.Not {
		return r.test()
	}
	r.open(token.Not)
	c := not(r.not())
	r.depth--
	return c
}

// test reads a NOT that begins with no not.
func (r *reader) test() cond {
	switch {
	case r.took(token.Net):
		r.take(token.In)
		return netIn(r.useSet())
	case r.took(token.Path):
		r.take(token.Like)
		return pathLike(r.useWay())
	case r.took(token.Marked):
		return marked(r.mark())
	case r.kind() == token.OpenBracket:
		r.open(token.OpenBracket)
		c := r.cond()
		r.shut(token.ShutBracket)
		return c
	default:
		return r.compare()
	}
}

func (r *reader) compare() cond {
	a := r.sum()
	if r.took(token.Less) {
		return less(a, r.sum())
	}
	r.take(token.Equal)
	return equal(a, r.sum())
}
