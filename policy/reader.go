package policy

import (
	"slices"

	"byway/api"
	"byway/nets"
	"byway/token"
)

// reader goes through the tokens once, from left to right, so that the first
// fault it meets of each sort is the one with the least place.
type reader struct {
	tokens               []token.Token // the last one is End or None, and never taken
	next                 int
	depth                int // how many are open within one another
	defs                 []def
	page                 page
	syntax, name, number fault
}

// def is a NAME that is defined, as a set or as a way.
type def struct {
	name string
	set  set
	way  way
}

// fault is the place of the first fault of its sort.
type fault struct {
	found bool
	at    int
}

func (f *fault) tell(at int) {
	if !f.found {
		f.found, f.at = true, at
	}
}

// kind tells what comes next. Behind a fault of syntax it is None, which
// nothing begins with, so that all loops end by themselves.
func (r *reader) kind() token.Kind {
	if r.syntax.found {
		return token.None
	}
	return r.tokens[r.next].Kind
}

func (r *reader) fail() { r.syntax.tell(r.tokens[r.next].At) }

// take reads a token that must be of this kind.
func (r *reader) take(kind token.Kind) token.Token {
	if r.kind() != kind {
		r.fail()
		return token.Token{}
	}
	t := r.tokens[r.next]
	r.next++
	r.page.add(t)
	return t
}

// took reads a token if it is of this kind.
func (r *reader) took(kind token.Kind) bool {
	if r.kind() != kind {
		return false
	}
	r.take(kind)
	return true
}

// open takes a token that counts as open till shut.
func (r *reader) open(kind token.Kind) {
	if r.depth == api.MaxNest {
		r.fail()
	}
	r.take(kind)
	r.depth++
}

func (r *reader) shut(kind token.Kind) {
	r.take(kind)
	r.depth--
}

// newName reads the NAME of a DEF.
func (r *reader) newName() string {
	t := r.take(token.Name)
	if r.isDefined(t.Text) {
		r.name.tell(t.At)
	}
	return t.Text
}

func (r *reader) isDefined(name string) bool {
	return slices.ContainsFunc(r.defs, func(d def) bool { return d.name == name })
}

// useSet reads a NAME that must be that of a set.
func (r *reader) useSet() set {
	t := r.take(token.Name)
	for _, d := range r.defs {
		if d.name == t.Text && d.set != nil {
			return d.set
		}
	}
	r.name.tell(t.At)
	return nil
}

// useWay reads a NAME that must be that of a way.
func (r *reader) useWay() way {
	t := r.take(token.Name)
	for _, d := range r.defs {
		if d.name == t.Text && d.way != nil {
			return d.way
		}
	}
	r.name.tell(t.At)
	return nil
}

// numberWithin reads a NUMBER that may be least to most.
func (r *reader) numberWithin(least, most int) int {
	t := r.take(token.Number)
	if t.Number < least || t.Number > most {
		r.number.tell(t.At)
	}
	return t.Number
}

func (r *reader) length(least int) int { return r.numberWithin(least, nets.MaxLen) }

func (r *reader) system() int { return r.numberWithin(1, api.MaxSystem) }

func (r *reader) mark() int { return r.numberWithin(0, api.MaxMark) }
