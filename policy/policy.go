// Package policy: policies, read from their texts.
package policy

import (
	"byway/api"
	"byway/token"
)

// Policy is a policy that was read.
type Policy struct {
	printed string
}

// Print gives the policy's text in its one layout.
func (p Policy) Print() string { return p.printed }

// Read reads a policy; with an error it tells the place.
func Read(text string) (Policy, api.Errno, int) {
	if len(text) > api.MaxText {
		return Policy{}, api.ErrLong, 0
	}
	r := reader{}
	for t := range token.All(text) {
		r.tokens = append(r.tokens, t)
	}
	r.policy()
	switch {
	case r.syntax.found:
		return Policy{}, api.ErrSyntax, r.syntax.at
	case r.name.found:
		return Policy{}, api.ErrName, r.name.at
	case r.number.found:
		return Policy{}, api.ErrNumber, r.number.at
	}
	return Policy{printed: r.page.done()}, api.OK, 0
}
