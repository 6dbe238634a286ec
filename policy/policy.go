// Package policy: policies, read from their texts and run.
package policy

import (
	"byway/api"
	"byway/routes"
	"byway/token"
)

// Policy is a policy that was read. Its steps keep nothing of a run.
type Policy struct {
	printed string
	steps   []step
}

// Print gives the policy's text in its one layout.
func (p Policy) Print() string { return p.printed }

// Run gives the verdict, and with Accept what has become of r, which must be
// a route.
func (p Policy) Run(r api.Route) (api.Route, int) {
	r = routes.Copy(r)
	switch perform(p.steps, &r) {
	case api.Accept:
		return r, api.Accept
	case api.Failed:
		return api.Route{}, api.Failed
	default:
		return api.Route{}, api.Reject
	}
}

// Read reads a policy; with an error it tells the place.
func Read(text string) (Policy, api.Errno, int) {
	if len(text) > api.MaxText {
		return Policy{}, api.ErrLong, 0
	}
	r := reader{}
	for t := range token.All(text) {
		r.tokens = append(r.tokens, t)
	}
	steps := r.policy()
	switch {
	case r.syntax.found:
		return Policy{}, api.ErrSyntax, r.syntax.at
	case r.name.found:
		return Policy{}, api.ErrName, r.name.at
	case r.number.found:
		return Policy{}, api.ErrNumber, r.number.at
	}
	return Policy{printed: r.page.done(), steps: steps}, api.OK, 0
}
