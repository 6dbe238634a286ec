// Package messages: what a message is, and its bytes.
package messages

import (
	"slices"

	"byway/api"
	"byway/nets"
	"byway/routes"
)

// valid tells whether u is a message.
func valid(u api.Update) bool {
	if !validNets(u.Gone, u.Nets) {
		return false
	}
	if len(u.Nets) == 0 {
		return len(u.Path) == 0 && len(u.Marks) == 0 && u.Pref == 0 && u.Med == 0
	}
	return routes.Valid(api.Route{Path: u.Path, Marks: u.Marks, Pref: u.Pref, Med: u.Med})
}

// validNets tells whether the nets of a message may be these.
func validNets(gone, here []api.Net) bool {
	if len(gone)+len(here) > api.MaxRoutes {
		return false
	}
	all := slices.Concat(gone, here)
	for i, n := range all {
		if !nets.Valid(n) || slices.Contains(all[:i], n) {
			return false
		}
	}
	return true
}
