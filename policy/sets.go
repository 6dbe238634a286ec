package policy

import (
	"byway/api"
	"byway/nets"
)

// set tells which nets it holds.
type set func(api.Net) bool

func span(prefix api.Net, least, most int) set {
	return func(n api.Net) bool {
		return n.Len >= least && n.Len <= most && nets.Within(n, prefix)
	}
}

func union(spans []set) set {
	return func(n api.Net) bool {
		for _, holds := range spans {
			if holds(n) {
				return true
			}
		}
		return false
	}
}
