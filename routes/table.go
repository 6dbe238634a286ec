package routes

import (
	"slices"

	"byway/api"
	"byway/nets"
)

// Table holds routes in the order of their nets, at most one to each.
type Table []api.Route

// Put puts r in, in the place of a route to its net that is there.
func (t *Table) Put(r api.Route) {
	at, there := t.find(r.Net)
	if there {
		(*t)[at] = r
		return
	}
	*t = slices.Insert(*t, at, r)
}

// Drop takes out the route to n, if there is one.
func (t *Table) Drop(n api.Net) {
	if at, there := t.find(n); there {
		*t = slices.Delete(*t, at, at+1)
	}
}

// find tells where the route to n is, or would be.
func (t *Table) find(n api.Net) (int, bool) {
	return slices.BinarySearchFunc(*t, n, func(r api.Route, n api.Net) int { return nets.Compare(r.Net, n) })
}
