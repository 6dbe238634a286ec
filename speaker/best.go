package speaker

import (
	"cmp"
	"slices"

	"byway/api"
	"byway/nets"
	"byway/routes"
)

// Best gives the best routes, by their nets.
func (s *Speaker) Best() []api.Kept {
	list := s.best()
	for i := range list {
		list[i].Route = routes.Copy(list[i].Route)
	}
	return list
}

// best is Best with the lists of the peers' own routes.
func (s *Speaker) best() []api.Kept {
	list := []api.Kept(nil)
	for i, p := range s.peers {
		for _, r := range p.routes {
			list = append(list, api.Kept{Route: r, Peer: i})
		}
	}
	slices.SortFunc(list, compare)
	return slices.CompactFunc(list, func(a, b api.Kept) bool { return a.Route.Net == b.Route.Net })
}

// compare puts the routes to one net together, the best one ahead.
func compare(a, b api.Kept) int {
	return cmp.Or(
		nets.Compare(a.Route.Net, b.Route.Net),
		cmp.Compare(b.Route.Pref, a.Route.Pref),
		cmp.Compare(len(a.Route.Path), len(b.Route.Path)),
		cmp.Compare(a.Route.Med, b.Route.Med),
		cmp.Compare(a.Peer, b.Peer),
	)
}
