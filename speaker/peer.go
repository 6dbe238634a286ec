package speaker

import (
	"byway/api"
	"byway/policy"
	"byway/routes"
)

// peer is a peer; while it is down it has no routes, and an empty view.
type peer struct {
	in, out policy.Policy
	up      bool
	routes  routes.Table // taken from it
	view    routes.Table // told to it
}

// take changes the peer's routes as u says. Whether they are too many is told
// at the end, for what stands further on in u may make room.
func (p *peer) take(u api.Update) api.Errno {
	for _, n := range u.Gone {
		p.routes.Drop(n)
	}
	for _, n := range u.Nets {
		p.takeRoute(api.Route{Net: n, Path: u.Path, Marks: u.Marks, Pref: u.Pref, Med: u.Med})
	}
	if len(p.routes) > api.MaxNets {
		return api.ErrNet
	}
	return api.OK
}

func (p *peer) takeRoute(r api.Route) {
	taken, verdict := p.in.Run(r)
	if verdict == api.Accept {
		p.routes.Put(taken)
	} else {
		p.routes.Drop(r.Net)
	}
}
