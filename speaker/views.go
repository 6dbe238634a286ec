package speaker

import (
	"iter"

	"byway/api"
	"byway/messages"
	"byway/nets"
	"byway/routes"
)

// tell makes the views what they must be, and gives what they lacked.
func (s *Speaker) tell() []api.Told {
	list, best := []api.Told(nil), s.best()
	for i := range s.peers {
		p := &s.peers[i]
		if !p.up {
			continue
		}
		must := p.mustView(i, best)
		for u := range changes(p.view, must) {
			// No error can come: u is of one net, and what a policy gives is a route.
			b, _ := messages.Encode(u)
			list = append(list, api.Told{Peer: i, Bytes: b})
		}
		p.view = must
	}
	return list
}

// mustView gives the view that p, which is the peer of this number, must have.
func (p *peer) mustView(number int, best []api.Kept) routes.Table {
	must := routes.Table(nil)
	for _, k := range best {
		if k.Peer == number {
			continue
		}
		if r, verdict := p.out.Run(k.Route); verdict == api.Accept {
			must = append(must, r)
		}
	}
	return must
}

// changes yields the messages that make a view what it must be, one for each
// net that needs it.
func changes(view, must routes.Table) iter.Seq[api.Update] {
	return func(yield func(api.Update) bool) {
		for len(view) > 0 || len(must) > 0 {
			u, needed := api.Update{}, true
			switch order := compareFirst(view, must); {
			case order < 0:
				u, view = withdrawal(view[0]), view[1:]
			case order > 0:
				u, must = announcement(must[0]), must[1:]
			default:
				u, needed = announcement(must[0]), !routes.Equal(view[0], must[0])
				view, must = view[1:], must[1:]
			}
			if needed && !yield(u) {
				return
			}
		}
	}
}

// compareFirst compares the nets of the first routes; an empty table is behind.
func compareFirst(a, b routes.Table) int {
	switch {
	case len(a) == 0:
		return 1
	case len(b) == 0:
		return -1
	default:
		return nets.Compare(a[0].Net, b[0].Net)
	}
}

func withdrawal(r api.Route) api.Update { return api.Update{Gone: []api.Net{r.Net}} }

func announcement(r api.Route) api.Update {
	return api.Update{Nets: []api.Net{r.Net}, Path: r.Path, Marks: r.Marks, Pref: r.Pref, Med: r.Med}
}
