// Package speaker: what the peers tell, the best of it, and what they are told.
package speaker

import (
	"byway/api"
	"byway/messages"
	"byway/policy"
)

// Speaker is a speaker; one without peers knows none.
type Speaker struct {
	peers []peer
}

// Add gives it one more peer, with its policies for what it tells, and for what it is told.
func (s *Speaker) Add(in, out policy.Policy) {
	s.peers = append(s.peers, peer{in: in, out: out})
}

// Up lets a peer be up.
func (s *Speaker) Up(at int) ([]api.Told, api.Errno) {
	p, e := s.find(at, false)
	if e != api.OK {
		return nil, e
	}
	p.up = true
	return s.tell(), api.OK
}

// Down lets a peer be down: nothing of it is left.
func (s *Speaker) Down(at int) ([]api.Told, api.Errno) {
	p, e := s.find(at, true)
	if e != api.OK {
		return nil, e
	}
	p.up, p.routes, p.view = false, nil, nil
	return s.tell(), api.OK
}

// Feed brings a peer's message. With an error there may be something to tell,
// too, for the peer's routes are gone then.
func (s *Speaker) Feed(at int, b []byte) ([]api.Told, api.Errno) {
	p, e := s.find(at, true)
	if e != api.OK {
		return nil, e
	}
	u, e := messages.Decode(b)
	if e == api.OK {
		e = p.take(u)
	}
	if e != api.OK {
		p.routes = nil
	}
	return s.tell(), e
}

// find gives a peer that must be up, or down.
func (s *Speaker) find(at int, up bool) (*peer, api.Errno) {
	if at < 0 || at >= len(s.peers) {
		return nil, api.ErrPeer
	}
	p := &s.peers[at]
	if p.up != up {
		return nil, api.ErrState
	}
	return p, api.OK
}
