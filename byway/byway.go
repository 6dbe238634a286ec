// Package byway: routes, and who may tell them to whom: see DOC.md.
package byway

import (
	"slices"

	"byway/api"
	"byway/messages"
	"byway/policy"
	"byway/routes"
	"byway/speaker"
)

// Policy is a policy that was read.
type Policy struct {
	inner policy.Policy
}

// Speaker is a speaker.
type Speaker struct {
	inner speaker.Speaker
}

// Compile reads a policy (P3).
func Compile(text string) (*Policy, api.Errno, int) {
	inner, e, at := policy.Read(text)
	if e != api.OK {
		return nil, e, at
	}
	return &Policy{inner: inner}, api.OK, 0
}

// Print writes it (P4).
func (p *Policy) Print() string {
	if p == nil {
		return ""
	}
	return p.inner.Print()
}

// Run runs it with a route (P5).
func (p *Policy) Run(r api.Route) (api.Route, int, api.Errno) {
	if !routes.Valid(r) {
		return api.Route{}, 0, api.ErrRoute
	}
	if p == nil {
		return api.Route{}, api.Reject, api.OK
	}
	out, verdict := p.inner.Run(r)
	return out, verdict, api.OK
}

// Encode gives a message's bytes (P6).
func Encode(u api.Update) ([]byte, api.Errno) { return messages.Encode(u) }

// Decode reads them (P6).
func Decode(b []byte) (api.Update, api.Errno) { return messages.Decode(b) }

// New makes a speaker (P7).
func New(in []*Policy, out []*Policy) (*Speaker, api.Errno) {
	if len(in) < 1 || len(in) > api.MaxPeers || len(in) != len(out) || slices.Contains(in, nil) || slices.Contains(out, nil) {
		return nil, api.ErrPeer
	}
	s := &Speaker{}
	for i := range in {
		s.inner.Add(in[i].inner, out[i].inner)
	}
	return s, api.OK
}

// Up lets a peer be up (P8).
func (s *Speaker) Up(peer int) ([]api.Told, api.Errno) {
	if s == nil {
		return nil, api.ErrPeer
	}
	return s.inner.Up(peer)
}

// Down lets a peer be down (P8).
func (s *Speaker) Down(peer int) ([]api.Told, api.Errno) {
	if s == nil {
		return nil, api.ErrPeer
	}
	return s.inner.Down(peer)
}

// Feed brings a peer's message (P8).
func (s *Speaker) Feed(peer int, b []byte) ([]api.Told, api.Errno) {
	if s == nil {
		return nil, api.ErrPeer
	}
	return s.inner.Feed(peer, b)
}

// Best tells the best routes (P10).
func (s *Speaker) Best() []api.Kept {
	if s == nil {
		return nil
	}
	return s.inner.Best()
}
