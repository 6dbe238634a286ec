package byway

import (
	"math/rand"
	"slices"
	"testing"

	"byway/api"
)

// ledger is a second reading of the speaker: by maps, and each time from the beginning.
type ledger struct {
	in, out      []*Policy
	up           []bool
	taken, views []map[api.Net]api.Route
}

func ledgerOf(in, out []*Policy) *ledger {
	l := &ledger{in: in, out: out, up: make([]bool, len(in))}
	for range in {
		l.taken, l.views = append(l.taken, map[api.Net]api.Route{}), append(l.views, map[api.Net]api.Route{})
	}
	return l
}

// wrongPeer tells the error of a peer that is to be up, or down.
func (l *ledger) wrongPeer(peer int, up bool) api.Errno {
	switch {
	case peer < 0 || peer >= len(l.in):
		return api.ErrPeer
	case l.up[peer] != up:
		return api.ErrState
	}
	return api.OK
}

func (l *ledger) turn(peer int, up bool) ([]api.Told, api.Errno) {
	if e := l.wrongPeer(peer, !up); e != api.OK {
		return nil, e
	}
	l.up[peer] = up
	clear(l.taken[peer])
	clear(l.views[peer])
	return l.lacks(), api.OK
}

func (l *ledger) feed(peer int, b []byte) ([]api.Told, api.Errno) {
	if e := l.wrongPeer(peer, true); e != api.OK {
		return nil, e
	}
	u, e := Decode(b)
	if e != api.OK {
		clear(l.taken[peer])
		return l.lacks(), e
	}
	for _, n := range append(slices.Clone(u.Gone), u.Nets...) {
		delete(l.taken[peer], n)
	}
	for _, n := range u.Nets {
		r, verdict, _ := l.in[peer].Run(api.Route{Net: n, Path: u.Path, Marks: u.Marks, Pref: u.Pref, Med: u.Med})
		if verdict == api.Accept {
			l.taken[peer][n] = r
		}
	}
	if len(l.taken[peer]) > 16 {
		clear(l.taken[peer])
		return l.lacks(), api.ErrNet
	}
	return l.lacks(), api.OK
}

// bestTo gives the best route to n, and whose it is; of none: -1.
func (l *ledger) bestTo(n api.Net) (api.Route, int) {
	best, whose := api.Route{}, -1
	for peer, taken := range l.taken {
		if r, ok := taken[n]; ok && (whose < 0 || beats(r, best)) {
			best, whose = r, peer
		}
	}
	return best, whose
}

// beats tells whether a is the best of the two; of equal ones, the one that came first is kept.
func beats(a, b api.Route) bool {
	if a.Pref != b.Pref {
		return a.Pref > b.Pref
	}
	if len(a.Path) != len(b.Path) {
		return len(a.Path) < len(b.Path)
	}
	return a.Med < b.Med
}

func (l *ledger) lacks() []api.Told {
	all := []api.Told(nil)
	for peer, view := range l.views {
		if !l.up[peer] {
			continue
		}
		for _, n := range poolOfNets() {
			r, whose := l.bestTo(n)
			must := false
			if whose >= 0 && whose != peer {
				out, verdict, _ := l.out[peer].Run(r)
				r, must = out, verdict == api.Accept
			}
			was, there := view[n]
			switch {
			case must && !(there && sameRoute(was, r)):
				b, _ := Encode(api.Update{Nets: []api.Net{n}, Path: r.Path, Marks: r.Marks, Pref: r.Pref, Med: r.Med})
				all = append(all, api.Told{Peer: peer, Bytes: b})
				view[n] = r
			case there && !must:
				b, _ := Encode(api.Update{Gone: []api.Net{n}})
				all = append(all, api.Told{Peer: peer, Bytes: b})
				delete(view, n)
			}
		}
	}
	return all
}

func (l *ledger) best() []api.Kept {
	all := []api.Kept(nil)
	for _, n := range poolOfNets() {
		if r, whose := l.bestTo(n); whose >= 0 {
			all = append(all, api.Kept{Route: r, Peer: whose})
		}
	}
	return all
}

// poolOfNets gives the nets that are told of, by their order.
func poolOfNets() []api.Net {
	pool := append(triedNets(), netOf(10, 1, 0, 0, 17), netOf(64, 0, 0, 0, 2), netOf(12, 0, 0, 0, 8), netOf(12, 0, 0, 0, 9), netOf(12, 0, 0, 0, 10), netOf(12, 128, 0, 0, 9), netOf(13, 0, 0, 0, 8), netOf(13, 1, 0, 0, 16), netOf(200, 0, 0, 0, 8), netOf(200, 1, 0, 0, 16))
	slices.SortFunc(pool, func(a, b api.Net) int { return (a.Addr<<8 | a.Len) - (b.Addr<<8 | b.Len) })
	return pool
}

// simple policies let through more than those of a writer do.
func (w writer) simple() string {
	return w.one("accept;", "accept;", "prepend 1; accept;", "if marked 1 then { reject; } accept;", "if len < 2 then { accept; }", "med = 0; accept;", "pref = len; mark 2; accept;", "if net in a then { accept; }", "pref = pref + med; accept;", "unmark 1; pref = 3 - med; accept;")
}

func (w writer) anyPolicy(t *testing.T) *Policy {
	text := "set a = { 10.0.0.0/7 7 32, 0.0.0.0/0 }; " + w.simple()
	if w.Intn(3) == 0 {
		text = w.policy()
	}
	if len(text) > api.MaxText {
		return w.anyPolicy(t)
	}
	return mustCompile(t, text)
}

func (w writer) update() api.Update {
	pool := poolOfNets()
	w.Shuffle(len(pool), func(i, j int) { pool[i], pool[j] = pool[j], pool[i] })
	gone := w.Intn(w.Intn(8) + 1)
	u := api.Update{Gone: pool[:gone], Nets: pool[gone : gone+w.Intn(w.Intn(21-gone)+1)]}
	if len(u.Nets) == 0 {
		return u
	}
	for range w.Intn(4) {
		u.Path = append(u.Path, 1+w.Intn(3))
	}
	u.Marks = w.Perm(4)[:w.Intn(3)]
	slices.Sort(u.Marks)
	u.Pref, u.Med = w.Intn(3), w.Intn(3)
	return u
}

// bytesOf gives a message's bytes, sometimes with a byte that is another, or without its end.
func (w writer) bytesOf(t *testing.T) []byte {
	b := mustEncode(t, w.update())
	switch w.Intn(16) {
	case 0:
		b[w.Intn(len(b))] ^= byte(1 << w.Intn(8))
		// Nets that are not of the pool are left out.
		if u, e := Decode(b); e == api.OK && slices.ContainsFunc(append(u.Gone, u.Nets...), func(n api.Net) bool { return !slices.Contains(poolOfNets(), n) }) {
			return nil
		}
	case 1:
		if b = b[:w.Intn(len(b))]; len(b) > 3 {
			return nil
		}
	}
	return b
}

// act does one thing to both, and gives what they answer.
func (w writer) act(t *testing.T, s *Speaker, l *ledger) (got, want []api.Told, e, wantErr api.Errno) {
	peer := w.Intn(len(l.in))
	if w.Intn(32) == 0 {
		peer = []int{-1, len(l.in)}[w.Intn(2)]
	}
	switch w.Intn(12) {
	case 0, 1:
		got, e = s.Up(peer)
		want, wantErr = l.turn(peer, true)
	case 2:
		got, e = s.Down(peer)
		want, wantErr = l.turn(peer, false)
	default:
		b := w.bytesOf(t)
		want, wantErr = l.feed(peer, b)
		got, e = s.Feed(peer, b)
		overwrite(b)
	}
	return got, want, e, wantErr
}

// overwrite writes into all of a list, its spare room too.
func overwrite[T byte | int](list []T) {
	for i := range list[:cap(list)] {
		list[:cap(list)][i] = 77
	}
}

// spoil writes over all that came out.
func spoil(told []api.Told, kept []api.Kept) {
	for _, m := range told {
		overwrite(m.Bytes)
	}
	for _, k := range kept {
		overwrite(k.Route.Path)
		overwrite(k.Route.Marks)
	}
	told, kept = told[:cap(told)], kept[:cap(kept)]
	for i := range told {
		told[i] = api.Told{Peer: 77, Bytes: []byte{77}}
	}
	for i := range kept {
		kept[i] = api.Kept{Peer: 77, Route: api.Route{Net: api.Net{Addr: 77, Len: 32}, Pref: 77}}
	}
}

// TestSpeakerModel holds speakers against ledgers, three in turn with the same policies (P2, P7 to P10).
func TestSpeakerModel(t *testing.T) {
	w := writer{rand.New(rand.NewSource(5))}
	answers, told := map[api.Errno]int{}, 0
	for range 300 {
		n := 1 + w.Intn(4)
		in, out := []*Policy(nil), []*Policy(nil)
		for range n {
			in, out = append(in, w.anyPolicy(t)), append(out, w.anyPolicy(t))
		}
		speakers, ledgers := []*Speaker(nil), []*ledger(nil)
		for range 3 {
			s, e := New(in, out)
			if e != api.OK {
				t.Fatalf("New = %d", e)
			}
			speakers, ledgers = append(speakers, s), append(ledgers, ledgerOf(in, out))
		}
		for range 150 {
			i := w.Intn(3)
			got, want, e, wantErr := w.act(t, speakers[i], ledgers[i])
			if e != wantErr || !sameTold(got, want) {
				t.Fatalf("it answers %v, %d, want %v, %d", got, e, want, wantErr)
			}
			best := speakers[i].Best()
			if wanted := ledgers[i].best(); !sameKept(best, wanted) {
				t.Fatalf("Best = %+v, want %+v", best, wanted)
			}
			answers[e]++
			told += len(got)
			spoil(got, best)
		}
	}
	for _, e := range []api.Errno{api.OK, api.ErrBody, api.ErrNet, api.ErrPeer, api.ErrState} {
		if answers[e] < 100 {
			t.Errorf("of the error %d came %d", e, answers[e])
		}
	}
	if told < 10000 {
		t.Errorf("told were %d", told)
	}
}
