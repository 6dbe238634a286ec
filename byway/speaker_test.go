package byway

import (
	"bytes"
	"math"
	"slices"
	"testing"

	"byway/api"
)

// talk is a speaker that is tried.
type talk struct {
	t *testing.T
	s *Speaker
}

// talkOf gives a speaker whose peers have two policies each: in, out; all of them are up.
func talkOf(t *testing.T, texts ...string) talk {
	t.Helper()
	k := talkDown(t, texts...)
	for peer := range len(texts) / 2 {
		k.up(peer)
	}
	return k
}

func talkDown(t *testing.T, texts ...string) talk {
	t.Helper()
	in, out := []*Policy(nil), []*Policy(nil)
	for i := 0; i < len(texts); i += 2 {
		in, out = append(in, mustCompile(t, texts[i])), append(out, mustCompile(t, texts[i+1]))
	}
	s, e := New(in, out)
	if s == nil || e != api.OK {
		t.Fatalf("New = %v, %d", s, e)
	}
	return talk{t, s}
}

// plain gives policies of n peers, which take all and tell all.
func plain(n int) []string { return slices.Repeat([]string{"accept;"}, 2*n) }

// says is a message that a peer is told.
type says struct {
	peer int
	u    api.Update
}

func mustEncode(t *testing.T, u api.Update) []byte {
	t.Helper()
	b, e := Encode(u)
	if e != api.OK {
		t.Fatalf("Encode(%+v) = %d", u, e)
	}
	return b
}

func (k talk) told(what string, list []api.Told, e, wantErr api.Errno, want []says) {
	k.t.Helper()
	wanted := []api.Told(nil)
	for _, w := range want {
		wanted = append(wanted, api.Told{Peer: w.peer, Bytes: mustEncode(k.t, w.u)})
	}
	if e != wantErr || !sameTold(list, wanted) {
		k.t.Errorf("%s = %v, %d, want %v, %d", what, list, e, wanted, wantErr)
	}
}

func sameTold(a, b []api.Told) bool {
	return slices.EqualFunc(a, b, func(x, y api.Told) bool { return x.Peer == y.Peer && bytes.Equal(x.Bytes, y.Bytes) })
}

func sameKept(a, b []api.Kept) bool {
	return slices.EqualFunc(a, b, func(x, y api.Kept) bool { return x.Peer == y.Peer && sameRoute(x.Route, y.Route) })
}

func (k talk) up(peer int, want ...says) {
	k.t.Helper()
	list, e := k.s.Up(peer)
	k.told("Up", list, e, api.OK, want)
}

func (k talk) down(peer int, want ...says) {
	k.t.Helper()
	list, e := k.s.Down(peer)
	k.told("Down", list, e, api.OK, want)
}

func (k talk) feed(peer int, u api.Update, want ...says) {
	k.t.Helper()
	k.feedWrong(peer, mustEncode(k.t, u), api.OK, want...)
}

func (k talk) feedWrong(peer int, b []byte, wantErr api.Errno, want ...says) {
	k.t.Helper()
	list, e := k.s.Feed(peer, b)
	k.told("Feed", list, e, wantErr, want)
}

func (k talk) best(want ...api.Kept) {
	k.t.Helper()
	if got := k.s.Best(); !sameKept(got, want) {
		k.t.Errorf("Best = %+v, want %+v", got, want)
	}
}

// here tells nets with a pref, and a path of so many systems.
func here(pref, length int, list ...api.Net) api.Update {
	return api.Update{Nets: list, Pref: pref, Path: slices.Repeat([]int{9}, length)}
}

func away(list ...api.Net) api.Update { return api.Update{Gone: list} }

// kept is a route of here.
func kept(peer, pref, length int, n api.Net) api.Kept {
	return api.Kept{Peer: peer, Route: api.Route{Net: n, Pref: pref, Path: slices.Repeat([]int{9}, length)}}
}

var (
	ten   = netOf(10, 0, 0, 0, 8)
	house = netOf(192, 168, 0, 0, 16)
)

func TestSpeakerExample(t *testing.T) {
	k := talkDown(t, plain(2)...)
	k.up(0)
	k.up(1)
	list, e := k.s.Feed(0, []byte{0, 2, 8, 10, 0, 16, 64, 2, 6, 2, 2, 0, 3, 0, 4, 64, 5, 4, 0, 0, 0, 100, 16, 192, 168})
	if e != api.OK || !sameTold(list, []api.Told{{Peer: 1, Bytes: []byte{0, 0, 0, 16, 64, 2, 6, 2, 2, 0, 3, 0, 4, 64, 5, 4, 0, 0, 0, 100, 16, 192, 168}}}) {
		t.Errorf("Feed = %v, %d", list, e)
	}
	list, e = k.s.Down(0)
	if e != api.OK || !sameTold(list, []api.Told{{Peer: 1, Bytes: []byte{0, 3, 16, 192, 168, 0, 0}}}) {
		t.Errorf("Down = %v, %d", list, e)
	}
}

// TestNew: how many policies there may be (P7).
func TestNew(t *testing.T) {
	p := mustCompile(t, "accept;")
	for n := range 8 {
		for m := range 8 {
			want := api.ErrPeer
			if n == m && n >= 1 && n <= 4 {
				want = api.OK
			}
			s, e := New(slices.Repeat([]*Policy{p}, n), slices.Repeat([]*Policy{p}, m))
			if e != want || (s != nil) != (want == api.OK) {
				t.Errorf("New of %d and %d = %v, %d", n, m, s, e)
			}
		}
	}
	for n := 1; n <= 4; n++ {
		for i := range n {
			whole, holed := slices.Repeat([]*Policy{p}, n), slices.Repeat([]*Policy{p}, n)
			holed[i] = nil
			for _, lists := range [][2][]*Policy{{whole, holed}, {holed, whole}, {holed, holed}} {
				if s, e := New(lists[0], lists[1]); s != nil || e != api.ErrPeer {
					t.Errorf("New with a nil = %v, %d", s, e)
				}
			}
		}
	}
	if s, e := New(make([]*Policy, 1000000), make([]*Policy, 1000000)); s != nil || e != api.ErrPeer {
		t.Errorf("New of a million = %v, %d", s, e)
	}
}

// TestWhosePolicies: in[i] and out[i] are peer i's (P7).
func TestWhosePolicies(t *testing.T) {
	k := talkOf(t, "prepend 1; accept;", "mark 1; accept;", "prepend 2; accept;", "mark 2; accept;", "prepend 3; accept;", "mark 3; accept;", "prepend 4; accept;", "mark 4; accept;")
	for peer := range 4 {
		want := []says(nil)
		for other := range 4 {
			if other != peer {
				want = append(want, says{other, api.Update{Nets: []api.Net{ten}, Path: []int{peer + 1}, Marks: []int{other + 1}}})
			}
		}
		k.feed(peer, here(0, 0, ten), want...)
		k.best(api.Kept{Peer: peer, Route: api.Route{Net: ten, Path: []int{peer + 1}}})
		k.s.Down(peer)
		k.up(peer)
	}
}

// TestPeerErrors: which peer there is, and whether it is up (P8).
func TestPeerErrors(t *testing.T) {
	for n := 1; n <= 4; n++ {
		k := talkDown(t, plain(n)...)
		for _, peer := range []int{-1, n, n + 1, 4, 255, 256, math.MinInt, math.MaxInt, 1 << 32, -n} {
			for _, b := range [][]byte{nil, {0, 0, 0, 0}} {
				list, e := k.s.Up(peer)
				k.told("Up", list, e, api.ErrPeer, nil)
				list, e = k.s.Down(peer)
				k.told("Down", list, e, api.ErrPeer, nil)
				k.feedWrong(peer, b, api.ErrPeer)
			}
		}
		for peer := range n {
			list, e := k.s.Down(peer)
			k.told("Down", list, e, api.ErrState, nil)
			k.feedWrong(peer, []byte{0, 0, 0, 0}, api.ErrState)
			k.feedWrong(peer, nil, api.ErrState)
			k.up(peer)
			list, e = k.s.Up(peer)
			k.told("Up", list, e, api.ErrState, nil)
			k.down(peer)
			list, e = k.s.Down(peer)
			k.told("Down", list, e, api.ErrState, nil)
			k.up(peer)
		}
	}
}

// TestErrorsChangeNothing: but for those of Feed with a peer that is up (P1).
func TestErrorsChangeNothing(t *testing.T) {
	k := talkDown(t, plain(3)...)
	k.up(0)
	k.up(1)
	k.feed(0, here(5, 1, ten), says{1, here(5, 1, ten)})
	b := mustEncode(t, away(ten))
	for range 2 {
		for _, peer := range []int{-1, 3, 2} {
			k.s.Down(peer)
			k.s.Feed(peer, b)
			k.s.Feed(peer, nil)
		}
		for _, peer := range []int{-1, 3, 0, 1} {
			k.s.Up(peer)
		}
		k.best(kept(0, 5, 1, ten))
	}
	k.feed(1, here(1, 1, house), says{0, here(1, 1, house)})
	k.up(2, says{2, here(5, 1, ten)}, says{2, here(1, 1, house)})
}

// TestUpAgain: a peer that comes up anew has no routes, and is told all (P8).
func TestUpAgain(t *testing.T) {
	k := talkDown(t, plain(2)...)
	k.up(0)
	k.feed(0, here(5, 1, house, ten))
	k.up(1, says{1, here(5, 1, ten)}, says{1, here(5, 1, house)})
	k.feed(1, here(3, 1, netOf(11, 0, 0, 0, 8)), says{0, here(3, 1, netOf(11, 0, 0, 0, 8))})
	k.down(1, says{0, away(netOf(11, 0, 0, 0, 8))})
	k.best(kept(0, 5, 1, ten), kept(0, 5, 1, house))
	// While it is down it is told nothing, and its view is no more.
	k.feed(0, away(house))
	k.up(1, says{1, here(5, 1, ten)})
	k.best(kept(0, 5, 1, ten))
}

// TestDown: the next best comes in the place of a route that is gone (P8).
func TestDown(t *testing.T) {
	k := talkOf(t, plain(3)...)
	k.feed(0, here(5, 1, ten), says{1, here(5, 1, ten)}, says{2, here(5, 1, ten)})
	k.feed(1, here(4, 1, ten))
	k.feed(2, here(3, 1, ten, house), says{0, here(3, 1, house)}, says{1, here(3, 1, house)})
	k.down(0, says{1, away(ten)}, says{2, here(4, 1, ten)})
	k.best(kept(1, 4, 1, ten), kept(2, 3, 1, house))
	k.down(1, says{2, away(ten)})
	k.best(kept(2, 3, 1, ten), kept(2, 3, 1, house))
	k.down(2)
	k.best()
	for peer := range 3 {
		k.up(peer)
	}
}

// TestBetter: by Pref, then by how long the path is, then by Med, then by peer (THE BEST ROUTE).
func TestBetter(t *testing.T) {
	route := func(pref, med int, path ...int) api.Update {
		return api.Update{Nets: []api.Net{ten}, Pref: pref, Med: med, Path: path}
	}
	for _, c := range []struct{ better, worse api.Update }{
		{route(6, 9, 3, 3, 3), route(5, 0, 1)},
		{route(api.MaxNumber, 0), route(api.MaxNumber-1, 0)},
		{route(1, api.MaxNumber, 1, 1, 1, 1, 1, 1, 1, 1, 1, 1, 1, 1), route(0, 0)},
		{route(5, 9, 8), route(5, 0, 1, 1)},
		{route(5, api.MaxNumber), route(5, 0, 1)},
		{route(5, 0, 9), route(5, 1, 1)},
		{route(5, 1, 9, 9), route(5, 2, 9, 9)},
		{route(5, api.MaxNumber-1, 9), route(5, api.MaxNumber, 9)},
	} {
		for first := range 2 {
			for good := range 2 {
				k := talkOf(t, plain(2)...)
				updates := []api.Update{c.worse, c.worse}
				updates[good] = c.better
				for _, peer := range []int{first, 1 - first} {
					k.s.Feed(peer, mustEncode(t, updates[peer]))
				}
				k.best(api.Kept{Peer: good, Route: api.Route{Net: ten, Path: c.better.Path, Pref: c.better.Pref, Med: c.better.Med}})
			}
		}
	}
	// Of equal ones the least peer's, whatever the systems and the marks are.
	for _, peers := range [][]int{{0, 1, 2, 3}, {3, 2, 1, 0}, {2, 0, 3, 1}} {
		k := talkOf(t, plain(4)...)
		for _, peer := range peers {
			k.s.Feed(peer, mustEncode(t, api.Update{Nets: []api.Net{ten}, Path: []int{9 - peer}, Marks: []int{4 - peer}}))
		}
		for peer := range 4 {
			k.best(api.Kept{Peer: peer, Route: api.Route{Net: ten, Path: []int{9 - peer}, Marks: []int{4 - peer}}})
			k.s.Down(peer)
		}
		k.best()
	}
}

// TestBestAfterIn: which route is the best, its own policy's changes tell (P8).
func TestBestAfterIn(t *testing.T) {
	k := talkOf(t, "pref = pref + 10; accept;", "accept;", "accept;", "accept;", "prepend 7; prepend 7; accept;", "accept;")
	k.feed(1, here(9, 3, ten), says{0, here(9, 3, ten)}, says{2, here(9, 3, ten)})
	k.feed(0, here(0, 5, ten), says{0, away(ten)}, says{1, here(10, 5, ten)}, says{2, here(10, 5, ten)})
	k.feed(2, here(10, 3, ten))
	k.feed(2, api.Update{Nets: []api.Net{ten}, Pref: 10, Path: []int{9, 9}},
		says{0, api.Update{Nets: []api.Net{ten}, Pref: 10, Path: []int{7, 7, 9, 9}}}, says{1, api.Update{Nets: []api.Net{ten}, Pref: 10, Path: []int{7, 7, 9, 9}}}, says{2, away(ten)})
	k.best(api.Kept{Peer: 2, Route: api.Route{Net: ten, Pref: 10, Path: []int{7, 7, 9, 9}}})
}

// TestVerdictsIn: what is not accepted takes away what was there (P8).
func TestVerdictsIn(t *testing.T) {
	for _, text := range []string{"if pref = 1 then { reject; } accept;", "if pref = 1 then { med = 0 - 1; } accept;", "if not pref = 1 then { accept; }", "if pref = 1 then { prepend 1; prepend 1; } accept;"} {
		k := talkOf(t, text, "accept;", "accept;", "accept;")
		k.feed(0, here(1, 11, ten))
		k.feed(0, here(2, 11, ten, house), says{1, here(2, 11, ten)}, says{1, here(2, 11, house)})
		k.feed(0, here(1, 11, ten), says{1, away(ten)})
		k.best(kept(0, 2, 11, house))
		k.feed(0, here(2, 11, ten), says{1, here(2, 11, ten)})
	}
}

// TestGone: what a peer takes back is gone, if it was there, of this peer alone (P8).
func TestGone(t *testing.T) {
	k := talkOf(t, plain(2)...)
	k.feed(0, here(5, 1, ten, house), says{1, here(5, 1, ten)}, says{1, here(5, 1, house)})
	k.feed(1, away(ten, house, netOf(1, 0, 0, 0, 8)))
	k.feed(0, away(netOf(10, 0, 0, 0, 9), api.Net{}))
	k.feed(0, api.Update{})
	k.best(kept(0, 5, 1, ten), kept(0, 5, 1, house))
	k.feed(0, away(netOf(1, 0, 0, 0, 8), house, api.Net{}), says{1, away(house)})
	k.best(kept(0, 5, 1, ten))
	k.feed(0, away(ten), says{1, away(ten)})
	k.feed(0, away(ten))
	k.best()
}

// TestNoMessageFed: Decode's error, and the peer's routes are gone, but it is up (P8).
func TestNoMessageFed(t *testing.T) {
	both := slices.Concat(pathPart, prefPart)
	for want, b := range map[api.Errno][]byte{
		api.ErrBody:    nil,
		api.ErrFlags:   message(nil, []byte{1, 2, 0}, oneNet),
		api.ErrValue:   message(nil, []byte{64, 2, 1, 2}, oneNet),
		api.ErrMissing: message(nil, pathPart, oneNet),
		api.ErrNet:     message(oneNet, both, oneNet),
	} {
		k := talkOf(t, plain(3)...)
		k.feed(0, here(5, 1, ten, house), says{1, here(5, 1, ten)}, says{1, here(5, 1, house)}, says{2, here(5, 1, ten)}, says{2, here(5, 1, house)})
		k.feed(1, here(4, 1, ten))
		k.feedWrong(0, b, want, says{0, here(4, 1, ten)}, says{1, away(ten)}, says{1, away(house)}, says{2, here(4, 1, ten)}, says{2, away(house)})
		k.best(kept(1, 4, 1, ten))
		k.feedWrong(0, b, want)
		k.feedWrong(2, b, want)
		k.best(kept(1, 4, 1, ten))
		k.feed(0, here(5, 1, house), says{1, here(5, 1, house)}, says{2, here(5, 1, house)})
		k.down(0, says{1, away(house)}, says{2, away(house)})
	}
}

// rowOf gives here of each net alone, to a peer.
func rowOf(peer int, list []api.Net) []says {
	all := []says(nil)
	for _, n := range list {
		all = append(all, says{peer, here(1, 1, n)})
	}
	return all
}

func awayOf(peer int, list []api.Net) []says {
	all := []says(nil)
	for _, n := range list {
		all = append(all, says{peer, away(n)})
	}
	return all
}

// TestTooMany: more routes than MaxNets cost the peer all of them (P8).
func TestTooMany(t *testing.T) {
	k := talkOf(t, plain(3)...)
	all := netRow(0, 20)
	k.feed(0, here(1, 1, all[:16]...), append(rowOf(1, all[:16]), rowOf(2, all[:16])...)...)
	// The same nets again, and one in the place of another, are not too many; nor are those of two peers.
	k.feed(0, here(1, 1, all[:16]...))
	k.feed(0, api.Update{Gone: all[:4], Nets: all[16:], Pref: 1, Path: []int{9}},
		slices.Concat(awayOf(1, all[:4]), rowOf(1, all[16:]), awayOf(2, all[:4]), rowOf(2, all[16:]))...)
	k.feed(1, here(1, 1, all[:16]...), append(rowOf(0, all[:4]), rowOf(2, all[:4])...)...)
	k.feedWrong(0, mustEncode(t, here(1, 1, all[0])), api.ErrNet, slices.Concat(rowOf(0, all[4:16]), awayOf(1, all[4:]), awayOf(2, all[16:]))...)
	// It is up, and may tell anew; what is too many at once leaves nothing.
	k.feedWrong(0, mustEncode(t, here(9, 1, all[:17]...)), api.ErrNet)
	k.feedWrong(0, mustEncode(t, here(9, 1, all...)), api.ErrNet)
	k.feed(0, here(1, 1, all[19]), says{1, here(1, 1, all[19])}, says{2, here(1, 1, all[19])})
	k.best(append(keptRow(1, all[:16]), kept(0, 1, 1, all[19]))...)
}

func keptRow(peer int, list []api.Net) []api.Kept {
	all := []api.Kept(nil)
	for _, n := range list {
		all = append(all, kept(peer, 1, 1, n))
	}
	return all
}

// TestManyInTheEnd: how many routes there are is looked at behind all of the message, and behind the policy (P8).
func TestManyInTheEnd(t *testing.T) {
	k := talkOf(t, "set some = { 10.0.0.0/14 16 16 }; if net in some and pref = 1 then { reject; } pref = 1; accept;", "accept;", "accept;", "accept;")
	all := netRow(0, 20)
	k.feed(0, here(1, 1, all...), rowOf(1, all[4:])...)
	k.feed(0, api.Update{Gone: all[4:8], Nets: all[:4], Pref: 2, Path: []int{9}}, append(rowOf(1, all[:4]), awayOf(1, all[4:8])...)...)
	// A new one stands ahead of one that is rejected, and makes room.
	k.feed(0, here(1, 1, all[4], all[3]), says{1, away(all[3])}, says{1, here(1, 1, all[4])})
	k.feedWrong(0, mustEncode(t, here(1, 1, all[5], all[6])), api.ErrNet, append(awayOf(1, all[:3]), append(awayOf(1, all[4:5]), awayOf(1, all[8:])...)...)...)
	k.best()
}

// TestToldOrder: by peers, then by nets; each net alone (P9).
func TestToldOrder(t *testing.T) {
	k := talkOf(t, plain(3)...)
	rising := []api.Net{{}, {Len: 32}, {Addr: 1, Len: 32}, netOf(10, 0, 0, 0, 7), ten, netOf(10, 0, 0, 0, 32), netOf(127, 0, 0, 0, 8), netOf(128, 0, 0, 0, 1), house, netOf(255, 255, 255, 255, 32)}
	mixed := []api.Net{rising[8], rising[2], rising[9], rising[5], rising[0], rising[4], rising[7], rising[3], rising[1], rising[6]}
	k.feed(1, here(1, 1, mixed...), append(rowOf(0, rising), rowOf(2, rising)...)...)
	k.best(keptRow(1, rising)...)
	k.down(2)
	k.up(2, rowOf(2, rising)...)
	k.feed(1, api.Update{Gone: []api.Net{rising[9], rising[0]}, Nets: []api.Net{rising[5], rising[4]}, Pref: 2},
		says{0, away(rising[0])}, says{0, here(2, 0, rising[4])}, says{0, here(2, 0, rising[5])}, says{0, away(rising[9])},
		says{2, away(rising[0])}, says{2, here(2, 0, rising[4])}, says{2, here(2, 0, rising[5])}, says{2, away(rising[9])})
}

// TestToldChanges: a route that is another in anything is told, one that is not is not (P9).
func TestToldChanges(t *testing.T) {
	k := talkOf(t, plain(2)...)
	u := api.Update{Nets: []api.Net{ten}, Path: []int{1, 2}, Marks: []int{3, 4}, Pref: 5, Med: 6}
	k.feed(0, u, says{1, u})
	for _, change := range []func(){
		func() {}, func() { u.Pref = 4 }, func() {}, func() { u.Med = 7 }, func() { u.Med = 0 }, func() { u.Path = []int{2, 1} }, func() { u.Path = nil }, func() { u.Path = []int{5} },
		func() { u.Marks = []int{3, 5} }, func() { u.Marks = nil }, func() {}, func() { u.Marks = []int{0} }, func() { u.Pref = 0 }, func() { u.Pref = api.MaxNumber }, func() { u.Med = api.MaxNumber },
	} {
		was := mustEncode(t, u)
		change()
		if bytes.Equal(was, mustEncode(t, u)) {
			k.feed(0, u)
		} else {
			k.feed(0, u, says{1, u})
		}
		k.best(api.Kept{Route: api.Route{Net: ten, Path: u.Path, Marks: u.Marks, Pref: u.Pref, Med: u.Med}})
	}
}

// TestExport: each peer's own policy tells what it is told; what is kept is another thing (THE VIEW).
func TestExport(t *testing.T) {
	k := talkOf(t, "accept;", "accept;",
		"accept;", "if pref = 7 then { reject; } prepend 1; accept;",
		"accept;", "if pref = 7 then { pref = pref - 8; } pref = 3; accept;",
		"accept;", "if pref = 7 then { mark 7; accept; }")
	k.feed(0, here(5, 1, ten), says{1, api.Update{Nets: []api.Net{ten}, Pref: 5, Path: []int{1, 9}}}, says{2, here(3, 1, ten)})
	k.best(kept(0, 5, 1, ten))
	// For peer 2 it comes to the same.
	k.feed(0, here(6, 1, ten), says{1, api.Update{Nets: []api.Net{ten}, Pref: 6, Path: []int{1, 9}}})
	k.feed(0, here(7, 1, ten), says{1, away(ten)}, says{2, away(ten)}, says{3, api.Update{Nets: []api.Net{ten}, Pref: 7, Path: []int{9}, Marks: []int{7}}})
	k.feed(0, here(8, 12, ten), says{2, here(3, 12, ten)}, says{3, away(ten)})
	k.best(kept(0, 8, 12, ten))
	// Of a best route that is not told, the next best is not told in its place.
	k.feed(3, here(2, 1, ten))
	k.feed(0, here(7, 1, ten), says{2, away(ten)}, says{3, api.Update{Nets: []api.Net{ten}, Pref: 7, Path: []int{9}, Marks: []int{7}}})
	// What peer 3 tells is the best now; the way it has it is not told to it.
	k.feed(3, here(9, 1, ten), says{0, here(9, 1, ten)}, says{1, api.Update{Nets: []api.Net{ten}, Pref: 9, Path: []int{1, 9}}}, says{2, here(3, 1, ten)}, says{3, away(ten)})
}

// TestOnePeer: with one peer there is nobody to tell.
func TestOnePeer(t *testing.T) {
	k := talkOf(t, plain(1)...)
	k.feed(0, here(5, 1, ten, house))
	k.best(kept(0, 5, 1, ten), kept(0, 5, 1, house))
	k.feedWrong(0, []byte{0}, api.ErrBody)
	k.best()
	k.down(0)
}

// TestNoSpeaker: what is no speaker has no peers.
func TestNoSpeaker(t *testing.T) {
	for _, s := range []*Speaker{nil, new(Speaker)} {
		k := talk{t, s}
		list, e := s.Up(0)
		k.told("Up", list, e, api.ErrPeer, nil)
		list, e = s.Down(0)
		k.told("Down", list, e, api.ErrPeer, nil)
		k.feedWrong(0, []byte{0, 0, 0, 0}, api.ErrPeer)
		k.best()
	}
}
