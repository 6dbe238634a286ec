package byway

import (
	"bytes"
	"math/rand"
	"slices"
	"sync"
	"testing"

	"byway/api"
)

// TestPolicyListsNotKept: the lists that New is given are neither kept nor written into (P2).
func TestPolicyListsNotKept(t *testing.T) {
	yes, no, spare := mustCompile(t, "accept;"), mustCompile(t, "reject;"), mustCompile(t, "mark 1;")
	in, out := []*Policy{yes, yes, spare}, []*Policy{yes, yes, spare}
	s, e := New(in[:2], out[:2])
	if e != api.OK || !slices.Equal(in, []*Policy{yes, yes, spare}) || !slices.Equal(out, []*Policy{yes, yes, spare}) {
		t.Fatalf("New = %d, with %v and %v", e, in, out)
	}
	for i := range in {
		in[i], out[i] = no, nil
	}
	k := talk{t, s}
	k.up(0)
	k.up(1)
	k.feed(0, here(5, 1, ten), says{1, here(5, 1, ten)})
	k.feed(1, here(6, 1, ten), says{0, here(6, 1, ten)}, says{1, away(ten)})
}

// TestFedBytes: they are not written into, nor is their spare room (P2).
func TestFedBytes(t *testing.T) {
	k := talkOf(t, plain(2)...)
	source := rand.New(rand.NewSource(6))
	for _, b := range [][]byte{mustEncode(t, sampleUpdate()), mustEncode(t, here(1, 12, netRow(0, 16)...)), mustEncode(t, here(1, 1, netRow(9, 20)...)), {0, 0, 0, 0, 33}, {}} {
		room := make([]byte, len(b)+100)
		source.Read(room)
		copy(room, b)
		was := bytes.Clone(room)
		k.s.Feed(0, room[:len(b)])
		if !bytes.Equal(room, was) {
			t.Errorf("Feed has written into %v: %v", was, room)
		}
	}
}

// TestAnswersApart: no two lists that come out share memory (P2).
func TestAnswersApart(t *testing.T) {
	k := talkOf(t, plain(3)...)
	u := api.Update{Nets: netRow(0, 16), Path: []int{1, 2, 3}, Marks: []int{4, 5}, Pref: 6}
	list, e := k.s.Feed(0, mustEncode(t, u))
	if e != api.OK || len(list) != 32 {
		t.Fatalf("Feed = %v, %d", list, e)
	}
	for i, m := range list {
		want := mustEncode(t, api.Update{Nets: u.Nets[i%16 : i%16+1], Path: u.Path, Marks: u.Marks, Pref: u.Pref})
		if !bytes.Equal(m.Bytes, want) {
			t.Errorf("message %d is %v, want %v", i, m.Bytes, want)
		}
		overwrite(m.Bytes)
	}
	again := k.s.Best()
	for i, b := range k.s.Best() {
		if !slices.Equal(b.Route.Path, u.Path) || !slices.Equal(b.Route.Marks, u.Marks) {
			t.Errorf("route %d is %+v", i, b.Route)
		}
		overwrite(b.Route.Path)
		overwrite(b.Route.Marks)
	}
	for i, b := range again {
		if !slices.Equal(b.Route.Path, u.Path) || !slices.Equal(b.Route.Marks, u.Marks) {
			t.Errorf("route %d of the first list is %+v", i, b.Route)
		}
		overwrite(b.Route.Path)
		overwrite(b.Route.Marks)
	}
}

// TestPoliciesOfMany: speakers that run at the same time may have one policy (P2).
func TestPoliciesOfMany(t *testing.T) {
	p := mustCompile(t, "way a = 9 * 3 ?; if path like a then { mark 1; mark 2; prepend 3; accept; }")
	printed := p.Print()
	var group sync.WaitGroup
	for n := range 8 {
		group.Go(func() {
			s, _ := New([]*Policy{p, p}, []*Policy{p, p})
			s.Up(0)
			s.Up(1)
			for i := range 300 {
				b, _ := Encode(here(n+i, 2, ten))
				list, e := s.Feed(i%2, b)
				// The way asks for no 3 at the beginning, so that nothing goes out.
				best := s.Best()
				if e != api.OK || len(list) > 0 || len(best) != 1 || best[0].Peer != i%2 || !slices.Equal(best[0].Route.Path, []int{3, 9, 9}) || best[0].Route.Pref != n+i {
					t.Errorf("Feed = %v, %d; Best = %+v", list, e, best)
					return
				}
			}
		})
	}
	group.Wait()
	if p.Print() != printed {
		t.Errorf("Print = %q, want %q", p.Print(), printed)
	}
	checkRun(t, printed, api.Route{Path: []int{9}}, api.Route{Path: []int{3, 9}, Marks: []int{1, 2}})
}

// FuzzFeed: whatever is fed, the call ends, and answers what Decode does (P1, P8).
func FuzzFeed(f *testing.F) {
	f.Add([]byte{0, 2, 8, 10, 0, 16, 64, 2, 6, 2, 2, 0, 3, 0, 4, 64, 5, 4, 0, 0, 0, 100, 16, 192, 168}, 0)
	f.Add([]byte{0, 0, 0, 10, 64, 2, 0, 64, 5, 4, 0, 0, 0, 0, 0}, 1)
	f.Add([]byte{0, 0, 0, 0, 33}, 1)
	f.Add([]byte(nil), -1)
	f.Fuzz(func(t *testing.T, b []byte, peer int) {
		k := talkOf(t, plain(2)...)
		list, e := k.s.Feed(peer, b)
		if peer < 0 || peer > 1 {
			k.told("Feed", list, e, api.ErrPeer, nil)
			return
		}
		u, want := Decode(b)
		if want == api.OK && len(u.Nets) > api.MaxNets {
			u, want = api.Update{}, api.ErrNet
		}
		if e != want || len(list) != len(u.Nets) || len(k.s.Best()) != len(u.Nets) {
			t.Fatalf("Feed(%d, %v) = %v, %d, want %d", peer, b, list, e, want)
		}
		for _, m := range list {
			if one, e := Decode(m.Bytes); e != api.OK || m.Peer != 1-peer || len(one.Nets) != 1 || len(one.Gone) > 0 {
				t.Fatalf("Feed(%d, %v) tells %+v", peer, b, m)
			}
		}
	})
}
