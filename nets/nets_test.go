package nets

import (
	"testing"

	"byway/api"
)

func TestValid(t *testing.T) {
	for _, c := range []struct {
		addr, len int
		want      bool
	}{
		{0, 0, true}, {0, 32, true}, {api.MaxNumber, 32, true}, {1 << 31, 1, true}, {10 << 24, 8, true}, {10 << 24, 7, true},
		{10 << 24, 6, false}, {1, 31, false}, {1 << 31, 0, false}, {api.MaxNumber, 31, false},
		{-1, 32, false}, {api.MaxNumber + 1, 32, false}, {0, -1, false}, {0, 33, false}, {1 << 32, 0, false},
	} {
		if got := Valid(api.Net{Addr: c.addr, Len: c.len}); got != c.want {
			t.Errorf("Valid(%d/%d) = %v, want %v", c.addr, c.len, got, c.want)
		}
	}
}

func TestWithin(t *testing.T) {
	ten := api.Net{Addr: 10 << 24, Len: 8}
	for _, c := range []struct {
		n, prefix api.Net
		want      bool
	}{
		{ten, ten, true},
		{api.Net{Addr: 10<<24 | 255<<16, Len: 16}, ten, true},
		{api.Net{Addr: 10<<24 | 1, Len: 32}, ten, true},
		{api.Net{Addr: 11 << 24, Len: 8}, ten, false},
		{api.Net{Addr: 10 << 24, Len: 7}, ten, false},
		{api.Net{}, ten, false},
		{ten, api.Net{}, true},
		{api.Net{}, api.Net{}, true},
		{api.Net{Addr: api.MaxNumber, Len: 32}, api.Net{}, true},
		{api.Net{Addr: api.MaxNumber, Len: 32}, api.Net{Addr: 1 << 31, Len: 1}, true},
		{api.Net{Addr: 1<<31 - 1, Len: 32}, api.Net{Addr: 1 << 31, Len: 1}, false},
		{api.Net{Addr: api.MaxNumber, Len: 32}, api.Net{Addr: api.MaxNumber, Len: 32}, true},
		{api.Net{Addr: api.MaxNumber - 1, Len: 32}, api.Net{Addr: api.MaxNumber, Len: 32}, false},
	} {
		if got := Within(c.n, c.prefix); got != c.want {
			t.Errorf("Within(%v, %v) = %v, want %v", c.n, c.prefix, got, c.want)
		}
	}
}

func TestSize(t *testing.T) {
	for length, want := range map[int]int{-1 << 63: 0, -1: 0, 0: 0, 1: 1, 7: 1, 8: 1, 9: 2, 16: 2, 17: 3, 24: 3, 25: 4, 31: 4, 32: 4, 33: 0, 255: 0, 1<<63 - 1: 0} {
		if got := Size(length); got != want {
			t.Errorf("Size(%d) = %d, want %d", length, got, want)
		}
	}
}

func TestCompare(t *testing.T) {
	rising := []api.Net{{}, {Len: 1}, {Len: 32}, {Addr: 1, Len: 32}, {Addr: 10 << 24, Len: 7}, {Addr: 10 << 24, Len: 8}, {Addr: 10<<24 | 1, Len: 32}, {Addr: 1 << 31, Len: 1}, {Addr: api.MaxNumber, Len: 32}}
	for i, a := range rising {
		for j, b := range rising {
			if got := Compare(a, b); got < 0 != (i < j) || got > 0 != (i > j) {
				t.Errorf("Compare(%v, %v) = %d", a, b, got)
			}
		}
	}
}
