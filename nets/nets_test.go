package nets

import (
	"testing"

	"byway/api"
)

func TestValid(t *testing.T) {
	for _, c := range []struct {
		addr, len int
		want      bool
	}{
		{0, 0, true}, {0, 32, true}, {api.MaxNumber, 32, true}, {1 << 31, 1, true}, {10 << 24, 8, true}, {10 << 24, 7, true},
		{10 << 24, 6, false}, {1, 31, false}, {1 << 31, 0, false}, {api.MaxNumber, 31, false},
		{-1, 32, false}, {api.MaxNumber + 1, 32, false}, {0, -1, false}, {0, 33, false}, {1 << 32, 0, false},
	} {
		if got := Valid(api.Net{Addr: c.addr, Len: c.len}); got != c.want {
			t.Errorf("Valid(%d/%d) = %v, want %v", c.addr, c.len, got, c.want)
		}
	}
}
