// Package nets: what a net is, which one is ahead of which, and which one is within which.
package nets

import (
	"cmp"

	"byway/api"
)

// MaxLen is how many bits an address has.
const MaxLen = 32

// Valid tells whether n is a net.
func Valid(n api.Net) bool {
	if n.Addr < 0 || n.Addr > api.MaxNumber || n.Len < 0 || n.Len > MaxLen {
		return false
	}
	return n.Addr&(api.MaxNumber>>n.Len) == 0
}

// Compare answers less than 0, if a is ahead of b, more, if it is behind b.
func Compare(a, b api.Net) int {
	return cmp.Or(cmp.Compare(a.Addr, b.Addr), cmp.Compare(a.Len, b.Len))
}

// Size tells how many bytes of its address a net of this length needs: none, if there is no such net.
func Size(length int) int {
	if length < 0 || length > MaxLen {
		return 0
	}
	return (length + 7) / 8
}

// Within tells whether the first bits of n are those of prefix.
func Within(n, prefix api.Net) bool {
	return n.Len >= prefix.Len && (n.Addr^prefix.Addr)>>(MaxLen-prefix.Len) == 0
}
