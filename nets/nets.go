// Package nets: what a net is.
package nets

import "byway/api"

// MaxLen is how many bits an address has.
const MaxLen = 32

// Valid tells whether n is a net.
func Valid(n api.Net) bool {
	if n.Addr < 0 || n.Addr > api.MaxNumber || n.Len < 0 || n.Len > MaxLen {
		return false
	}
	return n.Addr&(api.MaxNumber>>n.Len) == 0
}
