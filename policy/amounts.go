package policy

import "byway/api"

// amount is a SUM; it answers false where the run fails.
type amount func(*api.Route) (int, bool)

func constant(n int) amount {
	return func(*api.Route) (int, bool) { return n, true }
}

func thePref(r *api.Route) (int, bool) { return r.Pref, true }

func theMed(r *api.Route) (int, bool) { return r.Med, true }

func theLen(r *api.Route) (int, bool) { return len(r.Path), true }

// plus adds, with a sign of -1 it takes away.
func plus(a, b amount, sign int) amount {
	return func(r *api.Route) (int, bool) {
		x, y, ok := both(a, b, r)
		n := x + sign*y
		if !ok || n < 0 || n > api.MaxNumber {
			return 0, false
		}
		return n, true
	}
}

func both(a, b amount, r *api.Route) (int, int, bool) {
	x, ok := a(r)
	if !ok {
		return 0, 0, false
	}
	y, ok := b(r)
	return x, y, ok
}
