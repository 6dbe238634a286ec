package policy

import (
	"slices"

	"byway/api"
)

// cond is a COND. Where the run fails both its answers are false.
type cond func(*api.Route) (holds, ok bool)

func or(a, b cond) cond {
	return func(r *api.Route) (bool, bool) {
		if holds, ok := a(r); holds || !ok {
			return holds, ok
		}
		return b(r)
	}
}

func and(a, b cond) cond {
	return func(r *api.Route) (bool, bool) {
		if holds, ok := a(r); !holds {
			return false, ok
		}
		return b(r)
	}
}

func not(c cond) cond {
	return func(r *api.Route) (bool, bool) {
		holds, ok := c(r)
		return ok && !holds, ok
	}
}

func equal(a, b amount) cond {
	return func(r *api.Route) (bool, bool) {
		x, y, ok := both(a, b, r)
		return ok && x == y, ok
	}
}

func less(a, b amount) cond {
	return func(r *api.Route) (bool, bool) {
		x, y, ok := both(a, b, r)
		return ok && x < y, ok
	}
}

func netIn(s set) cond {
	return func(r *api.Route) (bool, bool) { return s(r.Net), true }
}

func pathLike(w way) cond {
	return func(r *api.Route) (bool, bool) { return like(r.Path, w), true }
}

func marked(mark int) cond {
	return func(r *api.Route) (bool, bool) { return slices.Contains(r.Marks, mark), true }
}
