package policy

import (
	"slices"

	"byway/api"
)

// step is a STATEMENT: it may change the route, and answers a verdict or none.
type step func(*api.Route) int

// none is what a step answers that lets the next one come.
const none = 0

// perform takes the steps in turn, till a verdict comes.
func perform(steps []step, r *api.Route) int {
	for _, s := range steps {
		if verdict := s(r); verdict != none {
			return verdict
		}
	}
	return none
}

func conclude(verdict int) step {
	return func(*api.Route) int { return verdict }
}

func assign(a amount, put func(*api.Route, int)) step {
	return func(r *api.Route) int {
		n, ok := a(r)
		if !ok {
			return api.Failed
		}
		put(r, n)
		return none
	}
}

func putPref(r *api.Route, n int) { r.Pref = n }

func putMed(r *api.Route, n int) { r.Med = n }

func putMark(mark int) step {
	return func(r *api.Route) int {
		at, there := slices.BinarySearch(r.Marks, mark)
		switch {
		case there:
			return none
		case len(r.Marks) == api.MaxMarks:
			return api.Failed
		}
		r.Marks = slices.Insert(r.Marks, at, mark)
		return none
	}
}

func dropMark(mark int) step {
	return func(r *api.Route) int {
		if at, there := slices.BinarySearch(r.Marks, mark); there {
			r.Marks = slices.Delete(r.Marks, at, at+1)
		}
		return none
	}
}

func prepend(system int) step {
	return func(r *api.Route) int {
		if len(r.Path) == api.MaxPath {
			return api.Failed
		}
		r.Path = slices.Insert(r.Path, 0, system)
		return none
	}
}

// choose performs the one block or the other.
func choose(c cond, yes, no []step) step {
	return func(r *api.Route) int {
		holds, ok := c(r)
		switch {
		case !ok:
			return api.Failed
		case holds:
			return perform(yes, r)
		default:
			return perform(no, r)
		}
	}
}
