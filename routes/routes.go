// Package routes: what a route is, and a table of them.
package routes

import (
	"slices"

	"byway/api"
	"byway/nets"
)

// Valid tells whether r is a route.
func Valid(r api.Route) bool {
	return nets.Valid(r.Net) && ValidPath(r.Path) && ValidMarks(r.Marks) && validNumber(r.Pref) && validNumber(r.Med)
}

// Equal tells whether a and b are one route; of lists nil and empty are one.
func Equal(a, b api.Route) bool {
	return a.Net == b.Net && a.Pref == b.Pref && a.Med == b.Med && slices.Equal(a.Path, b.Path) && slices.Equal(a.Marks, b.Marks)
}

// Copy gives a route like r, with lists of its own.
func Copy(r api.Route) api.Route {
	// Not slices.Clone: of an empty list it may give a piece of the list itself.
	r.Path = append([]int(nil), r.Path...)
	r.Marks = append([]int(nil), r.Marks...)
	return r
}

// ValidPath tells whether a route may have this path.
func ValidPath(path []int) bool {
	for _, system := range path {
		if system < 1 || system > api.MaxSystem {
			return false
		}
	}
	return len(path) <= api.MaxPath
}

// ValidMarks tells whether a route may have these marks.
func ValidMarks(marks []int) bool {
	least := 0
	for _, mark := range marks {
		if mark < least || mark > api.MaxMark {
			return false
		}
		least = mark + 1
	}
	return len(marks) <= api.MaxMarks
}

func validNumber(n int) bool { return n >= 0 && n <= api.MaxNumber }
