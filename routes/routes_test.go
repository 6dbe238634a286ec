package routes

import (
	"slices"
	"testing"

	"byway/api"
)

func rising(n int) []int {
	list := []int(nil)
	for i := range n {
		list = append(list, i+1)
	}
	return list
}

func TestValid(t *testing.T) {
	for i, r := range []api.Route{
		{},
		{Path: []int{}, Marks: []int{}},
		{Net: api.Net{Addr: api.MaxNumber, Len: 32}, Path: []int{1, api.MaxSystem, 1}, Marks: []int{0, 1, api.MaxMark}, Pref: api.MaxNumber, Med: api.MaxNumber},
		{Path: rising(api.MaxPath), Marks: rising(api.MaxMarks)},
	} {
		if !Valid(r) || !ValidPath(r.Path) || !ValidMarks(r.Marks) {
			t.Errorf("case %d: %+v is a route", i, r)
		}
	}
	for i, r := range []api.Route{
		{Net: api.Net{Addr: 1, Len: 31}}, {Net: api.Net{Len: 33}}, {Net: api.Net{Len: -1}}, {Net: api.Net{Addr: -1, Len: 32}}, {Net: api.Net{Addr: api.MaxNumber + 1, Len: 32}},
		{Path: []int{0}}, {Path: []int{1, -1}}, {Path: []int{1, api.MaxSystem + 1}}, {Path: rising(api.MaxPath + 1)},
		{Marks: []int{-1}}, {Marks: []int{api.MaxMark + 1}}, {Marks: []int{0, 0}}, {Marks: []int{1, 2, 1}}, {Marks: []int{1, 0}}, {Marks: rising(api.MaxMarks + 1)},
		{Pref: -1}, {Pref: api.MaxNumber + 1}, {Med: -1}, {Med: api.MaxNumber + 1},
	} {
		if Valid(r) {
			t.Errorf("case %d: %+v is no route", i, r)
		}
	}
}

func TestCopy(t *testing.T) {
	r := api.Route{Net: api.Net{Addr: 1 << 31, Len: 1}, Path: make([]int, 1, 9), Marks: make([]int, 2, 9), Pref: 3, Med: 4}
	c := Copy(r)
	if c.Net != r.Net || c.Pref != 3 || c.Med != 4 || !slices.Equal(c.Path, r.Path) || !slices.Equal(c.Marks, r.Marks) {
		t.Fatalf("Copy = %+v, want %+v", c, r)
	}
	for _, list := range [][]int{c.Path, c.Marks} {
		for i := range list[:cap(list)] {
			list[:cap(list)][i] = 7
		}
	}
	if slices.Contains(r.Path[:9], 7) || slices.Contains(r.Marks[:9], 7) {
		t.Errorf("the lists are shared: %v, %v", r.Path[:9], r.Marks[:9])
	}
	empty := Copy(api.Route{Path: make([]int, 0, 9), Marks: r.Marks[:0]})
	if cap(empty.Path) != 0 || cap(empty.Marks) != 0 || empty.Path != nil || empty.Marks != nil {
		t.Errorf("Copy of empty lists = %+v", empty)
	}
}
