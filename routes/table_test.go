package routes

import (
	"slices"
	"testing"

	"byway/api"
)

func checkTable(t *testing.T, table Table, want ...api.Route) {
	t.Helper()
	if !slices.EqualFunc(table, want, Equal) {
		t.Errorf("the table is %+v, want %+v", table, want)
	}
}

func TestTable(t *testing.T) {
	a, b, c := api.Route{}, api.Route{Net: api.Net{Len: 1}}, api.Route{Net: api.Net{Addr: 1 << 31, Len: 1}}
	table := Table(nil)
	table.Drop(a.Net)
	checkTable(t, table)
	table.Put(b)
	checkTable(t, table, b)
	table.Put(c)
	table.Put(a)
	checkTable(t, table, a, b, c)
	again := b
	again.Pref, again.Path = 7, []int{3}
	table.Put(again)
	checkTable(t, table, a, again, c)
	table.Drop(api.Net{Len: 2})
	table.Drop(api.Net{Addr: api.MaxNumber, Len: 32})
	checkTable(t, table, a, again, c)
	table.Drop(b.Net)
	table.Drop(b.Net)
	checkTable(t, table, a, c)
	table.Drop(a.Net)
	table.Drop(c.Net)
	checkTable(t, table)
}

func TestEqual(t *testing.T) {
	full := func() api.Route {
		return api.Route{Net: api.Net{Len: 1}, Path: []int{1, 2}, Marks: []int{3, 4}, Pref: 5, Med: 6}
	}
	if !Equal(full(), full()) || !Equal(api.Route{}, api.Route{Path: []int{}, Marks: []int{}}) {
		t.Errorf("routes that are one are not equal")
	}
	for i, change := range []func(r *api.Route){
		func(r *api.Route) { r.Net.Len = 2 }, func(r *api.Route) { r.Net.Addr = 1 << 31 },
		func(r *api.Route) { r.Path = []int{2, 1} }, func(r *api.Route) { r.Path = []int{1} }, func(r *api.Route) { r.Path = nil },
		func(r *api.Route) { r.Marks = []int{3, 5} }, func(r *api.Route) { r.Marks = []int{3, 4, 5} }, func(r *api.Route) { r.Marks = nil },
		func(r *api.Route) { r.Pref = 6 }, func(r *api.Route) { r.Med = 5 },
	} {
		r := full()
		change(&r)
		if Equal(r, full()) || Equal(full(), r) {
			t.Errorf("case %d: %+v is another than %+v", i, r, full())
		}
	}
}
