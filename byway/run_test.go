package byway

import (
	"slices"
	"strings"
	"sync"
	"testing"
	"time"

	"byway/api"
)

func netOf(a, b, c, d, length int) api.Net {
	return api.Net{Addr: a<<24 | b<<16 | c<<8 | d, Len: length}
}

func sameRoute(a, b api.Route) bool {
	return a.Net == b.Net && slices.Equal(a.Path, b.Path) && slices.Equal(a.Marks, b.Marks) && a.Pref == b.Pref && a.Med == b.Med
}

// isNothing: all of it is 0 or empty.
func isNothing(r api.Route) bool { return sameRoute(r, api.Route{}) }

// checkRun wants Accept and this route.
func checkRun(t *testing.T, text string, r, want api.Route) {
	t.Helper()
	if got, verdict, e := mustCompile(t, text).Run(r); e != api.OK || verdict != api.Accept || !sameRoute(got, want) {
		t.Errorf("%q with %+v = %+v, %d, %d, want %+v", text, r, got, verdict, e, want)
	}
}

// checkVerdict wants this verdict, and no route unless it is Accept.
func checkVerdict(t *testing.T, text string, r api.Route, want int) {
	t.Helper()
	got, verdict, e := mustCompile(t, text).Run(r)
	if e != api.OK || verdict != want || want != api.Accept && !isNothing(got) {
		t.Errorf("%q with %+v = %+v, %d, %d, want %d", text, r, got, verdict, e, want)
	}
}

func sampleRoute() api.Route {
	return api.Route{Net: netOf(10, 1, 0, 0, 16), Path: []int{4, 6, 4}, Marks: []int{2, 7}, Pref: 50, Med: 9}
}

func changed(change func(r *api.Route)) api.Route {
	r := sampleRoute()
	change(&r)
	return r
}

func TestExamples(t *testing.T) {
	low := "if pref < 100 then { reject; } prepend 7; accept;"
	checkRun(t, low, api.Route{Pref: 100, Path: []int{3}}, api.Route{Pref: 100, Path: []int{7, 3}})
	checkVerdict(t, low, api.Route{Pref: 99, Path: []int{3}}, api.Reject)
	checkVerdict(t, low, api.Route{Pref: 100, Path: slices.Repeat([]int{3}, 12)}, api.Failed)
	home := "set home = { 10.0.0.0/8 16 24, 0.0.0.0/0 }; if net in home then { accept; }"
	for _, n := range []api.Net{netOf(10, 1, 0, 0, 16), netOf(10, 1, 2, 0, 24), {}} {
		checkRun(t, home, api.Route{Net: n}, api.Route{Net: n})
	}
	for _, n := range []api.Net{netOf(10, 0, 0, 0, 8), netOf(10, 1, 2, 128, 25)} {
		checkVerdict(t, home, api.Route{Net: n}, api.Reject)
	}
	short := "way short = . ? 7 ( 8 | 9 ) *; if path like short then { accept; }"
	for _, path := range [][]int{{7}, {1, 7, 8, 9, 8}, {7, 7}} {
		checkRun(t, short, api.Route{Path: path}, api.Route{Path: path})
	}
	for _, path := range [][]int{{}, {1, 2, 7}, {7, 1}} {
		checkVerdict(t, short, api.Route{Path: path}, api.Reject)
	}
}

func TestVerdicts(t *testing.T) {
	for text, want := range map[string]int{
		"accept;":                             api.Accept,
		"reject;":                             api.Reject,
		"accept; reject;":                     api.Accept,
		"reject; accept;":                     api.Reject,
		"pref = 3;":                           api.Reject,
		"if len = 3 then { }":                 api.Reject,
		"if len = 3 then { accept; } reject;": api.Accept,
		"if len = 4 then { accept; } reject;": api.Reject,
		"if len = 4 then { } else { accept; } reject;":                    api.Accept,
		"if len = 3 then { if len = 3 then { accept; } reject; }":         api.Accept,
		"if len = 3 then { if len = 4 then { accept; } reject; } accept;": api.Reject,
		"if len = 3 then { if len = 4 then { reject; } } accept;":         api.Accept,
		"accept; pref = 0 - 1;":                                           api.Accept,
		"reject; pref = 0 - 1;":                                           api.Reject,
		"pref = 0 - 1; accept;":                                           api.Failed,
		"if len = 3 then { pref = 0 - 1; } accept;":                       api.Failed,
		"if len = 4 then { pref = 0 - 1; } accept;":                       api.Accept,
		"if len = 4 then { } else { med = 0 - 1; } accept;":               api.Failed,
		"if 0 - 1 = 0 then { accept; } else { accept; } accept;":          api.Failed,
	} {
		checkVerdict(t, text, sampleRoute(), want)
	}
}

func TestSums(t *testing.T) {
	for sum, want := range map[string]int{
		"0": 0, "4294967295": api.MaxNumber, "pref": 50, "med": 9, "len": 3, "( pref )": 50,
		"pref + med": 59, "pref - med": 41, "pref - med - len": 38, "pref - ( med - len )": 44, "pref - ( med + len )": 38, "pref - med + len": 44,
		"50 - pref": 0, "4294967294 + 1": api.MaxNumber, "4294967295 - 4294967295": 0, "4294967295 - 1 + 1": api.MaxNumber, "( ( 1 ) + ( ( 2 ) ) )": 3, "4294967295 + ( len - 3 )": api.MaxNumber,
	} {
		checkRun(t, "pref = "+sum+"; accept;", sampleRoute(), changed(func(r *api.Route) { r.Pref = want }))
		checkRun(t, "med = "+sum+"; accept;", sampleRoute(), changed(func(r *api.Route) { r.Med = want }))
		checkVerdict(t, "if 1 + ( "+sum+" ) = 1 then { accept; } accept;", sampleRoute(), map[bool]int{true: api.Failed, false: api.Accept}[want == api.MaxNumber])
	}
	for _, sum := range []string{
		"0 - 1", "49 - pref", "4294967295 + 1", "4294967295 + 4294967295", "0 - 4294967295", "0 - 1 + 1", "4294967295 + 1 - 1", "1 + ( 2 - 3 )", "( 0 - 1 ) + 1", "5 - ( 0 - 1 )", "1 + ( 4294967295 + 1 - 1 )", "pref - 51", "len - 4", "med + 4294967287",
	} {
		checkVerdict(t, "pref = "+sum+"; accept;", sampleRoute(), api.Failed)
		checkVerdict(t, "med = "+sum+"; accept;", sampleRoute(), api.Failed)
		checkVerdict(t, "if "+sum+" = 0 then { } accept;", sampleRoute(), api.Failed)
		checkVerdict(t, "if 0 < "+sum+" then { } accept;", sampleRoute(), api.Failed)
	}
	checkVerdict(t, "pref = 0 - ( 2 - 3 ); accept;", sampleRoute(), api.Failed)
	checkRun(t, "pref = pref + 1; med = pref; pref = pref + med; prepend 1; med = med + len; accept;", sampleRoute(), changed(func(r *api.Route) {
		r.Pref, r.Med, r.Path = 102, 55, []int{1, 4, 6, 4}
	}))
}

func TestMarks(t *testing.T) {
	eight := []int{1, 3, 5, 7, 9, 11, 13, 15}
	for _, c := range []struct {
		text        string
		marks, want []int
	}{
		{"mark 0;", nil, []int{0}},
		{"mark 65535;", []int{1}, []int{1, 65535}},
		{"mark 3; mark 1; mark 2;", nil, []int{1, 2, 3}},
		{"mark 7; mark 7;", []int{7}, []int{7}},
		{"mark 4;", []int{3, 5}, []int{3, 4, 5}},
		{"mark 16;", eight[:7], []int{1, 3, 5, 7, 9, 11, 13, 16}},
		{"mark 1; mark 9; mark 15;", eight, eight},
		{"unmark 9; mark 0;", eight, []int{0, 1, 3, 5, 7, 11, 13, 15}},
		{"unmark 3;", nil, nil},
		{"unmark 3;", []int{3}, nil},
		{"unmark 3; unmark 3;", []int{2, 3, 4}, []int{2, 4}},
		{"unmark 1; unmark 15;", eight, []int{3, 5, 7, 9, 11, 13}},
		{"unmark 2;", eight, eight},
	} {
		checkRun(t, c.text+" accept;", api.Route{Marks: c.marks}, api.Route{Marks: c.want})
	}
	for _, text := range []string{"mark 0;", "mark 2;", "mark 16;", "unmark 2; mark 2;"} {
		checkVerdict(t, text+" accept;", api.Route{Marks: eight}, api.Failed)
	}
	for mark, want := range map[string]int{"0": api.Reject, "1": api.Accept, "2": api.Reject, "15": api.Accept, "16": api.Reject} {
		checkVerdict(t, "if marked "+mark+" then { accept; }", api.Route{Marks: eight}, want)
	}
	checkVerdict(t, "unmark 2; if marked 2 then { reject; } mark 3; if marked 3 then { accept; }", sampleRoute(), api.Accept)
}

func TestPrepend(t *testing.T) {
	checkRun(t, "prepend 1; prepend 65535; accept;", api.Route{}, api.Route{Path: []int{65535, 1}})
	checkRun(t, "prepend 4; accept;", sampleRoute(), changed(func(r *api.Route) { r.Path = []int{4, 4, 6, 4} }))
	checkRun(t, strings.Repeat("prepend 2;", 12)+"accept;", api.Route{}, api.Route{Path: slices.Repeat([]int{2}, 12)})
	checkVerdict(t, strings.Repeat("prepend 2;", 13)+"accept;", api.Route{}, api.Failed)
	checkVerdict(t, "prepend 2; if len = 4 then { accept; }", sampleRoute(), api.Accept)
	checkVerdict(t, "way w = 2 4 6 4; prepend 2; if path like w then { accept; }", sampleRoute(), api.Accept)
}

func TestConds(t *testing.T) {
	const yes, no, fails = "len = 3", "len = 4", "0 - 1 = 0"
	for cond, want := range map[string]int{
		"len < 4": api.Accept, "len < 3": api.Reject, "len = 3": api.Accept, "med < pref": api.Accept, "pref < med": api.Reject, "4294967294 < 4294967295": api.Accept, "0 < 0": api.Reject, "pref + med = len + 56": api.Accept,
		"not " + yes: api.Reject, "not " + no: api.Accept, "not not " + yes: api.Accept, "not not not " + yes: api.Reject, "[ " + yes + " ]": api.Accept, "[ [ " + no + " ] ]": api.Reject,
		yes + " and " + yes: api.Accept, yes + " and " + no: api.Reject, no + " and " + yes: api.Reject, no + " and " + no: api.Reject,
		yes + " or " + yes: api.Accept, yes + " or " + no: api.Accept, no + " or " + yes: api.Accept, no + " or " + no: api.Reject,
		yes + " or " + no + " and " + no: api.Accept, "[ " + yes + " or " + no + " ] and " + no: api.Reject, no + " and " + no + " or " + yes: api.Accept, no + " and [ " + no + " or " + yes + " ]": api.Reject,
		"not " + no + " and " + no: api.Reject, "not [ " + no + " and " + no + " ]": api.Accept, "not " + yes + " or " + yes: api.Accept, "not [ " + yes + " or " + yes + " ]": api.Reject,
		fails: api.Failed, "not " + fails: api.Failed, "not not " + fails: api.Failed, "[ " + fails + " ]": api.Failed, "0 = 0 - 1": api.Failed, "0 - 1 < 5": api.Failed, "5 < 0 - 1": api.Failed,
		no + " and " + fails: api.Reject, yes + " and " + fails: api.Failed, fails + " and " + no: api.Failed, fails + " and " + yes: api.Failed,
		yes + " or " + fails: api.Accept, no + " or " + fails: api.Failed, fails + " or " + yes: api.Failed, fails + " or " + no: api.Failed,
		no + " and " + fails + " and " + fails: api.Reject, yes + " or " + fails + " or " + fails: api.Accept, no + " and " + fails + " or " + yes: api.Accept, yes + " or " + fails + " and " + fails: api.Accept,
		"[ " + yes + " or " + no + " ] and " + fails: api.Failed, "not [ " + no + " and " + fails + " ]": api.Accept, "not [ " + yes + " and " + fails + " ]": api.Failed, yes + " and " + no + " and " + fails: api.Reject, no + " or " + yes + " or " + fails: api.Accept,
	} {
		checkVerdict(t, "if "+cond+" then { accept; } else { reject; }", sampleRoute(), want)
	}
}

func TestSets(t *testing.T) {
	for _, c := range []struct {
		set     string
		in, out []api.Net
	}{
		{"0.0.0.0/0", []api.Net{{}}, []api.Net{netOf(0, 0, 0, 0, 1), netOf(128, 0, 0, 0, 1), netOf(0, 0, 0, 0, 32)}},
		{"0.0.0.0/0 0 32", []api.Net{{}, netOf(255, 255, 255, 255, 32), netOf(128, 0, 0, 0, 1)}, nil},
		{"0.0.0.0/0 32 32", []api.Net{netOf(255, 255, 255, 255, 32), netOf(0, 0, 0, 0, 32)}, []api.Net{{}, netOf(0, 0, 0, 0, 31)}},
		{"10.0.0.0/8", []api.Net{netOf(10, 0, 0, 0, 8)}, []api.Net{netOf(10, 0, 0, 0, 9), netOf(10, 0, 0, 0, 7), netOf(11, 0, 0, 0, 8), netOf(10, 1, 0, 0, 16)}},
		{"10.0.0.0/8 8 9", []api.Net{netOf(10, 0, 0, 0, 8), netOf(10, 128, 0, 0, 9), netOf(10, 0, 0, 0, 9)}, []api.Net{netOf(10, 0, 0, 0, 7), netOf(10, 0, 0, 0, 10), netOf(11, 0, 0, 0, 8), netOf(11, 0, 0, 0, 9)}},
		{"10.0.0.0/8 9 9", []api.Net{netOf(10, 128, 0, 0, 9)}, []api.Net{netOf(10, 0, 0, 0, 8), netOf(10, 0, 0, 0, 10), netOf(138, 0, 0, 0, 9)}},
		{"1.2.3.4/32", []api.Net{netOf(1, 2, 3, 4, 32)}, []api.Net{netOf(1, 2, 3, 5, 32), netOf(1, 2, 3, 4, 31), netOf(1, 2, 3, 4, 30)}},
		{"1.2.3.4/30 31 32", []api.Net{netOf(1, 2, 3, 4, 31), netOf(1, 2, 3, 6, 31), netOf(1, 2, 3, 7, 32)}, []api.Net{netOf(1, 2, 3, 4, 30), netOf(1, 2, 3, 8, 31), netOf(1, 2, 3, 3, 32)}},
		{"1.0.0.0/8, 2.0.0.0/8 16 16, 1.0.0.0/8 24 24", []api.Net{netOf(1, 0, 0, 0, 8), netOf(2, 9, 0, 0, 16), netOf(1, 2, 3, 0, 24)}, []api.Net{netOf(2, 0, 0, 0, 8), netOf(1, 9, 0, 0, 16), netOf(2, 2, 3, 0, 24)}},
	} {
		text := "set other = { 0.0.0.0/0 0 32 }; set s = { " + c.set + " }; if net in s then { accept; }"
		for _, n := range c.in {
			checkVerdict(t, text, api.Route{Net: n}, api.Accept)
		}
		for _, n := range c.out {
			checkVerdict(t, text, api.Route{Net: n}, api.Reject)
		}
	}
}

func TestWays(t *testing.T) {
	for _, c := range []struct {
		way      string
		yes, not [][]int
	}{
		{"5", [][]int{{5}}, [][]int{{}, {6}, {5, 5}, {5, 6}, {6, 5}}},
		{".", [][]int{{1}, {65535}}, [][]int{{}, {1, 1}}},
		{"5 6", [][]int{{5, 6}}, [][]int{{}, {5}, {6}, {6, 5}, {5, 6, 6}}},
		{"5 *", [][]int{{}, {5}, {5, 5}, slices.Repeat([]int{5}, 12)}, [][]int{{6}, {5, 6}, {6, 5}}},
		{"5 +", [][]int{{5}, {5, 5}, slices.Repeat([]int{5}, 12)}, [][]int{{}, {6}, {5, 6}}},
		{"5 ?", [][]int{{}, {5}}, [][]int{{6}, {5, 5}}},
		{"5 6 *", [][]int{{5}, {5, 6, 6}}, [][]int{{}, {5, 6, 5, 6}}},
		{"( 5 6 ) *", [][]int{{}, {5, 6, 5, 6}}, [][]int{{5}, {5, 6, 6}}},
		{"5 6 | 7", [][]int{{5, 6}, {7}}, [][]int{{5, 7}, {5}, {5, 6, 7}, {}}},
		{"5 ( 6 | 7 )", [][]int{{5, 6}, {5, 7}}, [][]int{{7}, {5, 6, 7}}},
		{"5 ? 5 ? 5", [][]int{{5}, {5, 5}, {5, 5, 5}}, [][]int{{}, {5, 5, 5, 5}}},
		{"5 * 5", [][]int{{5}, {5, 5}}, [][]int{{}, {5, 6}}},
		{"5 + ?", [][]int{{}, {5}, {5, 5}}, [][]int{{6}}},
		{"5 ? +", [][]int{{}, {5}, {5, 5}}, [][]int{{6}}},
		{"5 ? ?", [][]int{{}, {5}}, [][]int{{5, 5}}},
		{"5 + +", [][]int{{5}, {5, 5}}, [][]int{{}}},
		{"5 * ?", [][]int{{}, {5}, {5, 5}}, [][]int{{6}}},
		{"( 5 ? ) +", [][]int{{}, {5}, {5, 5}}, [][]int{{6}}},
		{"( 5 * 6 ? ) *", [][]int{{}, {6, 5, 6, 6}}, [][]int{{7}, {5, 7}}},
		{"( 5 | 5 6 ) ( 6 7 | 7 )", [][]int{{5, 6, 7}, {5, 7}, {5, 6, 6, 7}}, [][]int{{5, 6}, {5, 6, 6}}},
		{". * 9 . *", [][]int{{9}, {1, 9}, {9, 1}, {1, 9, 9, 1}}, [][]int{{}, {1}, {1, 1}}},
	} {
		text := "way other = . *; way w = " + c.way + "; if path like w then { accept; }"
		for _, path := range c.yes {
			checkVerdict(t, text, api.Route{Path: path}, api.Accept)
		}
		for _, path := range c.not {
			checkVerdict(t, text, api.Route{Path: path}, api.Reject)
		}
	}
}

// TestDeepWays: ways that could be read in very many ways are read soon (P1).
func TestDeepWays(t *testing.T) {
	nest := ". *"
	for range 7 {
		nest = "(" + nest + " 5|.)*"
	}
	deep := strings.Repeat("(", 8) + ".*" + strings.Repeat(")*", 8)
	begun := time.Now()
	for _, way := range []string{nest + "5", "(" + nest + nest + nest + ")*5", deep + deep + deep + "5", "." + strings.Repeat("*", 560) + "5", "." + strings.Repeat("+?", 280) + "5", strings.Repeat(".*", 280) + "5", "(" + strings.Repeat(".?", 270) + ")*5"} {
		text := "way w=" + way + ";if path like w then{accept;}"
		checkVerdict(t, text, api.Route{Path: slices.Repeat([]int{1}, 12)}, api.Reject)
		checkVerdict(t, text, api.Route{Path: []int{1, 1, 1, 1, 1, 1, 1, 1, 1, 1, 1, 5}}, api.Accept)
	}
	if took := time.Since(begun); took > 20*time.Second {
		t.Errorf("it took %v", took)
	}
}

// TestLongPolicies: as long and as deep as they may be.
func TestLongPolicies(t *testing.T) {
	checkVerdict(t, "pref=1"+strings.Repeat("+1", 280)+";if pref=281then{accept;}", api.Route{}, api.Accept)
	checkVerdict(t, "if "+strings.Repeat("0<0or ", 90)+"0<1then{accept;}", api.Route{}, api.Accept)
	checkVerdict(t, "if "+strings.Repeat("0<1and ", 80)+"0<1then{accept;}", api.Route{}, api.Accept)
	checkVerdict(t, strings.Repeat("if 0=0then{", 8)+"accept;"+strings.Repeat("}", 8), api.Route{}, api.Accept)
	checkVerdict(t, "if "+strings.Repeat("not ", 8)+"0=0then{accept;}", api.Route{}, api.Accept)
	checkVerdict(t, "if "+strings.Repeat("not ", 7)+"0=0then{accept;}", api.Route{}, api.Reject)
	checkVerdict(t, "pref=8"+strings.Repeat("-(1", 7)+"-(2"+strings.Repeat(")", 8)+";accept;", api.Route{}, api.Failed)
	checkVerdict(t, "pref=8"+strings.Repeat("-(8", 8)+strings.Repeat(")", 8)+";if pref=8then{accept;}", api.Route{}, api.Accept)
}

func TestNoRoute(t *testing.T) {
	for _, text := range []string{"accept;", "reject;", "pref = 0 - 1;", "mark 1; prepend 1; accept;"} {
		p := mustCompile(t, text)
		for i, r := range []api.Route{
			{Net: api.Net{Addr: 1, Len: 31}}, {Net: api.Net{Addr: 1 << 31, Len: 0}}, {Net: api.Net{Len: 33}}, {Net: api.Net{Len: -1}}, {Net: api.Net{Addr: -1, Len: 32}}, {Net: api.Net{Addr: 1 << 32, Len: 32}},
			{Path: []int{0}}, {Path: []int{3, -3}}, {Path: []int{65536}}, {Path: slices.Repeat([]int{1}, 13)}, {Path: slices.Repeat([]int{1}, 1000)},
			{Marks: []int{-1}}, {Marks: []int{65536}}, {Marks: []int{4, 4}}, {Marks: []int{5, 4}}, {Marks: []int{0, 1, 2, 3, 4, 5, 6, 7, 8}},
			{Pref: -1}, {Pref: 1 << 32}, {Med: -1}, {Med: 1 << 32}, {Pref: -1 << 63}, {Med: 1<<63 - 1},
		} {
			if got, verdict, e := p.Run(r); e != api.ErrRoute || verdict != 0 || !isNothing(got) {
				t.Errorf("case %d of %q: %+v, %d, %d", i, text, got, verdict, e)
			}
		}
	}
}

// TestRouteNotKept: the lists that come in are left as they are, and are not
// those that come out; a policy keeps nothing of a run (P2).
func TestRouteNotKept(t *testing.T) {
	for _, text := range []string{"accept;", "prepend 1; accept;", "mark 1; accept;", "unmark 7; accept;", "mark 9; unmark 9; prepend 3; mark 0; accept;", "unmark 7; prepend 1; pref = 0 - 1;", "mark 1; prepend 2; reject;"} {
		p := mustCompile(t, text)
		path, marks := []int{5, 6, 0, 0, 0, 0}, []int{2, 7, 0, 0, 0, 0}
		r := api.Route{Path: path[:2], Marks: marks[:2]}
		first, _, _ := p.Run(r)
		second, _, _ := p.Run(r)
		if !slices.Equal(path, []int{5, 6, 0, 0, 0, 0}) || !slices.Equal(marks, []int{2, 7, 0, 0, 0, 0}) {
			t.Errorf("%q: the lists have become %v, %v", text, path, marks)
		}
		if !sameRoute(first, second) {
			t.Errorf("%q: %+v, and then %+v", text, first, second)
		}
		fill := func(list []int) {
			for i := range list[:cap(list)] {
				list[:cap(list)][i] = 99
			}
		}
		fill(first.Path)
		if slices.Contains(first.Marks[:cap(first.Marks)], 99) {
			t.Errorf("%q: Path and Marks share memory", text)
		}
		fill(first.Marks)
		if !slices.Equal(path, []int{5, 6, 0, 0, 0, 0}) || !slices.Equal(marks, []int{2, 7, 0, 0, 0, 0}) {
			t.Errorf("%q: what came out is what came in", text)
		}
		if third, _, _ := p.Run(r); !sameRoute(second, third) {
			t.Errorf("%q: %+v, and then %+v", text, second, third)
		}
	}
}

func TestEmptyLists(t *testing.T) {
	spare := make([]int, 3)
	got, verdict, e := mustCompile(t, "accept;").Run(api.Route{Path: spare[:0], Marks: []int{}})
	if e != api.OK || verdict != api.Accept || !isNothing(got) || cap(got.Path) > 0 {
		t.Errorf("%+v, %d, %d", got, verdict, e)
	}
}

// TestRunTogether: a policy may be run as often as one likes, at one time too.
func TestRunTogether(t *testing.T) {
	p := mustCompile(t, "way w = ( 1 | 2 ) * 3; if path like w then { prepend 2; mark 4; pref = pref + len; accept; }")
	var all sync.WaitGroup
	for n := range 8 {
		all.Go(func() {
			for range 500 {
				got, verdict, e := p.Run(api.Route{Path: []int{1, 3}, Marks: []int{n + 5}, Pref: n})
				if want := (api.Route{Path: []int{2, 1, 3}, Marks: []int{4, n + 5}, Pref: n + 3}); e != api.OK || verdict != api.Accept || !sameRoute(got, want) {
					t.Errorf("%+v, %d, %d, want %+v", got, verdict, e, want)
				}
			}
		})
	}
	all.Wait()
}

func TestRunOfNoPolicy(t *testing.T) {
	for _, p := range []*Policy{nil, new(Policy)} {
		if got, verdict, e := p.Run(sampleRoute()); e != api.OK || verdict != api.Reject || !isNothing(got) {
			t.Errorf("%+v, %d, %d", got, verdict, e)
		}
		if got, verdict, e := p.Run(api.Route{Med: -1}); e != api.ErrRoute || verdict != 0 || !isNothing(got) {
			t.Errorf("%+v, %d, %d", got, verdict, e)
		}
	}
}
