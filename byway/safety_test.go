package byway

import (
	"math/rand"
	"strings"
	"testing"
	"unsafe"

	"byway/api"
)

// checkAnswer holds what is promised of Compile at every text (P1).
func checkAnswer(t *testing.T, text string) {
	t.Helper()
	p, e, at := Compile(text)
	again, e2, at2 := Compile(text)
	if e != e2 || at != at2 || (p == nil) != (again == nil) {
		t.Fatalf("Compile(%q) = %d, %d, and then %d, %d", text, e, at, e2, at2)
	}
	switch e {
	case api.OK:
		if p == nil || at != 0 || p.Print() != again.Print() || p.Print() != p.Print() {
			t.Fatalf("Compile(%q) = %v, %d, %d", text, p != nil, e, at)
		}
	case api.ErrLong:
		if p != nil || at != 0 || len(text) <= api.MaxText {
			t.Fatalf("Compile(%q) = %v, %d, %d", text, p != nil, e, at)
		}
	case api.ErrSyntax, api.ErrName, api.ErrNumber:
		if p != nil || at < 0 || at > len(text) || len(text) > api.MaxText {
			t.Fatalf("Compile(%q) = %v, %d, %d", text, p != nil, e, at)
		}
	default:
		t.Fatalf("Compile(%q) = %d", text, e)
	}
}

func TestAnyText(t *testing.T) {
	source := rand.New(rand.NewSource(2))
	pieces := append(strings.Fields(vocabulary), " ", "\n", "10.0.0.0/8", "1.2.3.4/8", "0", "65536", "4294967296", "a", "b", "accept;", "if len = 1 then {", "\t", "é", "\xff", "\x00")
	for range 20000 {
		text := ""
		for range source.Intn(30) {
			text += pieces[source.Intn(len(pieces))]
		}
		checkAnswer(t, text)
	}
	for range 5000 {
		b := make([]byte, source.Intn(700))
		source.Read(b)
		checkAnswer(t, string(b))
	}
	for _, piece := range pieces {
		for _, n := range []int{1, 9, 100, 600, 100000} {
			checkAnswer(t, strings.Repeat(piece, n))
			checkAnswer(t, strings.Repeat(piece+" ", n))
		}
	}
}

// TestChangedText: a policy at every byte of which another one is tried.
func TestChangedText(t *testing.T) {
	text := "set a={10.0.0.0/8 8 9};way b=(1|.)*2;if not[net in a or path like b]and pref<(med+1)then{mark 1;}else{prepend 2;}accept;"
	for i := range len(text) {
		checkAnswer(t, text[:i])
		checkAnswer(t, text[i:])
		checkAnswer(t, text[:i]+text[i+1:])
		for c := range 256 {
			checkAnswer(t, text[:i]+string([]byte{byte(c)})+text[i+1:])
		}
	}
}

// TestTextNotKept: the memory of the text may be written over (P2).
func TestTextNotKept(t *testing.T) {
	for _, text := range []string{"accept;\n", "way a = 1;\nif path like a then {\naccept;\n}\n"} {
		b := []byte(text)
		p := mustCompile(t, unsafe.String(&b[0], len(b)))
		for i := range b {
			b[i] = '?'
		}
		if got := p.Print(); got != text {
			t.Errorf("Print = %q, want %q", got, text)
		}
		if _, verdict, e := p.Run(api.Route{Path: []int{1}}); e != api.OK || verdict != api.Accept {
			t.Errorf("Run of %q = %d, %d", text, verdict, e)
		}
	}
}

// TestPoliciesApart: policies do not change one another (P2).
func TestPoliciesApart(t *testing.T) {
	one := mustCompile(t, "set a = { 1.0.0.0/8 }; accept;")
	two := mustCompile(t, "way a = 1; reject;")
	check(t, "if net in a then { }", api.ErrName, 10)
	for range 3 {
		if one.Print() != "set a = { 1.0.0.0/8 };\naccept;\n" || two.Print() != "way a = 1;\nreject;\n" {
			t.Errorf("Print = %q and %q", one.Print(), two.Print())
		}
	}
}

func TestNoPolicy(t *testing.T) {
	var none *Policy
	if none.Print() != "" || new(Policy).Print() != "" {
		t.Errorf("what is no policy prints %q and %q", none.Print(), new(Policy).Print())
	}
}
