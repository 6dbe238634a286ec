package token

import (
	"slices"
	"strings"
	"testing"

	"byway/api"
)

func kinds(text string) []Kind {
	var got []Kind
	for t := range All(text) {
		got = append(got, t.Kind)
	}
	return got
}

func TestKinds(t *testing.T) {
	for _, c := range []struct {
		text string
		want []Kind
	}{
		{"", []Kind{End}},
		{" \n ", []Kind{End}},
		{"set way accept reject pref med mark unmark prepend", []Kind{Set, Way, Accept, Reject, Pref, Med, Mark, Unmark, Prepend, End}},
		{"if then else len or and not net in path like marked", []Kind{If, Then, Else, Len, Or, And, Not, Net, In, Path, Like, Marked, End}},
		{"=;,{}[]()|*?+-<.", []Kind{Equal, Semicolon, Comma, OpenBrace, ShutBrace, OpenBracket, ShutBracket, OpenParen, ShutParen, Bar, Star, Question, Plus, Minus, Less, Dot, End}},
		{"a abcdefgh sets", []Kind{Name, Name, Name, End}},
		{"abcdefghi", []Kind{None}},
		{"acceptaccept", []Kind{None}},
		{"mark1then", []Kind{Mark, Number, Then, End}},
		{"..7 .", []Kind{Dot, Dot, Number, Dot, End}},
		{".7.", []Kind{Dot, None}},
		{"acceptX a", []Kind{Accept, None}},
		{"a / b", []Kind{Name, None}},
		{"a\tb", []Kind{Name, None}},
		{"a\rb", []Kind{Name, None}},
		{"a\x00", []Kind{Name, None}},
		{"aé", []Kind{Name, None}},
		{">", []Kind{None}},
	} {
		if got := kinds(c.text); !slices.Equal(got, c.want) {
			t.Errorf("kinds of %q = %v, want %v", c.text, got, c.want)
		}
	}
}

func TestNumbers(t *testing.T) {
	for text, want := range map[string]int{"0": 0, "7": 7, "10": 10, "65536": 65536, "4294967295": api.MaxNumber} {
		for got := range All(text) {
			if got.Kind != Number || got.Number != want || got.Text != text {
				t.Errorf("%q = %+v, want the number %d", text, got, want)
			}
			break
		}
	}
	for _, text := range []string{"00", "01", "4294967296", "18446744073709551616", strings.Repeat("9", 600), "1.", "1.2", "1/", "1/2", "1..2"} {
		if got := kinds(text); !slices.Equal(got, []Kind{None}) {
			t.Errorf("kinds of %q = %v, want none", text, got)
		}
	}
}

func TestPrefixes(t *testing.T) {
	for text, want := range map[string]api.Net{
		"0.0.0.0/0":          {Addr: 0, Len: 0},
		"10.0.0.0/8":         {Addr: 10 << 24, Len: 8},
		"1.2.3.4/30":         {Addr: 1<<24 | 2<<16 | 3<<8 | 4, Len: 30},
		"128.0.0.0/1":        {Addr: 1 << 31, Len: 1},
		"255.255.255.255/32": {Addr: api.MaxNumber, Len: 32},
	} {
		for got := range All(text) {
			if got.Kind != Prefix || got.Net != want || got.Text != text {
				t.Errorf("%q = %+v, want the net %v", text, got, want)
			}
			break
		}
	}
	for _, text := range []string{
		"1.0.0.0", "1.0.0/8", "1.0.0.0.0/8", "256.0.0.0/8", "1.0.0.256/32", "1.0.0.0/33", "1.0.0.0/", "1.0.0.0/08", "01.0.0.0/8", "1.00.0.0/8",
		"1..0.0/8", "1.0.0./8", "1.0.0.0/8/8", "1.0.0.0//8", "1.0.0.0/8.", "1/0.0.0.8", "1.2.3.5/31", "128.0.0.0/0", "10.0.0.1/8", "4294967295.0.0.0/8",
	} {
		if got := kinds(text); !slices.Equal(got, []Kind{None}) {
			t.Errorf("kinds of %q = %v, want none", text, got)
		}
	}
}

func TestPlaces(t *testing.T) {
	var got []int
	for tok := range All(" if\n10.0.0.0/8;ab 7 ") {
		got = append(got, tok.At)
	}
	if want := []int{1, 4, 14, 15, 18, 20}; !slices.Equal(got, want) {
		t.Errorf("places = %v, want %v", got, want)
	}
}

// TestBreak: who ranges may stop at any token.
func TestBreak(t *testing.T) {
	for stop := range 5 {
		n := 0
		for range All("a b c d") {
			if n == stop {
				break
			}
			n++
		}
		if n != stop {
			t.Errorf("stopped at %d, want %d", n, stop)
		}
	}
}
