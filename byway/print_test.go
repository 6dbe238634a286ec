package byway

import (
	"testing"

	"byway/api"
)

func mustCompile(t *testing.T, text string) *Policy {
	t.Helper()
	p, e, at := Compile(text)
	if e != api.OK || at != 0 || p == nil {
		t.Fatalf("Compile(%q) = %v, %d, %d", text, p != nil, e, at)
	}
	return p
}

func TestPrint(t *testing.T) {
	for _, c := range [][2]string{
		{"accept;", "accept;\n"},
		{"\n\naccept\n;\n\n reject  ;", "accept;\nreject;\n"},
		{"set a={1.0.0.0/8,2.0.0.0/8 8 9 , 0.0.0.0/0};accept;", "set a = { 1.0.0.0/8, 2.0.0.0/8 8 9, 0.0.0.0/0 };\naccept;\n"},
		{"way a=1 .(2|3)*+?|.;way b=7;accept;", "way a = 1 . ( 2 | 3 ) * + ? | .;\nway b = 7;\naccept;\n"},
		{"pref=1+(med-len);med=0;mark 1;unmark 2;prepend 3;", "pref = 1 + ( med - len );\nmed = 0;\nmark 1;\nunmark 2;\nprepend 3;\n"},
		{"if len=1then{}", "if len = 1 then {\n}\n"},
		{"if len<1then{accept;}else{}", "if len < 1 then {\naccept;\n}\nelse {\n}\n"},
		{"if len<1then{if 1=1then{}}else{reject;}accept;", "if len < 1 then {\nif 1 = 1 then {\n}\n}\nelse {\nreject;\n}\naccept;\n"},
		{"set a={1.0.0.0/8};way b=1;if not[net in a or path like b]and marked 1then{}", "set a = { 1.0.0.0/8 };\nway b = 1;\nif not [ net in a or path like b ] and marked 1 then {\n}\n"},
	} {
		p := mustCompile(t, c[0])
		if got := p.Print(); got != c[1] {
			t.Errorf("Print of %q = %q, want %q", c[0], got, c[1])
		}
		if got := mustCompile(t, c[1]).Print(); got != c[1] {
			t.Errorf("Print of its own %q = %q", c[1], got)
		}
	}
}

// TestPrintLong: what is printed may be longer than a text may be.
func TestPrintLong(t *testing.T) {
	text := "pref=1"
	for len(text) < api.MaxText-2 {
		text += "+1"
	}
	text += ";"
	if got := mustCompile(t, text).Print(); len(got) <= api.MaxText || got[len(got)-6:] != " + 1;\n" {
		t.Errorf("Print of %d bytes = %d bytes", len(text), len(got))
	}
}
