package byway

import (
	"math/rand"
	"slices"
	"strings"
	"testing"

	"byway/api"
)

// rules is the document's table, each kind with its alternatives. OPEN stands
// ahead of what counts as open, SHUT where it no longer does.
var rules = map[string][]string{
	"STATEMENTS": {"", "STATEMENT STATEMENTS"},
	"DEF":        {"set NAME = { RANGE RANGES } ;", "way NAME = EITHER ;"},
	"RANGE":      {"PREFIX", "PREFIX NUMBER NUMBER"},
	"RANGES":     {"", ", RANGE RANGES"},
	"EITHER":     {"ROW EITHERS"},
	"EITHERS":    {"", "| EITHER"},
	"ROW":        {"ITEM ROWS"},
	"ROWS":       {"", "ROW"},
	"ITEM":       {"NUMBER REPEATS", ". REPEATS", "OPEN ( EITHER ) SHUT REPEATS"},
	"REPEATS":    {"", "* REPEATS", "+ REPEATS", "? REPEATS"},
	"STATEMENT":  {"accept ;", "reject ;", "pref = SUM ;", "med = SUM ;", "mark NUMBER ;", "unmark NUMBER ;", "prepend NUMBER ;", "if COND then BLOCK ELSE"},
	"ELSE":       {"", "else BLOCK"},
	"BLOCK":      {"OPEN { STATEMENTS } SHUT"},
	"SUM":        {"TERM SUMS"},
	"SUMS":       {"", "+ SUM", "- SUM"},
	"TERM":       {"NUMBER", "pref", "med", "len", "OPEN ( SUM ) SHUT"},
	"COND":       {"AND CONDS"},
	"CONDS":      {"", "or COND"},
	"AND":        {"NOT ANDS"},
	"ANDS":       {"", "and AND"},
	"NOT":        {"OPEN not NOT SHUT", "net in NAME", "path like NAME", "marked NUMBER", "SUM SIGN SUM", "OPEN [ COND ] SHUT"},
	"SIGN":       {"=", "<"},
}

const vocabulary = "NUMBER PREFIX NAME set way accept reject pref med mark unmark prepend if then else len or and not net in path like marked = ; , { } [ ] ( ) | * ? + - < . !"

var samples = map[string]string{"NUMBER": "1", "PREFIX": "10.0.0.0/8", "NAME": "a"}

func sample(token string) string {
	if s := samples[token]; s != "" {
		return s
	}
	return token
}

// state is what a policy must still have, and how many are open.
type state struct {
	rest []string
	open int
}

func start() []state {
	var all []state
	for n := range api.MaxDefs + 1 {
		rest := slices.Repeat([]string{"DEF"}, n)
		all = append(all, unfold(state{rest: append(rest, "STATEMENT", "STATEMENTS")})...)
	}
	return all
}

// unfold gives the states in which a token, or nothing, comes next.
func unfold(s state) []state {
	if len(s.rest) == 0 {
		return []state{s}
	}
	head, rest := s.rest[0], s.rest[1:]
	switch {
	case head == "OPEN" && s.open == api.MaxNest:
		return nil
	case head == "OPEN":
		return unfold(state{rest, s.open + 1})
	case head == "SHUT":
		return unfold(state{rest, s.open - 1})
	case rules[head] == nil:
		return []state{s}
	}
	var all []state
	for _, a := range rules[head] {
		all = append(all, unfold(state{slices.Concat(strings.Fields(a), rest), s.open})...)
	}
	return all
}

// step gives the unfolded states behind a token: none, if no policy has it there.
func step(unfolded []state, token string) []state {
	var all []state
	for _, u := range unfolded {
		if len(u.rest) > 0 && u.rest[0] == token {
			all = append(all, unfold(state{u.rest[1:], u.open})...)
		}
	}
	return all
}

func ended(unfolded []state) bool {
	return slices.ContainsFunc(unfolded, func(u state) bool { return len(u.rest) == 0 })
}

// checkNext tries each token behind a text, and gives those that may be.
func checkNext(t *testing.T, states []state, text string) []string {
	t.Helper()
	var may []string
	for _, token := range strings.Fields(vocabulary) {
		next := step(states, token)
		longer := text + sample(token)
		_, e, at := Compile(longer)
		switch {
		case len(next) == 0:
			if e != api.ErrSyntax || at != len(text) {
				t.Fatalf("Compile(%q) = %d, %d, want %d, %d", longer, e, at, api.ErrSyntax, len(text))
			}
			continue
		case ended(next):
			if e == api.ErrSyntax {
				t.Fatalf("Compile(%q) = %d, %d, want a policy", longer, e, at)
			}
		case e != api.ErrSyntax || at != len(longer):
			t.Fatalf("Compile(%q) = %d, %d, want %d, %d", longer, e, at, api.ErrSyntax, len(longer))
		}
		may = append(may, token)
	}
	return may
}

func checkPrint(t *testing.T, text string, tokens []string) {
	t.Helper()
	p, e, _ := Compile(text)
	if e != api.OK {
		return
	}
	printed := p.Print()
	apart := strings.NewReplacer(";", " ;", ",", " ,").Replace(printed)
	if !slices.Equal(strings.Fields(apart), tokens) {
		t.Fatalf("Print of %q = %q: other tokens", text, printed)
	}
	if strings.Contains(printed, "  ") || strings.Contains(printed, " \n") || strings.Contains(printed, "\n\n") {
		t.Fatalf("Print of %q = %q: needless blanks", text, printed)
	}
	if len(printed) <= api.MaxText && mustCompile(t, printed).Print() != printed {
		t.Fatalf("Print of %q = %q: compiled again it is another", text, printed)
	}
}

// TestModel goes through policies token by token, always the same ones, and
// holds each place against the table.
func TestModel(t *testing.T) {
	source := rand.New(rand.NewSource(1))
	openers := strings.Fields("( [ not { if set way | + and or")
	deepest := 0
	for walk := range 12 {
		states, text, tokens := start(), "", []string(nil)
		for len(text) < api.MaxText-20 {
			may := checkNext(t, states, text)
			token := may[source.Intn(len(may))]
			if walk%2 == 0 && source.Intn(2) == 0 {
				if wanted := slices.DeleteFunc(slices.Clone(may), func(s string) bool { return !slices.Contains(openers, s) }); len(wanted) > 0 {
					token = wanted[source.Intn(len(wanted))]
				}
			}
			states = step(states, token)
			deepest = max(deepest, states[0].open)
			tokens = append(tokens, sample(token))
			text += sample(token) + " "
			checkPrint(t, text, tokens)
		}
	}
	if deepest != api.MaxNest {
		t.Errorf("the walks went down to %d, want %d", deepest, api.MaxNest)
	}
}
