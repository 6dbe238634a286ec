package byway

import (
	"math/rand"
	"regexp"
	"slices"
	"strconv"
	"strings"
	"testing"

	"byway/api"
)

// teller runs a policy another way: it goes through the tokens anew at every
// run, and a way is a regular expression over the path's systems as letters.
type teller struct {
	tokens  []string
	ways    map[string]*regexp.Regexp
	sets    map[string]map[api.Net]bool
	route   api.Route
	verdict int
}

func (m *teller) next() string {
	token := m.tokens[0]
	m.tokens = m.tokens[1:]
	return token
}

func (m *teller) took(tokens ...string) bool {
	if len(m.tokens) == 0 || !slices.Contains(tokens, m.tokens[0]) {
		return false
	}
	m.next()
	return true
}

func (m *teller) number() int {
	n, _ := strconv.Atoi(m.next())
	return n
}

func letter(system int) string { return string(rune('a' + system)) }

func lettersOf(path []int) string {
	text := ""
	for _, system := range path {
		text += letter(system)
	}
	return text
}

func (m *teller) policy() {
	for {
		switch m.tokens[0] {
		case "way":
			m.next()
			name := m.next()
			m.next()
			m.ways[name] = regexp.MustCompile("^(?:" + m.expression() + ")$")
		case "set":
			m.next()
			name := m.next()
			m.next()
			m.sets[name] = m.nets()
		default:
			for len(m.tokens) > 0 {
				m.statement(true)
			}
			return
		}
		m.next()
	}
}

// expression reads an EITHER.
func (m *teller) expression() string {
	text := ""
	for {
		switch token := m.tokens[0]; token {
		case ";", ")":
			return text
		case "|":
			text += m.next()
			continue
		}
		item := m.next()
		switch item {
		case "(":
			item = "(?:" + m.expression() + ")"
			m.next()
		case ".":
		default:
			n, _ := strconv.Atoi(item)
			item = letter(n)
		}
		for slices.Contains([]string{"*", "+", "?"}, m.tokens[0]) {
			item = "(?:" + item + m.next() + ")"
		}
		text += item
	}
}

// nets reads a set: of the nets that are tried, those that are in it.
func (m *teller) nets() map[api.Net]bool {
	held := map[api.Net]bool{}
	m.next()
	for !m.took("}") {
		m.took(",")
		prefix := parsePrefix(m.next())
		least, most := prefix.Len, prefix.Len
		if m.tokens[0] != "," && m.tokens[0] != "}" {
			least, most = m.number(), m.number()
		}
		for _, n := range triedNets() {
			if n.Len >= least && n.Len <= most && strings.HasPrefix(bitsOf(n), bitsOf(prefix)) {
				held[n] = true
			}
		}
	}
	return held
}

// bitsOf gives the bits of a net that count.
func bitsOf(n api.Net) string {
	bits := strconv.FormatInt(int64(n.Addr), 2)
	return (strings.Repeat("0", 32-len(bits)) + bits)[:n.Len]
}

func parsePrefix(text string) api.Net {
	parts := strings.FieldsFunc(text, func(c rune) bool { return c == '.' || c == '/' })
	var n [5]int
	for i, part := range parts {
		n[i], _ = strconv.Atoi(part)
	}
	return netOf(n[0], n[1], n[2], n[3], n[4])
}

// statement runs one, or if it is not live leaves it out.
func (m *teller) statement(live bool) {
	live = live && m.verdict == 0
	word, r := m.next(), &m.route
	switch word {
	case "if":
		m.choice(live)
		return
	case "accept":
		m.conclude(live, api.Accept)
	case "reject":
		m.conclude(live, api.Reject)
	case "pref", "med":
		m.next()
		n := m.sum(live)
		if live && word == "pref" {
			r.Pref = n
		} else if live {
			r.Med = n
		}
	case "mark":
		if n := m.number(); live && !slices.Contains(r.Marks, n) {
			r.Marks = append(r.Marks, n)
			slices.Sort(r.Marks)
			m.conclude(len(r.Marks) > api.MaxMarks, api.Failed)
		}
	case "unmark":
		if n := m.number(); live {
			r.Marks = slices.DeleteFunc(r.Marks, func(mark int) bool { return mark == n })
		}
	case "prepend":
		if n := m.number(); live {
			r.Path = append([]int{n}, r.Path...)
			m.conclude(len(r.Path) > api.MaxPath, api.Failed)
		}
	}
	m.next()
}

func (m *teller) conclude(so bool, verdict int) {
	if so && m.verdict == 0 {
		m.verdict = verdict
	}
}

func (m *teller) choice(live bool) {
	yes := m.cond(live)
	m.next()
	m.block(live && yes)
	if m.took("else") {
		m.block(live && !yes)
	}
}

func (m *teller) block(live bool) {
	m.next()
	for !m.took("}") {
		m.statement(live)
	}
}

func (m *teller) sum(live bool) int {
	n := m.term(live)
	for {
		switch {
		case m.took("+"):
			n += m.term(live)
		case m.took("-"):
			n -= m.term(live)
		default:
			return n
		}
		m.conclude(live && (n < 0 || n > api.MaxNumber), api.Failed)
	}
}

func (m *teller) term(live bool) int {
	switch token := m.next(); token {
	case "pref":
		return m.route.Pref
	case "med":
		return m.route.Med
	case "len":
		return len(m.route.Path)
	case "(":
		n := m.sum(live)
		m.next()
		return n
	default:
		n, _ := strconv.Atoi(token)
		return n
	}
}

func (m *teller) cond(live bool) bool {
	yes := m.and(live)
	for m.took("or") {
		behind := m.and(live && !yes)
		yes = yes || behind
	}
	return yes
}

func (m *teller) and(live bool) bool {
	yes := m.not(live)
	for m.took("and") {
		behind := m.not(live && yes)
		yes = yes && behind
	}
	return yes
}

func (m *teller) not(live bool) bool {
	switch {
	case m.took("not"):
		return !m.not(live)
	case m.took("net"):
		m.next()
		return m.sets[m.next()][m.route.Net]
	case m.took("path"):
		m.next()
		return m.ways[m.next()].MatchString(lettersOf(m.route.Path))
	case m.took("marked"):
		return slices.Contains(m.route.Marks, m.number())
	case m.took("["):
		yes := m.cond(live)
		m.next()
		return yes
	}
	a := m.sum(live)
	if m.next() == "<" {
		return a < m.sum(live)
	}
	return a == m.sum(live)
}

// triedNets are those of the routes; triedPrefixes those of the sets.
func triedNets() []api.Net {
	all := []api.Net{}
	for _, text := range triedPrefixes() {
		all = append(all, parsePrefix(text))
	}
	return all
}

func triedPrefixes() []string {
	return strings.Fields("0.0.0.0/0 128.0.0.0/1 10.0.0.0/7 10.0.0.0/8 10.1.0.0/16 10.1.128.0/17 10.1.2.0/24 10.1.2.128/25 10.1.2.3/32 11.0.0.0/8 255.255.255.255/32 0.0.0.0/32")
}

// writer writes policies, each token with blanks about it.
type writer struct{ *rand.Rand }

func (w writer) one(texts ...string) string { return texts[w.Intn(len(texts))] }

func (w writer) policy() string {
	text := "way wa = " + w.either(3) + " ; way wb = " + w.either(2) + " ; set sa = { " + w.span() + " } ; set sb = { " + w.span() + " , " + w.span() + " } ; "
	for range 1 + w.Intn(5) {
		text += w.statement(2)
	}
	return text + w.one("accept ; ", "accept ; ", "reject ; ", "")
}

func (w writer) span() string {
	prefix := w.one(triedPrefixes()...)
	if w.Intn(3) == 0 {
		return prefix
	}
	least := parsePrefix(prefix).Len
	least += w.Intn(33 - least)
	return prefix + " " + strconv.Itoa(least) + " " + strconv.Itoa(least+w.Intn(33-least))
}

func (w writer) either(deep int) string {
	text := w.row(deep)
	for w.Intn(3) == 0 {
		text += " | " + w.row(deep)
	}
	return text
}

func (w writer) row(deep int) string {
	text := w.item(deep)
	for w.Intn(2) == 0 {
		text += " " + w.item(deep)
	}
	return text
}

func (w writer) item(deep int) string {
	text := w.one("1", "2", "3", ".")
	if deep > 0 && w.Intn(2) == 0 {
		text = "( " + w.either(deep-1) + " )"
	}
	for w.Intn(3) == 0 {
		text += w.one(" *", " +", " ?")
	}
	return text
}

func (w writer) statement(deep int) string {
	if deep > 0 && w.Intn(2) == 0 {
		text := "if " + w.cond(2) + " then { " + w.statement(deep-1) + "} "
		if w.Intn(2) == 0 {
			text += "else { " + w.statement(deep-1) + w.statement(deep-1) + "} "
		}
		return text
	}
	mark := strconv.Itoa(w.Intn(10))
	return w.one("pref = "+w.sum(2), "med = "+w.sum(2), "mark "+mark, "mark "+mark, "unmark "+mark, "prepend "+w.one("1", "2", "3"), w.one("accept", "reject", "mark "+mark)) + " ; "
}

func (w writer) sum(deep int) string {
	text := w.term(deep)
	for w.Intn(2) == 0 {
		text += w.one(" + ", " + ", " - ") + w.term(deep)
	}
	return text
}

func (w writer) term(deep int) string {
	if deep > 0 && w.Intn(4) == 0 {
		return "( " + w.sum(deep-1) + " )"
	}
	return w.one("0", "1", "3", "20", "4294967295", "pref", "pref", "med", "med", "len", "len")
}

func (w writer) cond(deep int) string {
	text := w.test(deep)
	for w.Intn(2) == 0 {
		text += w.one(" and ", " or ") + w.test(deep)
	}
	return text
}

func (w writer) test(deep int) string {
	switch w.Intn(8) {
	case 0:
		return "not " + w.test(deep)
	case 1:
		if deep > 0 {
			return "[ " + w.cond(deep-1) + " ]"
		}
	case 2, 3:
		return "path like " + w.one("wa", "wb")
	case 4:
		return "net in " + w.one("sa", "sb")
	case 5:
		return "marked " + strconv.Itoa(w.Intn(10))
	}
	return w.sum(1) + w.one(" = ", " < ") + w.sum(1)
}

func (w writer) route() api.Route {
	r := api.Route{Net: triedNets()[w.Intn(len(triedNets()))]}
	for range w.Intn(w.Intn(api.MaxPath+1) + 1) {
		r.Path = append(r.Path, 1+w.Intn(3))
	}
	r.Marks = w.Perm(10)[:w.Intn(api.MaxMarks+1)]
	slices.Sort(r.Marks)
	few := []int{0, 1, 3, 4, 20, 100, api.MaxNumber - 1, api.MaxNumber}
	r.Pref, r.Med = few[w.Intn(len(few))], few[w.Intn(len(few))]
	return r
}

// TestRunModel holds Run against the teller, always with the same policies.
func TestRunModel(t *testing.T) {
	w := writer{rand.New(rand.NewSource(3))}
	var seen [4]int
	for range 6000 {
		text := w.policy()
		if len(text) > api.MaxText {
			continue
		}
		p := mustCompile(t, text)
		for range 6 {
			r := w.route()
			m := teller{tokens: strings.Fields(text), ways: map[string]*regexp.Regexp{}, sets: map[string]map[api.Net]bool{}, route: r}
			m.route.Path, m.route.Marks = slices.Clone(r.Path), slices.Clone(r.Marks)
			m.policy()
			want := api.Route{}
			switch m.verdict {
			case 0:
				m.verdict = api.Reject
			case api.Accept:
				want = m.route
			}
			got, verdict, e := p.Run(r)
			if e != api.OK || verdict != m.verdict || !sameRoute(got, want) {
				t.Fatalf("%q with %+v = %+v, %d, %d, want %+v, %d", text, r, got, verdict, e, want, m.verdict)
			}
			seen[verdict]++
		}
	}
	if slices.Min(seen[1:]) < 1000 {
		t.Errorf("of the verdicts came %v", seen)
	}
}
