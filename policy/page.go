package policy

import (
	"strings"

	"byway/token"
)

// page lays tokens out, one behind the other.
type page struct {
	text strings.Builder
	gap  string // between the last token and the next one
}

func (p *page) add(t token.Token) {
	if t.Kind != token.Semicolon && t.Kind != token.Comma {
		p.text.WriteString(p.gap)
	}
	p.text.WriteString(t.Text)
	p.gap = " "
	if t.Kind == token.Semicolon {
		p.endLine()
	}
}

// endLine puts a line feed in the place of the space behind the last token.
func (p *page) endLine() { p.gap = "\n" }

func (p *page) done() string { return p.text.String() + p.gap }
