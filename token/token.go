package token

import (
	"iter"
	"strings"

	"byway/api"
	"byway/nets"
)

const maxName = 8

// Token is a token, or a thing in its place that is none.
type Token struct {
	Kind   Kind
	At     int // the place of its first byte
	Text   string
	Number int     // of a NUMBER
	Net    api.Net // of a PREFIX
}

// All yields the text's tokens and then its End. The first thing that is no
// token comes as None and ends it all: nothing behind it can matter.
func All(text string) iter.Seq[Token] {
	return func(yield func(Token) bool) {
		for at := 0; at < len(text); {
			if isBlank(text[at]) {
				at++
				continue
			}
			t := first(text[at:])
			t.At = at
			if !yield(t) || t.Kind == None {
				return
			}
			at += len(t.Text)
		}
		yield(Token{Kind: End, At: len(text)})
	}
}

// first reads the token that text begins with.
func first(text string) Token {
	switch c := text[0]; {
	case isLetter(c):
		return letters(row(text, isLetter))
	case isDigit(c):
		return digits(row(text, isNumeral))
	default:
		return Token{Kind: signKind(c), Text: text[:1]}
	}
}

// row gives the bytes at the beginning of text that belong together.
func row(text string, belongs func(byte) bool) string {
	n := 0
	for n < len(text) && belongs(text[n]) {
		n++
	}
	return text[:n]
}

func letters(text string) Token {
	kind := wordKind(text)
	if kind == None && len(text) <= maxName {
		kind = Name
	}
	return Token{Kind: kind, Text: text}
}

func digits(text string) Token {
	if n, ok := number(text, api.MaxNumber); ok {
		return Token{Kind: Number, Text: text, Number: n}
	}
	if n, ok := prefix(text); ok {
		return Token{Kind: Prefix, Text: text, Net: n}
	}
	return Token{Kind: None, Text: text}
}

// number reads digits without needless 0 that come to no more than most.
func number(text string, most int) (int, bool) {
	if text == "" || len(text) > 1 && text[0] == '0' {
		return 0, false
	}
	n := 0
	for i := range len(text) {
		if !isDigit(text[i]) {
			return 0, false
		}
		n = 10*n + int(text[i]-'0')
		if n > most {
			return 0, false
		}
	}
	return n, true
}

// prefix reads four numbers, and a length behind them, that are a net.
func prefix(text string) (api.Net, bool) {
	before, behind, _ := strings.Cut(text, "/")
	parts := strings.Split(before, ".")
	if len(parts) != 4 {
		return api.Net{}, false
	}
	addr := 0
	for _, part := range parts {
		n, ok := number(part, 255)
		if !ok {
			return api.Net{}, false
		}
		addr = addr<<8 | n
	}
	length, ok := number(behind, nets.MaxLen)
	net := api.Net{Addr: addr, Len: length}
	if !ok || !nets.Valid(net) {
		return api.Net{}, false
	}
	return net, true
}

func isBlank(c byte) bool { return c == ' ' || c == '\n' }

func isLetter(c byte) bool { return 'a' <= c && c <= 'z' }

func isDigit(c byte) bool { return '0' <= c && c <= '9' }

func isNumeral(c byte) bool { return isDigit(c) || c == '.' || c == '/' }
