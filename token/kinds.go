// Package token: the tokens of a policy's text.
package token

// Kind says what a token is.
type Kind int

const (
	None Kind = iota // a thing that is no token
	End              // the text's end
	Number
	Prefix
	Name

	Set
	Way
	Accept
	Reject
	Pref
	Med
	Mark
	Unmark
	Prepend
	If
	Then
	Else
	Len
	Or
	And
	Not
	Net
	In
	Path
	Like
	Marked

	Equal
	Semicolon
	Comma
	OpenBrace
	ShutBrace
	OpenBracket
	ShutBracket
	OpenParen
	ShutParen
	Bar
	Star
	Question
	Plus
	Minus
	Less
	Dot
)

type word struct {
	text string
	kind Kind
}

type sign struct {
	char byte
	kind Kind
}

var words = [...]word{
	{"set", Set},
	{"way", Way},
	{"accept", Accept},
	{"reject", Reject},
	{"pref", Pref},
	{"med", Med},
	{"mark", Mark},
	{"unmark", Unmark},
	{"prepend", Prepend},
	{"if", If},
	{"then", Then},
	{"else", Else},
	{"len", Len},
	{"or", Or},
	{"and", And},
	{"not", Not},
	{"net", Net},
	{"in", In},
	{"path", Path},
	{"like", Like},
	{"marked", Marked},
}

var signs = [...]sign{
	{'=', Equal},
	{';', Semicolon},
	{',', Comma},
	{'{', OpenBrace},
	{'}', ShutBrace},
	{'[', OpenBracket},
	{']', ShutBracket},
	{'(', OpenParen},
	{')', ShutParen},
	{'|', Bar},
	{'*', Star},
	{'?', Question},
	{'+', Plus},
	{'-', Minus},
	{'<', Less},
	{'.', Dot},
}

// wordKind gives a word's kind, and None for what is no word.
func wordKind(text string) Kind {
	for _, w := range words {
		if w.text == text {
			return w.kind
		}
	}
	return None
}

// signKind gives a sign's kind, and None for what is no sign.
func signKind(c byte) Kind {
	for _, s := range signs {
		if s.char == c {
			return s.kind
		}
	}
	return None
}
