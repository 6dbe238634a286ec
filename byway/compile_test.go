package byway

import (
	"strings"
	"testing"

	"byway/api"
)

func check(t *testing.T, text string, want api.Errno, place int) {
	t.Helper()
	p, e, at := Compile(text)
	if e != want || at != place || (p != nil) != (want == api.OK) {
		t.Errorf("Compile(%q) = %v, %d, %d, want %d, %d", text, p != nil, e, at, want, place)
	}
}

// checkMark wants the error at the mark "@", which is not of the text.
func checkMark(t *testing.T, marked string, want api.Errno) {
	t.Helper()
	text := strings.Replace(marked, "@", "", 1)
	check(t, text, want, strings.Index(marked, "@"))
}

func TestPolicies(t *testing.T) {
	for _, text := range []string{
		"accept;",
		"reject;accept;",
		"\n accept\n;\n",
		"set a = { 10.0.0.0/8 }; accept;",
		"set a={10.0.0.0/8 8 32,0.0.0.0/0,1.2.3.4/32 32 32};accept;",
		"way a = 1; accept;",
		"way a=1 .(2|3 4)*+?|.7;accept;",
		"way abcdefgh = . * * * ; if path like abcdefgh then { }",
		"pref = 1; med = pref + med - len - ( 0 ); mark 0; unmark 65535; prepend 1;",
		"if len=1then{}",
		"if len = 1 then { accept; } else { reject; accept; } reject;",
		"if len = 1 then { if 1 < 2 then { } else { } } else { if pref = med then { } }",
		"if marked 1 and not marked 2 or [ marked 3 or ( len ) < ( pref ) ] and not not not len + 1 = 2 then { }",
		"set acc = { 1.0.0.0/8 }; way sets = 1; if net in acc or path like sets then { }",
	} {
		check(t, text, api.OK, 0)
	}
}

func TestNoToken(t *testing.T) {
	for _, marked := range []string{
		"@Accept;", "accept@\t;", "accept@:", "accept;@\r\n", "@\x00", "accept;@\xff", "accept; @é", "accept@X;",
		"@abcdefghi = 1;", "@acceptreject;", "way @abcdefghi = 1; accept;", "accept;@/",
		"pref = @01;", "pref = @00;", "pref = @4294967296;", "pref = @1.;", "pref = @1/2;", "pref = 1@>2;",
		"way a = @7.; accept;", "way a = .@7.; accept;", "way a = .@/; accept;",
		"set a = { @10.0.0.1/8 }; accept;", "set a = { @10.0.0.0/33 }; accept;", "set a = { @10.0.0/8 }; accept;", "set a = { 1.0.0.0/8, @1.0.0.0/8.1 }; accept;",
	} {
		checkMark(t, marked, api.ErrSyntax)
	}
}

func TestWrongToken(t *testing.T) {
	for _, marked := range []string{
		"@;", "@a;", "@5;", "@10.0.0.0/8;", "@{ }", "@len = 1;", "@then", "accept;@;", "accept; @set a = { 1.0.0.0/8 };", "accept@5;", "accept @accept;",
		"set @= { 1.0.0.0/8 }; accept;", "set @way = { 1.0.0.0/8 }; accept;", "set a @{ 1.0.0.0/8 }; accept;", "set a = @1.0.0.0/8; accept;", "set a = { @}; accept;", "set a = { @8 }; accept;", "set a = { 1.0.0.0/8 8 @}; accept;", "set a = { 1.0.0.0/8 8 @, 2.0.0.0/8 }; accept;", "set a = { 1.0.0.0/8 8 9 @9 }; accept;", "set a = { 1.0.0.0/8 @2.0.0.0/8 }; accept;", "set a = { 1.0.0.0/8, @}; accept;", "set a = { 1.0.0.0/8 @; accept;", "set a = { 1.0.0.0/8 } @accept;",
		"way a = @; accept;", "way a = @* 1; accept;", "way a = 1 | @; accept;", "way a = 1 | @| 2; accept;", "way a = ( @) ; accept;", "way a = ( 1 @; accept;", "way a = 1 @); accept;", "way a = @a; accept;", "way a = 1 @, 2; accept;", "way a = ( 1 | @) ; accept;", "way a = @1.0.0.0/8; accept;", "way a = @{ 1 }; accept;",
		"pref @1;", "pref @< 1;", "pref = @;", "pref = 1 @2;", "pref = 1 + @;", "pref = @+ 1;", "pref = 1 - @- 1;", "pref = ( @);", "pref = ( 1 @;", "pref = 1 @);", "pref = @[ 1 ];", "pref = @path;", "med = 1 @* 2;",
		"mark @;", "mark @a;", "mark @pref;", "mark @( 1 );", "mark 1 @+ 1;", "unmark @= 1;", "prepend 1 @2;",
		"if @then { }", "if len @then { }", "if len = @then { }", "if len = 1 @= 1 then { }", "if len = 1 @{ }", "if len = 1 then @accept;", "if len = 1 then { } else @accept;", "if len = 1 then { } @;", "if len = 1 then { } else { } @else { }", "if len = 1 then { @set a = { 1.0.0.0/8 }; }",
		"if not @then { }", "if @and len = 1 then { }", "if len = 1 and @or len = 1 then { }", "if len = 1 or @then { }", "if len = 1 @not len = 1 then { }", "if [ @] then { }", "if [ len @] = 1 then { }", "if ( len @= 1 ) then { }", "if [ len = 1 @then { }", "if len = 1 @] then { }",
		"if net @a then { }", "if net in @10.0.0.0/8 then { }", "if net in @in then { }", "if net @like a then { }", "if path @in a then { }", "if path like @1 then { }", "if marked @then { }", "if marked @a then { }", "if marked 1 @2 then { }", "if path @2 then { }",
	} {
		checkMark(t, marked, api.ErrSyntax)
	}
}

// TestAheadOfItsTime: the place is the text's length, blanks counted.
func TestAheadOfItsTime(t *testing.T) {
	for _, text := range []string{
		"", " ", "\n\n", "accept", "accept ", "set", "set a", "set a =", "set a = {", "set a = { 1.0.0.0/8", "set a = { 1.0.0.0/8 8", "set a = { 1.0.0.0/8 8 9", "set a = { 1.0.0.0/8,", "set a = { 1.0.0.0/8 }", "set a = { 1.0.0.0/8 };",
		"way a = 1", "way a = 1 |", "way a = ( 1", "way a = 1; ", "pref", "pref =", "pref = 1", "pref = 1 +", "pref = ( 1", "mark", "mark 1",
		"if", "if not", "if [", "if [ len = 1", "if net", "if net in", "if net in a", "if path like", "if marked", "if len", "if len <", "if len < 1", "if len < 1 or", "if len < 1 then", "if len < 1 then {", "if len < 1 then { accept;", "if len < 1 then { } else", "if len < 1 then { } else { ",
	} {
		check(t, text, api.ErrSyntax, len(text))
	}
}

func TestTextLength(t *testing.T) {
	pad := func(n int, text string) string { return strings.Repeat(" ", n-len(text)) + text }
	check(t, pad(api.MaxText, "accept;"), api.OK, 0)
	check(t, pad(api.MaxText+1, "accept;"), api.ErrLong, 0)
	check(t, pad(api.MaxText, "accept"), api.ErrSyntax, api.MaxText)
	check(t, pad(api.MaxText+1, "accept"), api.ErrLong, 0)
	check(t, strings.Repeat("?", api.MaxText), api.ErrSyntax, 0)
	check(t, strings.Repeat("?", api.MaxText+1), api.ErrLong, 0)
	check(t, strings.Repeat("accept;", 100000), api.ErrLong, 0)
	check(t, strings.Repeat("é", api.MaxText/2+1), api.ErrLong, 0)
}

func TestDefCount(t *testing.T) {
	for _, def := range []string{"way a = 1; ", "set a = { 1.0.0.0/8 }; "} {
		checkMark(t, strings.Repeat(def, api.MaxDefs)+"@"+def+"accept;", api.ErrSyntax)
		checkMark(t, def+strings.Replace(def, " a ", " @a ", 1)+strings.Repeat(def, api.MaxDefs-2)+"accept;", api.ErrName)
	}
	eight := ""
	for _, name := range strings.Fields("a b c d e f g h") {
		eight += "way " + name + " = 1; "
	}
	check(t, eight+"accept;", api.OK, 0)
	checkMark(t, eight+"@set i = { 1.0.0.0/8 }; accept;", api.ErrSyntax)
	check(t, eight+"if path like h then { }", api.OK, 0)
}

// TestNesting: eight of each may be open, and no ninth of any; what is shut
// ahead of it does not count, nor does the brace of a set.
func TestNesting(t *testing.T) {
	rep := strings.Repeat
	for _, n := range []struct{ ahead, open, ninth, within, shut, behind string }{
		{"way a = ", "( ", "@( ", "1 ", ") ", "; accept;"},
		{"pref = ", "( ", "@( ", "1 ", ") ", ";"},
		{"if ", "( ", "@( ", "1 ", ") ", "= 1 then { }"},
		{"if 1 = ", "( ", "@( ", "1 ", ") ", "then { }"},
		{"if ", "[ ", "@[ ", "len = 1 ", "] ", "then { }"},
		{"if ", "not ", "@not ", "len = 1 ", "", "then { }"},
		{"", "if len = 1 then { ", "if len = 1 then @{ ", "", "} ", "accept;"},
		{"", "if len = 1 then { } else { ", "if len = 1 then @{ } else { ", "", "} ", "accept;"},
	} {
		check(t, n.ahead+rep(n.open, 8)+n.within+rep(n.shut, 8)+n.behind, api.OK, 0)
		checkMark(t, n.ahead+rep(n.open, 8)+n.ninth+n.within+rep(n.shut, 9)+n.behind, api.ErrSyntax)
	}
	blocks := func(n int, within string) string { return rep("if len=1then{", n) + within + rep("}", n) }
	check(t, blocks(7, "if not len = 1 then { }"), api.OK, 0)
	check(t, blocks(7, "if ( len ) = 1 and [ len = 1 ] and not len = 1 then { }"), api.OK, 0)
	checkMark(t, blocks(8, "pref = @( 1 );"), api.ErrSyntax)
	checkMark(t, blocks(8, "if @not len = 1 then { }"), api.ErrSyntax)
	checkMark(t, blocks(8, "if @[ len = 1 ] then { }"), api.ErrSyntax)
	checkMark(t, blocks(8, "if len = 1 then @{ }"), api.ErrSyntax)
	checkMark(t, blocks(5, "if not [ not @( len ) = 1 ] then { }"), api.ErrSyntax)
	check(t, "if "+rep("not ", 8)+"len = 1 and "+rep("not ", 8)+"len = 1 then { }", api.OK, 0)
	check(t, "if "+rep("not ", 7)+"[ len = 1 ] or "+rep("[", 7)+"not len = 1"+rep("]", 7)+" then { }", api.OK, 0)
	checkMark(t, "if "+rep("not ", 7)+"[ len = 1 and @not len = 1 ] then { }", api.ErrSyntax)
	check(t, "pref = "+rep("( 1 ) + ", 20)+"1;", api.OK, 0)
	check(t, rep("if len = 1 then { } ", 20), api.OK, 0)
}

func TestNames(t *testing.T) {
	for _, marked := range []string{
		"way a = 1; way b = 1; way @a = 1; accept;",
		"set a = { 1.0.0.0/8 }; set @a = { 1.0.0.0/8 }; accept;",
		"set a = { 1.0.0.0/8 }; way @a = 1; way a = 1; accept;",
		"way a = 1; set @a = { 1.0.0.0/8 }; if net in a then { }",
		"way a = 1; way @a = 1; if net in b then { }",
		"if net in @a then { }",
		"if path like @a then { }",
		"way a = 1; if net in @a then { }",
		"set a = { 1.0.0.0/8 }; if path like @a then { }",
		"set a = { 1.0.0.0/8 }; if net in a and net in @aa then { }",
		"way ab = 1; if path like @a then { }",
		"if len = 1 then { accept; } else { if not [ net in @a ] then { } } if path like a then { }",
	} {
		checkMark(t, marked, api.ErrName)
	}
	check(t, "way a = 1; way a = 1; accept", api.ErrSyntax, 28)
	check(t, "if net in a then { } accept;;", api.ErrSyntax, 28)
	checkMark(t, "way a = 0; prepend 0; mark 65536; if net in @b then { }", api.ErrName)
	checkMark(t, "set a = { 10.0.0.0/8 1 99 }; way @a = 0; accept;", api.ErrName)
}

func TestNumbers(t *testing.T) {
	for _, marked := range []string{
		"way a = @0; accept;", "way a = @65536; accept;", "way a = 1 | ( 2 @4294967295 ); accept;",
		"prepend @0;", "prepend @65536;",
		"mark @65536;", "unmark @65536;", "if marked @65536 then { }", "if len = 1 then { } else { mark @4294967295; }",
		"set a = { 10.0.0.0/8 @7 8 }; accept;", "set a = { 10.0.0.0/8 @0 32 }; accept;", "set a = { 10.0.0.0/8 9 @8 }; accept;", "set a = { 10.0.0.0/8 8 @33 }; accept;", "set a = { 10.0.0.0/8 @33 33 }; accept;", "set a = { 10.0.0.0/8 @33 9 }; accept;", "set a = { 10.0.0.0/8 @7 6 }; accept;", "set a = { 0.0.0.0/0 0 0, 10.0.0.0/8 8 @4294967295 }; accept;",
		"way a = @0; mark 65536;", "mark @65536; prepend 0;", "if marked @65536 then { mark 65536; }",
	} {
		checkMark(t, marked, api.ErrNumber)
	}
	check(t, "way a = 1 65535; set b = { 0.0.0.0/0 0 32, 10.0.0.0/8 8 8, 1.2.3.4/32 32 32 }; accept;", api.OK, 0)
	check(t, "mark 0; mark 65535; unmark 0; unmark 65535; prepend 1; prepend 65535; if marked 0 or marked 65535 then { }", api.OK, 0)
	check(t, "pref = 0; med = 4294967295 + 4294967295; if 0 - 1 < 4294967295 then { }", api.OK, 0)
	check(t, "mark 65536; accept", api.ErrSyntax, 18)
}
