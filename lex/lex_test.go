package lex_test

import (
	"math"
	"slices"
	"strings"
	"testing"

	"proteus/api"
	"proteus/lex"
)

func repeat(s string, n int) string { return strings.Repeat(s, n) }

// tok is a token without a place.
func tok(kind int, text string) api.Token { return api.Token{Kind: kind, Text: text} }

// P1.1, A1

func TestLexExamples(t *testing.T) {
	for _, x := range []struct {
		text string
		want []api.Token
		cols []int
	}{
		{"a: 3 + x'y'", []api.Token{tok(2, "a:"), tok(5, "3"), tok(7, "+"), tok(1, "x"), tok(6, "y")}, []int{1, 4, 6, 8, 9}},
		{"_IntAdd: y IfFail: [", []api.Token{tok(4, "_IntAdd:"), tok(1, "y"), tok(3, "IfFail:"), tok(8, "[")}, []int{1, 10, 12, 20}},
		{"'it''s' \"no\"", []api.Token{tok(6, "it's")}, []int{1}},
		{"a.b", []api.Token{tok(1, "a"), tok(9, "."), tok(1, "b")}, []int{1, 2, 3}},
		{"a. b", []api.Token{tok(1, "a"), tok(8, "."), tok(1, "b")}, []int{1, 2, 4}},
		{"<-", []api.Token{tok(7, "<-")}, []int{1}},
		{":x", []api.Token{tok(8, ":"), tok(1, "x")}, []int{1, 2}},
		{"", nil, nil},
		{" \t\"a\" ", nil, nil},
		{"''''", []api.Token{tok(6, "'")}, []int{1}},
		{"a'b'\"c\"d", []api.Token{tok(1, "a"), tok(6, "b"), tok(1, "d")}, []int{1, 2, 8}},
		{"12a", []api.Token{tok(5, "12"), tok(1, "a")}, []int{1, 3}},
		{"0 ", []api.Token{tok(5, "0")}, []int{1}},
		{"a_B", []api.Token{tok(1, "a"), tok(4, "_B")}, []int{1, 2}},
		{"a::b", []api.Token{tok(2, "a:"), tok(8, ":"), tok(1, "b")}, []int{1, 3, 4}},
		{"3:", []api.Token{tok(5, "3"), tok(8, ":")}, []int{1, 2}},
		{"\"\x00\x80#'\n\"a", []api.Token{tok(1, "a")}, []int{2}},
	} {
		l, errno, index := lex.Lex(x.text)
		if errno != api.OK || index != 0 || !lex.Same(l, x.want) {
			t.Errorf("%q: %v, %v, %d", x.text, l, errno, index)
			continue
		}
		for i, col := range x.cols {
			if l[i].Col != col {
				t.Errorf("%q: Col %d of token %d", x.text, l[i].Col, i)
			}
		}
	}
}

func TestDots(t *testing.T) {
	for text, want := range map[string]int{
		"a.b": 9, "a.B:": 9, "a.b:": 9, "a.+": 9, "a.?": 9, "resend.x": 9,
		"a.": 8, "a.1": 8, "a._B": 8, "a.'b'": 8, "a.(": 8, "a..": 8, "a.\"c\"b": 8, "a.\nb": 8, "a. b": 8,
		"a .b": 8, "a:.b": 8, "A:.b": 8, "_A.b": 8, "1.b": 8, "'a'.b": 8, "+.b": 8, ").b": 8, ".b": 8, "a\"c\".b": 8,
	} {
		l, errno, _ := lex.Lex(text)
		i := slices.IndexFunc(l, func(x api.Token) bool { return x.Text == "." })
		if errno != api.OK || i < 0 || l[i].Kind != want {
			t.Errorf("%q: %v, %v", text, l, errno)
		}
	}
}

func TestLexErrors(t *testing.T) {
	for text, want := range map[string]struct {
		errno api.Errno
		index int
	}{
		"a # b": {api.ErrByte, 2}, "#": {api.ErrByte, 0}, "a,": {api.ErrByte, 1}, "\r": {api.ErrByte, 0}, "a\x00": {api.ErrByte, 1},
		" \x80": {api.ErrByte, 1}, "{": {api.ErrByte, 0}, "a.#": {api.ErrByte, 2}, "\x7f": {api.ErrByte, 0}, "é": {api.ErrByte, 0},
		"'a": {api.ErrOpen, 0}, "a '": {api.ErrOpen, 2}, "'''": {api.ErrOpen, 0}, "'a''": {api.ErrOpen, 0}, "'a\nb'": {api.ErrOpen, 0},
		"x'\t'": {api.ErrOpen, 1}, "'\x7f'": {api.ErrOpen, 0}, "'\x1f'": {api.ErrOpen, 0}, "'é'": {api.ErrOpen, 0}, "'''\n'": {api.ErrOpen, 0},
		"\"": {api.ErrOpen, 0}, "a \"b": {api.ErrOpen, 2}, "\"a\" \"": {api.ErrOpen, 4},
		"Self": {api.ErrWord, 0}, "007": {api.ErrWord, 0}, "00": {api.ErrWord, 0}, "++++": {api.ErrWord, 0}, "x Self.a": {api.ErrWord, 2},
		"_": {api.ErrWord, 0}, "a_": {api.ErrWord, 1}, "_x": {api.ErrWord, 0}, "_:": {api.ErrWord, 0}, "__A": {api.ErrWord, 0},
		"_1A": {api.ErrWord, 0}, "_a:": {api.ErrWord, 0}, "_ A": {api.ErrWord, 0}, "Self#": {api.ErrWord, 0}, "++++ 'a": {api.ErrWord, 0},
		"#++++": {api.ErrByte, 0}, "'a ++++": {api.ErrOpen, 0},
	} {
		l, errno, index := lex.Lex(text)
		if len(l) > 0 || errno != want.errno || index != want.index {
			t.Errorf("%q: %v, %v, %d", text, l, errno, index)
		}
	}
}

func TestLexLimits(t *testing.T) {
	for _, x := range []struct {
		text  string
		count int
		errno api.Errno
		index int
	}{
		{repeat(" ", 20000), 0, api.OK, 0},
		{repeat(" ", 20001), 0, api.ErrLimit, 0},
		{repeat("#", 20001), 0, api.ErrLimit, 0},
		{repeat("; ", 6000), 6000, api.OK, 0},
		{repeat("; ", 6001), 0, api.ErrLimit, 12000},
		{repeat("; ", 6000) + "\"", 0, api.ErrOpen, 12000},
		{repeat("; ", 6000) + "#", 0, api.ErrByte, 12000},
		{repeat("; ", 6000) + "Self", 0, api.ErrWord, 12000},
		{repeat("; ", 6000) + "a Self", 0, api.ErrLimit, 12000},
		{repeat("a", 24), 1, api.OK, 0},
		{repeat("a", 25), 0, api.ErrWord, 0},
		{"a" + repeat("1", 23) + ":", 1, api.OK, 0},
		{"a" + repeat("1", 24) + ":", 0, api.ErrWord, 0},
		{repeat("A", 24) + ":", 1, api.OK, 0},
		{repeat("A", 25) + ":", 0, api.ErrWord, 0},
		{"_" + repeat("A", 24) + ":", 1, api.OK, 0},
		{"_" + repeat("A", 25), 0, api.ErrWord, 0},
		{repeat("9", 400), 1, api.OK, 0},
		{repeat("9", 401), 0, api.ErrWord, 0},
		{"+++", 1, api.OK, 0},
		{"'" + repeat("x", 19998) + "'", 1, api.OK, 0},
	} {
		l, errno, index := lex.Lex(x.text)
		if len(l) != x.count || errno != x.errno || index != x.index {
			t.Errorf("%.20q (%d bytes): %d tokens, %v, %d", x.text, len(x.text), len(l), errno, index)
		}
	}
}

func TestLexAgrees(t *testing.T) {
	for text := range texts() {
		l, errno, index := lex.Lex(text)
		want := divided(text)
		if !slices.Equal(l, want.tokens) || errno != want.errno || index != want.index {
			t.Fatalf("%q: %v, %v, %d; it should be %v", text, l, errno, index, want)
		}
		ends, errno, index := lex.Ends(text)
		if !slices.Equal(ends, want.ends) || errno != want.errno || index != want.index {
			t.Fatalf("Ends of %q: %v, %v, %d; it should be %v", text, ends, errno, index, want)
		}
		if kind := lex.Kind(text); kind != kindOf(text) {
			t.Fatalf("Kind of %q: %d", text, kind)
		}
	}
}

// P1.1, A2 and A3

func TestRightTokens(t *testing.T) {
	for _, x := range []struct {
		token    api.Token
		spelling string
	}{
		{tok(1, "a"), "a"}, {tok(1, repeat("z", 24)), repeat("z", 24)}, {tok(2, "at:"), "at:"}, {tok(3, "Put:"), "Put:"},
		{tok(4, "_A"), "_A"}, {tok(4, "_A1:"), "_A1:"}, {tok(5, "0"), "0"}, {tok(5, repeat("9", 400)), repeat("9", 400)},
		{tok(6, ""), "''"}, {tok(6, "'"), "''''"}, {tok(6, "it's"), "'it''s'"}, {tok(6, " ~\"''"), "' ~\"'''''"},
		{tok(6, repeat("x", 20001)), "'" + repeat("x", 20001) + "'"},
		{tok(7, "+"), "+"}, {tok(7, "<=>"), "<=>"}, {tok(8, "."), "."}, {tok(8, ":"), ":"}, {tok(9, "."), "."},
		{api.Token{Kind: 1, Text: "a", Line: 1, Col: 1}, "a"}, {api.Token{Kind: 6, Text: "a", Line: 20001, Col: 20001}, "'a'"},
	} {
		if errno := lex.Check([]api.Token{x.token}); errno != api.OK {
			t.Errorf("%.40v: %v", x.token, errno)
		}
		if s, errno := lex.Spell(x.token); s != x.spelling || errno != api.OK {
			t.Errorf("%.40v is spelt %.40q, %v", x.token, s, errno)
		}
	}
}

func TestWrongTokens(t *testing.T) {
	for _, x := range []api.Token{
		{}, tok(0, "a"), tok(0, "#"), tok(-1, "a"), tok(10, "a"), tok(math.MinInt, "."), tok(1, ""), tok(1, "A"), tok(1, "a:"), tok(1, "a b"),
		tok(1, " a"), tok(1, "a "), tok(1, "a\"c\""), tok(1, repeat("z", 25)), tok(1, "é"), tok(2, "a"), tok(2, "A:"), tok(2, "a:b:"),
		tok(3, "A"), tok(3, "a:"), tok(4, "A"), tok(4, "_a"), tok(4, "_"), tok(4, "_A:B:"), tok(5, ""), tok(5, "01"), tok(5, "-1"),
		tok(5, repeat("9", 401)), tok(6, "\x1f"), tok(6, "\x7f"), tok(6, "a\n"), tok(6, "\x80"), tok(7, ""), tok(7, "++++"), tok(7, "."),
		tok(8, ""), tok(8, "("+")"), tok(8, "+"), tok(9, ""), tok(9, ":"), tok(9, ".."), tok(6, "é"), tok(1, repeat("a", 20001)),
		{Kind: 1, Text: "a", Line: 1}, {Kind: 1, Text: "a", Col: 1}, {Kind: 1, Text: "a", Line: 20002, Col: 1},
		{Kind: 1, Text: "a", Line: 1, Col: 20002}, {Kind: 1, Text: "a", Line: -1, Col: 1}, {Kind: 1, Text: "a", Line: -1, Col: -1},
		{Kind: 6, Text: "a", Line: 1}, {Kind: 9, Text: ".", Col: 1},
	} {
		if errno := lex.Check([]api.Token{tok(1, "a"), x}); errno != api.ErrToken {
			t.Errorf("%.40v: %v", x, errno)
		}
		if s, errno := lex.Spell(x); s != "" || errno != api.ErrToken {
			t.Errorf("%.40v is spelt %.40q, %v", x, s, errno)
		}
		if s, errno := lex.Print([]api.Token{x}); s != "" || errno != api.ErrToken {
			t.Errorf("%.40v is printed %.40q, %v", x, s, errno)
		}
	}
}

func TestCheckLimit(t *testing.T) {
	l := slices.Repeat([]api.Token{tok(8, ";")}, 6000)
	if lex.Check(l) != api.OK || lex.Check(nil) != api.OK || lex.Check([]api.Token{}) != api.OK {
		t.Error("lists that are right")
	}
	if lex.Check(append(l, tok(8, ";"))) != api.ErrLimit || lex.Check(append(l, tok(0, ""))) != api.ErrLimit {
		t.Error("a token too many")
	}
	if lex.Check([]api.Token{tok(9, "."), tok(9, ".")}) != api.OK {
		t.Error("where a TkDot stands is not asked")
	}
}

// P1.1, A4

func TestPrint(t *testing.T) {
	name, dot, op := tok(1, "a"), tok(9, "."), tok(7, "+")
	for _, x := range []struct {
		list  []api.Token
		want  string
		errno api.Errno
	}{
		{nil, "", api.OK},
		{[]api.Token{name, op, tok(6, "it's"), tok(8, "."), tok(8, ":"), name}, "a + 'it''s' . : a", api.OK},
		{[]api.Token{name, dot, name, dot, op, tok(5, "3")}, "a.a.+ 3", api.OK},
		{[]api.Token{name, dot, tok(2, "b:")}, "a.b:", api.OK},
		{[]api.Token{name, dot, tok(3, "B:")}, "a.B:", api.OK},
		{[]api.Token{name, dot, tok(4, "_B")}, "", api.ErrToken},
		{[]api.Token{name, dot, tok(5, "3")}, "", api.ErrToken},
		{[]api.Token{name, dot, tok(6, "a")}, "", api.ErrToken},
		{[]api.Token{name, dot, tok(6, "")}, "", api.ErrToken},
		{[]api.Token{name, dot, tok(8, ".")}, "", api.ErrToken},
		{[]api.Token{name, dot, dot, name}, "", api.ErrToken},
		{[]api.Token{name, dot}, "", api.ErrToken},
		{[]api.Token{dot, name}, "", api.ErrToken},
		{[]api.Token{dot}, "", api.ErrToken},
		{[]api.Token{tok(2, "a:"), dot, name}, "", api.ErrToken},
		{[]api.Token{tok(4, "_A"), dot, name}, "", api.ErrToken},
		{[]api.Token{op, dot, op}, "", api.ErrToken},
		{slices.Repeat([]api.Token{name}, 6000), repeat("a ", 5999) + "a", api.OK},
		{slices.Repeat([]api.Token{dot}, 6001), "", api.ErrLimit},
		{[]api.Token{tok(6, repeat("x", 19998))}, "'" + repeat("x", 19998) + "'", api.OK},
		{[]api.Token{tok(6, repeat("x", 19999))}, "", api.ErrLimit},
		{[]api.Token{tok(6, repeat("'", 9999))}, repeat("'", 20000), api.OK},
		{[]api.Token{tok(6, repeat("'", 10000))}, "", api.ErrLimit},
		{[]api.Token{tok(6, repeat("x", 19996)), name}, "'" + repeat("x", 19996) + "' a", api.OK},
		{[]api.Token{tok(6, repeat("x", 19997)), name}, "", api.ErrLimit},
		{[]api.Token{tok(6, repeat("x", 20000)), dot}, "", api.ErrToken},
	} {
		given := slices.Clone(x.list)
		if s, errno := lex.Print(x.list); s != x.want || errno != x.errno {
			t.Errorf("%.80v: %.40q, %v", x.list, s, errno)
		}
		if !slices.Equal(given, x.list) {
			t.Errorf("%.80v was changed", given)
		}
	}
}

// P1.1, A5 and A6

func TestKind(t *testing.T) {
	for s, want := range map[string]int{
		"at:Put:": 0, "at:": 2, "'a'": 6, "-": 7, ".": 8, "": 0, "a": 1, "At:": 3, "At": 0, "_At": 4, "_At:": 4, "_At:Put:": 0, "7": 5, "07": 0,
		" a": 0, "a ": 0, "a\n": 0, "\"c\"a": 0, "a\"c\"": 0, "\"c\"": 0, "a.b": 0, "a.": 0, "'a": 0, "'a''": 0, "'a'''": 6, "#": 0, "a#": 0,
		"<-": 7, "++++": 0, "()": 0, "-1": 0, "'\n'": 0, "self": 1,
		"'" + repeat("x", 19998) + "'": 6, "'" + repeat("x", 19999) + "'": 0, repeat("a", 25): 0, repeat("9", 401): 0,
	} {
		if kind := lex.Kind(s); kind != want {
			t.Errorf("%.20q: %d", s, kind)
		}
	}
}

func TestSame(t *testing.T) {
	a := []api.Token{{Kind: 1, Text: "a", Line: 4, Col: -1}, {Kind: -3, Text: "#\x80"}}
	for _, x := range []struct {
		a, b []api.Token
		want bool
	}{
		{a, a, true}, {a, []api.Token{tok(1, "a"), tok(-3, "#\x80")}, true}, {nil, []api.Token{}, true}, {nil, nil, true},
		{a, a[:1], false}, {a[:1], a, false}, {nil, a, false}, {a, nil, false}, {a, []api.Token{tok(1, "a"), tok(-3, "#")}, false},
		{a, []api.Token{tok(2, "a"), tok(-3, "#\x80")}, false}, {a, []api.Token{a[1], a[0]}, false},
		{[]api.Token{tok(8, ".")}, []api.Token{tok(9, ".")}, false}, {make([]api.Token, 6001), make([]api.Token, 6001), true},
	} {
		if lex.Same(x.a, x.b) != x.want {
			t.Errorf("%.40v, %.40v: %v", x.a, x.b, !x.want)
		}
	}
}

// P1.1, A7 to A9

func TestEnds(t *testing.T) {
	for text, want := range map[string][]int{"a 'b' ": {1, 5}, "": nil, "'a'''b.c": {5, 6, 7, 8}, " \"x\" ": nil, "\n_A:b": {4, 5}} {
		if l, errno, index := lex.Ends(text); !slices.Equal(l, want) || errno != api.OK || index != 0 {
			t.Errorf("%q: %v, %v, %d", text, l, errno, index)
		}
	}
	for text, want := range map[string]int{"a #": 2, "#": 0, "b 'a": 2, repeat("; ", 6001): 12000, repeat(" ", 20001): 0} {
		_, wantErrno, _ := lex.Lex(text)
		if l, errno, index := lex.Ends(text); len(l) > 0 || errno != wantErrno || errno == api.OK || index != want {
			t.Errorf("%.20q: %v, %v, %d", text, l, errno, index)
		}
	}
}

func TestAt(t *testing.T) {
	for _, x := range []struct {
		text             string
		index, line, col int
		errno            api.Errno
	}{
		{"a\nbc", 0, 1, 1, api.OK}, {"a\nbc", 1, 1, 2, api.OK}, {"a\nbc", 2, 2, 1, api.OK}, {"a\nbc", 3, 2, 2, api.OK}, {"a\nbc", 4, 2, 3, api.OK},
		{"", 0, 1, 1, api.OK}, {"\n", 1, 2, 1, api.OK}, {"#\r\x80", 3, 1, 4, api.OK}, {"'\n\n'", 3, 3, 1, api.OK},
		{repeat("\n", 30000), 30000, 30001, 1, api.OK},
		{"", 1, 0, 0, api.ErrArg}, {"ab", 3, 0, 0, api.ErrArg}, {"ab", -1, 0, 0, api.ErrArg},
		{"ab", math.MinInt, 0, 0, api.ErrArg}, {"ab", math.MaxInt, 0, 0, api.ErrArg},
	} {
		if line, col, errno := lex.At(x.text, x.index); line != x.line || col != x.col || errno != x.errno {
			t.Errorf("%.20q, %d: %d, %d, %v", x.text, x.index, line, col, errno)
		}
	}
}

func TestToken(t *testing.T) {
	for _, x := range []struct {
		text            string
		index, want, at int
		errno           api.Errno
	}{
		{"ab  cd", 0, 0, 0, api.OK}, {"ab  cd", 1, 0, 0, api.OK}, {"ab  cd", 2, 1, 0, api.OK}, {"ab  cd", 5, 1, 0, api.OK},
		{"\"x\"'a b'c", 0, 0, 0, api.OK}, {"\"x\"'a b'c", 7, 0, 0, api.OK}, {"\"x\"'a b'c", 8, 1, 0, api.OK},
		{"ab  ", 2, 0, 0, api.ErrNone}, {" ", 0, 0, 0, api.ErrNone}, {"a\"b\"", 3, 0, 0, api.ErrNone},
		{"ab", 2, 0, 0, api.ErrArg}, {"ab", -1, 0, 0, api.ErrArg}, {"", 0, 0, 0, api.ErrArg}, {" ", 1, 0, 0, api.ErrArg},
		{"ab", math.MinInt, 0, 0, api.ErrArg}, {"ab", math.MaxInt, 0, 0, api.ErrArg},
		{"a #", -1, 0, 2, api.ErrByte}, {"a #", 0, 0, 2, api.ErrByte}, {"a 'b", 9, 0, 2, api.ErrOpen}, {"a Self", 0, 0, 2, api.ErrWord},
		{repeat(" ", 20001), -1, 0, 0, api.ErrLimit}, {repeat("; ", 6001), 0, 0, 12000, api.ErrLimit},
	} {
		if i, errno, at := lex.Token(x.text, x.index); i != x.want || errno != x.errno || at != x.at {
			t.Errorf("%.20q, %d: %d, %v, %d", x.text, x.index, i, errno, at)
		}
	}
}

// P1.1, A10

func TestEdit(t *testing.T) {
	long := repeat(" ", 19999)
	for _, x := range []struct {
		text       string
		from, to   int
		with, want string
		head, tail int
		errno      api.Errno
		at         int
	}{
		{"ab cd ef", 3, 5, "x", "ab x ef", 1, 1, api.OK, 0},
		{"ab cd", 2, 3, "", "abcd", 0, 0, api.OK, 0},
		{"a\nb c", 2, 2, "z\n", "a\nz\nb c", 1, 2, api.OK, 0},
		{"", 0, 0, "", "", 0, 0, api.OK, 0},
		{"", 0, 0, "a", "a", 0, 0, api.OK, 0},
		{"a b c", 0, 5, "a b c", "a b c", 0, 0, api.OK, 0},
		{"a b c", 2, 2, "", "a b c", 1, 2, api.OK, 0},
		{"a b c", 3, 3, "", "a b c", 1, 1, api.OK, 0},
		{"a b c", 5, 5, "", "a b c", 2, 0, api.OK, 0},
		{"a b c", 0, 0, "", "a b c", 0, 3, api.OK, 0},
		{"a a a", 0, 2, "", "a a", 0, 2, api.OK, 0},
		{"a a a", 4, 5, "a a", "a a a a", 2, 0, api.OK, 0},
		{"a.b", 2, 2, " ", "a. b", 1, 1, api.OK, 0},
		{"a. b", 2, 3, "", "a.b", 1, 1, api.OK, 0},
		{"a .b c", 1, 2, "", "a.b c", 0, 2, api.OK, 0},
		{"x 'a' b", 2, 2, "\"q\"", "x \"q\"'a' b", 1, 2, api.OK, 0},
		{"a 'b' c", 5, 6, "", "a 'b'c", 1, 1, api.OK, 0},
		{"a '' c", 4, 4, "''", "a '''' c", 1, 1, api.OK, 0},
		{"a \"b\" c", 2, 5, "", "a  c", 1, 1, api.OK, 0},
		{"a b", -1, 0, "", "", 0, 0, api.ErrArg, 0}, {"a b", 2, 1, "", "", 0, 0, api.ErrArg, 0}, {"a b", 0, 4, "", "", 0, 0, api.ErrArg, 0},
		{"a #", 4, 4, "", "", 0, 0, api.ErrArg, 0}, {"a", math.MinInt, math.MaxInt, "#", "", 0, 0, api.ErrArg, 0},
		{"a #", 2, 3, "'", "", 0, 0, api.ErrByte, 2}, {"a b", 1, 2, "#", "", 0, 0, api.ErrByte, 1}, {"a 'b' c", 4, 5, "", "", 0, 0, api.ErrOpen, 2},
		{"++ ++", 2, 3, "", "", 0, 0, api.ErrWord, 0}, {"a b", 3, 3, repeat(" ", 20000), "", 0, 0, api.ErrLimit, 0},
		{long, 0, 0, "a", "a" + long, 0, 0, api.OK, 0}, {long, 0, 0, "aa", "", 0, 0, api.ErrLimit, 0}, {long + "  ", 0, 2, "", "", 0, 0, api.ErrLimit, 0},
		{repeat("; ", 6000), 0, 0, ";", "", 0, 0, api.ErrLimit, 11999}, {repeat("; ", 6001), 0, 1, "", "", 0, 0, api.ErrLimit, 12000},
	} {
		s, head, tail, errno, at := lex.Edit(x.text, x.from, x.to, x.with)
		if s != x.want || head != x.head || tail != x.tail || errno != x.errno || at != x.at {
			t.Errorf("%.20q, %d, %d, %.20q: %.40q, %d, %d, %v, %d", x.text, x.from, x.to, x.with, s, head, tail, errno, at)
		}
	}
}
