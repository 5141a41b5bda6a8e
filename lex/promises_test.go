package lex_test

import (
	"slices"
	"strings"
	"testing"

	"proteus/api"
	"proteus/lex"
)

// indexOf returns the index in a text of the byte with a place.
func indexOf(text string, line, col int) int {
	at := 0
	for range line - 1 {
		at += strings.IndexByte(text[at:], '\n') + 1
	}
	return at + col - 1
}

// lexed returns the tokens of a text that can be divided.
func lexed(text string) ([]api.Token, bool) {
	l, errno, _ := lex.Lex(text)
	return l, errno == api.OK
}

// P1.2
func TestSpellings(t *testing.T) {
	for text := range texts() {
		l, ok := lexed(text)
		if !ok {
			continue
		}
		ends, _, _ := lex.Ends(text)
		behind := 0
		for i, x := range l {
			from, to := indexOf(text, x.Line, x.Col), ends[i]
			if s, errno := lex.Spell(x); s != text[from:to] || errno != api.OK {
				t.Fatalf("%q: token %d is spelt %q, %v", text, i, s, errno)
			}
			if between, ok := lexed(text[behind:from]); !ok || len(between) > 0 {
				t.Fatalf("%q: ahead of token %d: %v", text, i, between)
			}
			if to < len(text) && lex.Kind(text[from:to+1]) != 0 {
				t.Fatalf("%q: token %d is longer", text, i)
			}
			behind = to
		}
		if rest, ok := lexed(text[behind:]); !ok || len(rest) > 0 {
			t.Fatalf("%q: behind all: %v", text, rest)
		}
	}
}

// P1.3
func TestWrittenAndRead(t *testing.T) {
	for text := range texts() {
		if kind := lex.Kind(text); kind != 0 {
			if l, ok := lexed(text); !ok || len(l) != 1 || l[0].Kind != kind {
				t.Fatalf("%q has Kind %d, and the tokens %v", text, kind, l)
			}
		}
		l, ok := lexed(text)
		if !ok {
			continue
		}
		s, errno := lex.Print(l)
		if again, ok := lexed(s); errno != api.OK || !ok || !lex.Same(l, again) {
			t.Fatalf("%q is printed %q, %v, and read %v", text, s, errno, again)
		}
		for _, x := range l {
			if s, _ := lex.Spell(x); x.Kind != api.TkDot && lex.Kind(s) != x.Kind {
				t.Fatalf("Kind of %q: %d", s, lex.Kind(s))
			}
		}
	}
}

// P1.3: lists of tokens that no text was divided into.
func TestPrintedLists(t *testing.T) {
	some := []api.Token{tok(1, "a"), tok(2, "b:"), tok(3, "C:"), tok(4, "_D"), tok(4, "_E:"), tok(5, "0"), tok(6, "'"), tok(6, ""), tok(7, "<"), tok(8, "."), tok(8, ":"), tok(9, ".")}
	printed := 0
	for code := range over("abcdefghijkl", 4) {
		var l []api.Token
		for _, b := range []byte(code) {
			l = append(l, some[b-'a'])
		}
		s, errno := lex.Print(l)
		if errno != api.OK {
			continue
		}
		printed++
		if again, ok := lexed(s); !ok || !lex.Same(l, again) {
			t.Fatalf("%v is printed %q, and read %v", l, s, again)
		}
	}
	if printed < 11*11*11*11 {
		t.Errorf("only %d lists are printed", printed)
	}
}

// moved checks that a token at the end of a text has moved as an edit makes it.
func moved(t *testing.T, old, fresh api.Token, text string, from, to int, with string) {
	t.Helper()
	want := old
	lastLine := 1 + strings.Count(text[:to], "\n")
	want.Line += strings.Count(with, "\n") - strings.Count(text[from:to], "\n")
	if old.Line == lastLine {
		_, colOld, _ := lex.At(text, to)
		_, colNew, _ := lex.At(text[:from]+with, from+len(with))
		want.Col += colNew - colOld
	}
	if fresh != want {
		t.Fatalf("Edit of %q, %d, %d, %q: %v has become %v", text, from, to, with, old, fresh)
	}
}

// P1.4, and P1.1 of Edit
func TestEdited(t *testing.T) {
	withs := []string{"", "a", " ", "\n", ".", "'", "\"", "a b", "\n\na"}
	try := func(text string, from, to int, with string) {
		s, head, tail, errno, at := lex.Edit(text, from, to, with)
		wantS, wantHead, wantTail, wantErrno, wantAt := edited(text, from, to, with)
		if s != wantS || head != wantHead || tail != wantTail || errno != wantErrno || at != wantAt {
			t.Fatalf("Edit of %q, %d, %d, %q: %q, %d, %d, %v, %d; it should be %q, %d, %d, %v, %d", text, from, to, with, s, head, tail, errno, at, wantS, wantHead, wantTail, wantErrno, wantAt)
		}
		if errno != api.OK {
			return
		}
		old, _ := lexed(text)
		fresh, _ := lexed(s)
		if !slices.Equal(old[:head], fresh[:head]) {
			t.Fatalf("Edit of %q, %d, %d, %q: head %d", text, from, to, with, head)
		}
		for i := 1; i <= tail; i++ {
			moved(t, old[len(old)-i], fresh[len(fresh)-i], text, from, to, with)
		}
	}
	for text := range over("a.' \n", 4) {
		for from := -1; from <= len(text); from++ {
			for to := from; to <= len(text)+1; to++ {
				for _, with := range withs {
					try(text, from, to, with)
				}
			}
		}
	}
	text := "a: x\n \"so\" b.c + 'it''s' . 'y'\n\n_At: 3 IfFail: [ :e | e ]"
	for from := range len(text) + 1 {
		for to := from; to <= len(text); to++ {
			for _, with := range withs {
				try(text, from, to, with)
			}
		}
	}
}

// P1.5
func TestOneBehindTheOther(t *testing.T) {
	var l []string
	for text := range over("a.:'\"\n+", 3) {
		if _, ok := lexed(text); ok {
			l = append(l, text)
		}
	}
	for _, a := range l {
		for _, b := range l {
			first, _ := lexed(a)
			second, _ := lexed(b)
			for i := range second {
				second[i].Line += 1 + strings.Count(a, "\n")
			}
			if both, ok := lexed(a + "\n" + b); !ok || !slices.Equal(both, append(first, second...)) {
				t.Fatalf("%q, %q: %v", a, b, both)
			}
		}
	}
}

// P1.6
func TestPlaces(t *testing.T) {
	for text := range texts() {
		l, ok := lexed(text)
		if !ok {
			continue
		}
		ends, _, _ := lex.Ends(text)
		last := -1
		for i, x := range l {
			from := indexOf(text, x.Line, x.Col)
			if line, col, errno := lex.At(text, from); line != x.Line || col != x.Col || errno != api.OK {
				t.Fatalf("%q: token %d is at %d, %d; At answers %d, %d, %v", text, i, x.Line, x.Col, line, col, errno)
			}
			if from <= last {
				t.Fatalf("%q: token %d is not behind the one ahead of it", text, i)
			}
			for at := last + 1; at < ends[i]; at++ {
				if n, errno, _ := lex.Token(text, at); n != i || errno != api.OK {
					t.Fatalf("%q: the byte %d has the token %d, %v, not %d", text, at, n, errno, i)
				}
			}
			last = ends[i] - 1
		}
		for at := last + 1; at < len(text); at++ {
			if n, errno, _ := lex.Token(text, at); n != 0 || errno != api.ErrNone {
				t.Fatalf("%q: the byte %d has the token %d, %v", text, at, n, errno)
			}
		}
	}
}

// P1.7
func TestErrorsStay(t *testing.T) {
	behind := []string{"", "a", "'", "\"", "\x00", "\n\n", " Self", "++++", "é"}
	for text := range texts() {
		_, errno, index := lex.Lex(text)
		if errno == api.OK {
			continue
		}
		if l, ok := lexed(text[:index]); !ok {
			t.Fatalf("%q: %v, %d; %q can't be divided: %v", text, errno, index, text[:index], l)
		}
		if errno != api.ErrByte {
			continue
		}
		for _, s := range behind {
			if _, errno, at := lex.Lex(text + s); errno != api.ErrByte || at != index {
				t.Fatalf("%q: %v, %d", text+s, errno, at)
			}
		}
	}
}
