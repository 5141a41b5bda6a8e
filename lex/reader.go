package lex

import (
	"bytes"
	"strings"

	"proteus/api"
)

// place is a place in a text, by what is ahead of it.
type place struct {
	index int
	lines int // line feeds
	begin int // where its line begins
}

// pass moves the place behind bytes that follow.
func (p *place) pass(l []byte) {
	for _, b := range l {
		p.index++
		if b == '\n' {
			p.lines++
			p.begin = p.index
		}
	}
}

func (p *place) lineAndCol() (int, int) { return p.lines + 1, p.index - p.begin + 1 }

// span is a token, with the index of its first byte and the one behind its last byte.
type span struct {
	api.Token
	from, to int
}

// fault is what is wrong with a text: reading panics with it.
type fault struct {
	errno api.Errno
	index int
}

// reader reads a text from its beginning on.
type reader struct {
	place
	kinds
	text []byte
	last span // the token ahead of the place
}

// reading does something with a reader of a text, and returns what is wrong with the text.
func reading(text string, do func(r *reader)) (errno api.Errno, index int) {
	if len(text) > api.MaxText {
		return api.ErrLimit, 0
	}
	defer func() {
		if f, ok := recover().(fault); ok {
			errno, index = f.errno, f.index
		}
	}()
	do(&reader{kinds: byteKinds(), text: []byte(text)})
	return api.OK, 0
}

// divide returns the tokens of a text, or what is wrong with it.
func divide(text string) ([]span, api.Errno, int) {
	var l []span
	errno, index := reading(text, func(r *reader) {
		for s := range r.spans {
			if len(l) == api.MaxTokens {
				panic(fault{api.ErrLimit, s.from})
			}
			l = append(l, s)
		}
	})
	if errno != api.OK {
		return nil, errno, index
	}
	return l, api.OK, 0
}

// spans yields the tokens that follow.
func (r *reader) spans(yield func(s span) bool) {
	for r.passBlanks(); r.index < len(r.text); r.passBlanks() {
		r.last = r.next()
		if !yield(r.last) {
			return
		}
	}
}

func (r *reader) rest() []byte { return r.text[r.index:] }

// passBlanks passes over blanks and comments.
func (r *reader) passBlanks() {
blanks:
	for {
		r.pass(r.rest()[:run(r.rest(), r.blank)])
		if r.index == len(r.text) || r.text[r.index] != '"' {
			return
		}
		for i, b := range r.rest()[1:] {
			if b == '"' {
				r.pass(r.rest()[:i+2])
				continue blanks
			}
		}
		panic(fault{api.ErrOpen, r.index})
	}
}

// next reads the token that begins here.
func (r *reader) next() span {
	s := span{from: r.index}
	s.Line, s.Col = r.lineAndCol()
	kind, length := r.measure()
	spelt := r.rest()[:length]
	r.pass(spelt)
	s.Kind, s.Text, s.to = kind, string(spelt), r.index
	if kind == api.TkStr {
		s.Text = strings.ReplaceAll(s.Text[1:length-1], "''", "'")
	}
	return s
}

// measure returns the kind of the token that begins here, and how many bytes its spelling has.
func (r *reader) measure() (int, int) {
	switch b := r.text[r.index]; {
	case r.letter(b) || b == '_':
		return r.word()
	case r.digit(b):
		return r.number()
	case b == '\'':
		return api.TkStr, r.quoted()
	case r.operator(b):
		return r.operation()
	case b == '.' && r.joins():
		return api.TkDot, 1
	case r.sign(b):
		return api.TkSign, 1
	}
	panic(fault{api.ErrByte, r.index})
}

func (r *reader) word() (int, int) {
	rest := r.rest()
	n := 1 + run(rest[1:], r.wordByte)
	if n < len(rest) && rest[n] == ':' {
		n++
	}
	kind := r.wordKind(rest[:n])
	if kind == 0 {
		panic(fault{api.ErrWord, r.index})
	}
	return kind, n
}

// wordKind returns the kind of the token with a word in its spelling; 0, if there is none.
func (r *reader) wordKind(spelt []byte) int {
	word, colon := bytes.CutSuffix(spelt, []byte(":"))
	word, underscore := bytes.CutPrefix(word, []byte("_"))
	if len(word) == 0 || len(word) > api.MaxName {
		return 0
	}
	small, capital := r.small(word[0]), r.capital(word[0])
	switch {
	case capital && underscore:
		return api.TkPrim
	case capital && colon:
		return api.TkCap
	case small && !underscore && colon:
		return api.TkKey
	case small && !underscore:
		return api.TkName
	}
	return 0
}

func (r *reader) number() (int, int) {
	n := run(r.rest(), r.digit)
	if n > api.MaxDigits || n > 1 && r.text[r.index] == '0' {
		panic(fault{api.ErrWord, r.index})
	}
	return api.TkNum, n
}

func (r *reader) operation() (int, int) {
	n := run(r.rest(), r.operator)
	if n > 3 {
		panic(fault{api.ErrWord, r.index})
	}
	return api.TkOp, n
}

// quoted returns how many bytes the spelling of the string has that begins here.
func (r *reader) quoted() int {
	rest := r.rest()
	for n := 1; ; n += 2 {
		n += run(rest[n:], r.inString)
		if n == len(rest) || rest[n] != '\'' {
			panic(fault{api.ErrOpen, r.index})
		}
		if n+1 == len(rest) || rest[n+1] != '\'' {
			return n + 1
		}
	}
}

// joins reports whether the dot that stands here joins the tokens beside it.
func (r *reader) joins() bool {
	behind := r.index + 1
	return r.last.Kind == api.TkName && r.last.to == r.index && behind < len(r.text) && r.joined(r.text[behind])
}
