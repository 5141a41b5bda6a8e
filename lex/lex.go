// Package lex divides texts into tokens, and tells which tokens stay when a text changes.
package lex

import (
	"strings"

	"proteus/api"
)

// Lex returns the tokens of a text, or what is wrong with it and the index of the byte where it is.
func Lex(text string) ([]api.Token, api.Errno, int) {
	spans, errno, index := divide(text)
	var l []api.Token
	for _, s := range spans {
		l = append(l, s.Token)
	}
	return l, errno, index
}

// Check returns OK if all tokens of a list are right, and there are not too many.
func Check(l []api.Token) api.Errno {
	if len(l) > api.MaxTokens {
		return api.ErrLimit
	}
	if run(l, right) < len(l) {
		return api.ErrToken
	}
	return api.OK
}

// Spell returns the spelling of a token.
func Spell(t api.Token) (string, api.Errno) {
	if !right(t) {
		return "", api.ErrToken
	}
	return spelling(t), api.OK
}

// Print returns the spellings of tokens as a text that Lex divides into them again.
func Print(l []api.Token) (string, api.Errno) {
	if errno := Check(l); errno != api.OK {
		return "", errno
	}
	var b strings.Builder
	for i, t := range l {
		if t.Kind == api.TkDot {
			if !dotMayStand(l, i) {
				return "", api.ErrToken
			}
		} else if i > 0 && l[i-1].Kind != api.TkDot {
			b.WriteByte(' ')
		}
		b.WriteString(spelling(t))
	}
	if b.Len() > api.MaxText {
		return "", api.ErrLimit
	}
	return b.String(), api.OK
}

// Kind returns the Kind of the token with a spelling, or 0 if there is none.
func Kind(s string) int {
	if s == "" {
		return 0
	}
	kind := 0
	reading(s, func(r *reader) {
		if k, length := r.measure(); length == len(s) {
			kind = k
		}
	})
	return kind
}

// Same reports whether two lists of tokens are equal but for places.
func Same(a, b []api.Token) bool {
	if len(a) != len(b) {
		return false
	}
	for i, t := range a {
		if !sameToken(t, b[i]) {
			return false
		}
	}
	return true
}

// Ends returns, for each token of a text, the index behind its last byte.
func Ends(text string) ([]int, api.Errno, int) {
	spans, errno, index := divide(text)
	var l []int
	for _, s := range spans {
		l = append(l, s.to)
	}
	return l, errno, index
}

// At returns Line and Col of the byte with an index, or of the end.
func At(text string, index int) (int, int, api.Errno) {
	if index < 0 || index > len(text) {
		return 0, 0, api.ErrArg
	}
	var p place
	p.pass([]byte(text[:index]))
	line, col := p.lineAndCol()
	return line, col, api.OK
}

// Token returns the index of the token that has the byte with an index, or of the next one behind it.
func Token(text string, index int) (int, api.Errno, int) {
	l, errno, at := divide(text)
	if errno != api.OK {
		return 0, errno, at
	}
	if index < 0 || index >= len(text) {
		return 0, api.ErrArg, 0
	}
	i := run(l, func(s span) bool { return s.to <= index })
	if i == len(l) {
		return 0, api.ErrNone, 0
	}
	return i, api.OK, 0
}

// Edit returns a text with other bytes in place of those from one index up to another one, and how many tokens at its beginning and at its end stay.
func Edit(text string, from, to int, with string) (string, int, int, api.Errno, int) {
	if from < 0 || to < from || to > len(text) {
		return "", 0, 0, api.ErrArg, 0
	}
	old, errno, index := divide(text)
	if errno != api.OK {
		return "", 0, 0, errno, index
	}
	edited := text[:from] + with + text[to:]
	fresh, errno, index := divide(edited)
	if errno != api.OK {
		return "", 0, 0, errno, index
	}
	// The byte behind a token decides where it ends, so that byte must stay, too.
	head := run(old, func(s span) bool { return s.to < from })
	// Tokens of the head begin ahead of the byte with the index to, so the tail has none of them.
	ahead := run(old, func(s span) bool { return s.from < to })
	tail := sameAtEnd(old[ahead:], fresh, len(edited)-len(text))
	return edited, head, tail, api.OK, 0
}
