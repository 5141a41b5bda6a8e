package lex

import (
	"strings"

	"proteus/api"
)

// right reports whether a token is right by itself.
func right(t api.Token) bool {
	unplaced := t.Line == 0 && t.Col == 0
	return (unplaced || mayBePlace(t.Line) && mayBePlace(t.Col)) && rightText(t)
}

func mayBePlace(n int) bool { return 1 <= n && n <= api.MaxText+1 }

func rightText(t api.Token) bool {
	switch t.Kind {
	case api.TkStr:
		k := byteKinds()
		return run([]byte(t.Text), k.shown) == len(t.Text)
	case api.TkDot:
		return t.Text == "."
	case 0: // what Kind answers for no token
		return false
	}
	return Kind(t.Text) == t.Kind
}

// spelling returns the spelling of a right token.
func spelling(t api.Token) string {
	if t.Kind == api.TkStr {
		return "'" + strings.ReplaceAll(t.Text, "'", "''") + "'"
	}
	return t.Text
}

// dotMayStand reports whether the token with an index, a TkDot, has two tokens beside it that it can join.
func dotMayStand(l []api.Token, i int) bool {
	if i == 0 || i+1 == len(l) || l[i-1].Kind != api.TkName {
		return false
	}
	k := byteKinds()
	return k.joined(spelling(l[i+1])[0])
}

func sameToken(a, b api.Token) bool { return a.Kind == b.Kind && a.Text == b.Text }

// sameAtEnd returns how many last tokens of two lists are the same, those of the second one moved by a number of bytes.
func sameAtEnd(a, b []span, moved int) int {
	n := 0
	for n < len(a) && n < len(b) {
		x, y := a[len(a)-1-n], b[len(b)-1-n]
		if !sameToken(x.Token, y.Token) || x.from+moved != y.from {
			break
		}
		n++
	}
	return n
}
