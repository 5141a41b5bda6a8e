package parse

import (
	"strings"

	"proteus/api"
	"proteus/lex"
)

func isName(t api.Token) bool {
	return t.Kind == api.TkName && t.Text != "self" && t.Text != "resend"
}

func isOperator(t api.Token) bool {
	return t.Kind == api.TkOp && t.Text != "=" && t.Text != "<-"
}

func isFailure(t api.Token) bool { return t.Kind == api.TkCap && t.Text == "IfFail:" }

func isCap(t api.Token) bool { return t.Kind == api.TkCap && !isFailure(t) }

// isUnaryPrim reports whether a token is a primitive selector without arguments.
func isUnaryPrim(t api.Token) bool {
	return t.Kind == api.TkPrim && !strings.HasSuffix(t.Text, ":")
}

// spelt returns the token with a spelling, which has no Kind if there is none.
func spelt(s string) api.Token { return api.Token{Kind: lex.Kind(s), Text: s} }

func nameText(s string) bool { return isName(spelt(s)) }

// split returns the parts of a string that end with a colon, and what is left behind them.
func split(s string) []string {
	l := strings.SplitAfter(s, ":")
	if last := len(l) - 1; last > 0 && l[last] == "" {
		return l[:last]
	}
	return l
}

// selectorKind returns the Kind of the token with which a selector, or a primitive selector, begins; 0 for all other strings.
func selectorKind(s string) int {
	if len(s) > api.MaxSel {
		return 0
	}
	l := split(s)
	first := spelt(l[0])
	if len(l) > api.MaxArgs || !beginsSelector(first) {
		return 0
	}
	for _, part := range l[1:] {
		if !isCap(spelt(part)) {
			return 0
		}
	}
	return first.Kind
}

func beginsSelector(t api.Token) bool {
	return isName(t) || isOperator(t) || t.Kind == api.TkKey || t.Kind == api.TkPrim
}

func selectorText(s string) bool {
	kind := selectorKind(s)
	return kind != 0 && kind != api.TkPrim
}

func primitiveText(s string) bool { return selectorKind(s) == api.TkPrim }

// cutResend returns the name and the dot ahead of the selector of a resend, if they are there, and the selector.
func cutResend(s string) (string, string) {
	dot := strings.IndexByte(s, '.') + 1
	return s[:dot], s[dot:]
}

func resendText(s string) bool {
	to, sel := cutResend(s)
	return selectorText(sel) && (to == "" || nameText(strings.TrimSuffix(to, ".")))
}
