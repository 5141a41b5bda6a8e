package parse

import (
	"proteus/api"
	"proteus/lex"
)

// tokens is a list of tokens with a place in it.
type tokens struct {
	list []api.Token
	at   int
}

// ahead returns the token at a distance from the place; one of no Kind, if there is none.
func (l *tokens) ahead(distance int) api.Token {
	if i := l.at + distance; i < len(l.list) {
		return l.list[i]
	}
	return api.Token{}
}

func (l *tokens) here() api.Token { return l.ahead(0) }

// next passes over the token at the place, which is there.
func (l *tokens) next() api.Token {
	t := l.here()
	l.at++
	return t
}

// fault is that the token with an index cannot stand where it stands: parsing panics with it.
type fault struct{ index int }

func (l *tokens) fail() { panic(fault{l.at}) }

// isText reports whether a token is the one with a text that the grammar quotes.
func isText(t api.Token, text string) bool {
	return t.Text == text && (t.Kind == api.TkName || t.Kind == api.TkOp || t.Kind == api.TkSign)
}

func (l *tokens) is(text string) bool { return isText(l.here(), text) }

// take passes over the token with a text, if it is at the place.
func (l *tokens) take(text string) bool {
	if !l.is(text) {
		return false
	}
	l.at++
	return true
}

func (l *tokens) need(text string) {
	if !l.take(text) {
		l.fail()
	}
}

func (l *tokens) needName() string {
	if !isName(l.here()) {
		l.fail()
	}
	return l.next().Text
}

// parser reads trees from the place in its tokens on. What begins no further element is left to what follows the list: so the error is at the first token that cannot stand there.
type parser struct{ tokens }

// parsed returns the tree of all of a list.
func parsed(l []api.Token, read func(p *parser) api.Node) (n api.Node, errno api.Errno, index int) {
	if lex.Check(l) != api.OK {
		return api.Node{}, api.ErrToken, 0
	}
	defer func() {
		if f, ok := recover().(fault); ok {
			n, errno, index = api.Node{}, api.ErrSyntax, f.index
		}
	}()
	p := &parser{tokens{list: l}}
	n = read(p)
	if p.at < len(l) {
		p.fail()
	}
	if tooLarge(&n) {
		return api.Node{}, api.ErrLimit, 0
	}
	return n, api.OK, 0
}

// separated reads elements, at most so many, with dots between them, and perhaps one behind them, but none behind as many as there may be. An element is false if none begins at the place.
func separated[T any](p *parser, most int, element func() (T, bool)) []T {
	var l []T
	for {
		x, ok := element()
		if !ok {
			return l
		}
		l = append(l, x)
		if len(l) == most || !p.take(".") {
			return l
		}
	}
}

// keyworded reads a key, or a prim with a colon, and caps, with an element behind each of them.
func (p *parser) keyworded(element func() api.Node) (string, []api.Node) {
	sel := p.next().Text
	l := []api.Node{element()}
	for isCap(p.here()) {
		if len(l) == api.MaxArgs || len(sel)+len(p.here().Text) > api.MaxSel {
			p.fail()
		}
		sel += p.next().Text
		l = append(l, element())
	}
	return sel, l
}

func node(kind int, text string, subs ...api.Node) api.Node {
	return api.Node{Kind: kind, Text: text, Subs: subs}
}

func scopeNode(kind int, slots, statements []api.Node) api.Node {
	return api.Node{Kind: kind, Num: len(slots), Subs: append(slots, statements...)}
}

func slotNode(name string, kind int, subs ...api.Node) api.Node {
	return api.Node{Kind: api.NSlot, Text: name, Num: kind, Subs: subs}
}
