package parse

import (
	"strings"

	"proteus/api"
	"proteus/lex"
)

// written returns the tokens of a tree, if such a tree can be written.
func written(n *api.Node, such func(n *api.Node) bool, write func(w *writer, n *api.Node)) ([]api.Token, api.Errno) {
	if !wellFormed(n) || !such(n) || !writable(n) {
		return nil, api.ErrTree
	}
	if tooLarge(n) {
		return nil, api.ErrLimit
	}
	w := &writer{}
	write(w, n)
	return w.list, api.OK
}

// hasTokens reports whether a well-formed tree is one that a function for an expression, a slot or a body can have parsed.
func hasTokens(n *api.Node) bool {
	switch n.Kind {
	case api.NMethod:
		return arguments(n) == 0
	case api.NSlot:
		return isObjectSlot(n)
	}
	return isExpression(n)
}

// writable reports whether a well-formed tree has nothing that no tokens stand for.
func writable(root *api.Node) bool {
	for n := range nodes(root) {
		switch n.Kind {
		case api.NValue:
			return false
		case api.NImp:
			if selectorKind(n.Text) == api.TkOp {
				return false
			}
		case api.NSlot:
			if isMethodSlot(n) && nameText(n.Text) && looksLikeObject(&n.Subs[0]) {
				return false
			}
		}
	}
	return true
}

// looksLikeObject reports whether an NMethod would be written as an object with its variables.
func looksLikeObject(n *api.Node) bool { return n.Num > 0 && n.Num == len(n.Subs) }

// writer makes the list of tokens of valid trees.
type writer struct{ list []api.Token }

func (w *writer) put(kind int, text string) {
	w.list = append(w.list, api.Token{Kind: kind, Text: text})
}

// text puts a token whose Text is its spelling.
func (w *writer) text(s string) { w.put(lex.Kind(s), s) }

// root writes the root of a tree.
func (w *writer) root(n *api.Node) {
	switch n.Kind {
	case api.NMethod:
		w.scope(n.Subs, n.Num)
	case api.NSlot:
		w.slot(n)
	default:
		w.expression(n)
	}
}

// separated writes nodes with dots between them.
func (w *writer) separated(l []api.Node, write func(n *api.Node)) {
	for i := range l {
		if i > 0 {
			w.text(".")
		}
		write(&l[i])
	}
}

// slots writes the slots of an object.
func (w *writer) slots(n *api.Node) { w.separated(n.Subs, w.slot) }

// scope writes slots, of which there are so many, and statements.
func (w *writer) scope(l []api.Node, slots int) {
	if slots > 0 {
		w.text("|")
		w.separated(l[:slots], w.slot)
		w.text("|")
	}
	w.separated(l[slots:], w.statement)
}

func (w *writer) statement(n *api.Node) {
	if n.Kind == api.NReturn {
		w.text("^")
		n = &n.Subs[0]
	}
	w.expression(n)
}

// slot writes an NSlot of an object or of a scope.
func (w *writer) slot(n *api.Node) {
	switch {
	case n.Num == api.SArg:
		w.text(":")
		w.text(n.Text)
	case isMethodSlot(n):
		w.methodSlot(n.Text, &n.Subs[0])
	default:
		w.text(n.Text)
		w.initialised(n)
	}
}

// initialised writes what stands behind the name of a slot.
func (w *writer) initialised(n *api.Node) {
	if n.Num == api.SParent || n.Num == api.SParentVar {
		w.text("*")
	}
	if len(n.Subs) == 0 {
		return
	}
	if n.Num == api.SConst || n.Num == api.SParent {
		w.text("=")
	} else {
		w.text("<-")
	}
	w.expression(&n.Subs[0])
}

func (w *writer) methodSlot(sel string, method *api.Node) {
	args := arguments(method)
	for i, part := range split(sel) {
		w.text(part)
		if i < args {
			w.text(method.Subs[i].Text)
		}
	}
	w.text("=")
	w.text("(")
	w.scope(method.Subs[args:], method.Num-args)
	w.text(")")
}

func (w *writer) expression(n *api.Node) {
	switch n.Kind {
	case api.NNum:
		w.text(n.Text)
	case api.NStr:
		w.put(api.TkStr, n.Text)
	case api.NSelf:
		w.text("self")
	case api.NObject:
		w.text("(")
		w.text("|")
		w.slots(n)
		w.text("|")
		w.text(")")
	case api.NBlock:
		w.text("[")
		w.scope(n.Subs, n.Num)
		w.text("]")
	default:
		w.message(n)
	}
}

func (w *writer) message(n *api.Node) {
	at := 0
	operand := func() {
		w.operand(&n.Subs[at], inBrackets(n, at))
		at++
	}
	if n.Kind == api.NSend || n.Kind == api.NPrim {
		operand()
	}
	if n.Kind == api.NResend {
		w.resendTo(n.Text)
	}
	sel := selectorOf(n)
	for left, part := range split(sel) {
		w.text(part)
		if left < Arity(sel) {
			operand()
		}
	}
	if n.Kind == api.NPrim && n.Num == 1 {
		w.text("IfFail:")
		operand()
	}
}

func (w *writer) resendTo(text string) {
	to, _ := cutResend(text)
	if to == "" {
		to = "resend."
	}
	w.text(strings.TrimSuffix(to, "."))
	w.put(api.TkDot, ".")
}

func (w *writer) operand(n *api.Node, brackets bool) {
	if !brackets {
		w.expression(n)
		return
	}
	w.text("(")
	w.expression(n)
	w.text(")")
}

// selectorOf returns the selector of a message, without what stands ahead of that of a resend.
func selectorOf(n *api.Node) string {
	if n.Kind != api.NResend {
		return n.Text
	}
	_, sel := cutResend(n.Text)
	return sel
}

// binds is how loosely the parts of an expression are bound, from that which needs no brackets anywhere on.
type binds int

const (
	bindsUnary binds = iota
	bindsBinary
	bindsKeyword
)

func bindsOf(n *api.Node) binds {
	switch n.Kind {
	case api.NPrim:
		if n.Num == 1 || !isUnaryPrim(spelt(n.Text)) {
			return bindsKeyword
		}
	case api.NSend, api.NImp, api.NResend:
		switch selectorKind(selectorOf(n)) {
		case api.TkOp:
			return bindsBinary
		case api.TkKey:
			return bindsKeyword
		}
	}
	return bindsUnary
}

// inBrackets reports whether brackets stand around the Sub of a message with an index.
func inBrackets(n *api.Node, at int) bool {
	sub := &n.Subs[at]
	switch bindsOf(n) {
	case bindsUnary:
		return bindsOf(sub) != bindsUnary
	case bindsBinary:
		isLeft := n.Kind == api.NSend && at == 0
		return bindsOf(sub) == bindsKeyword || bindsOf(sub) == bindsBinary && !(isLeft && selectorOf(sub) == n.Text)
	}
	if n.Kind == api.NPrim && n.Num == 1 {
		last := len(n.Subs) - 1
		return at < last && bindsOf(sub) == bindsKeyword || at > 0 && at == last-1 && takesFailure(sub)
	}
	return bindsOf(sub) == bindsKeyword
}

// takesFailure reports whether an expression ends with a primitive that a cap IfFail: behind it would belong to.
func takesFailure(n *api.Node) bool {
	if bindsOf(n) == bindsBinary {
		n = &n.Subs[len(n.Subs)-1]
	}
	return n.Kind == api.NPrim && bindsOf(n) == bindsUnary
}
