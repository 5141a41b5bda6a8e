package parse

import "proteus/api"

// body reads variables and statements of a method with arguments.
func (p *parser) body(args []api.Node) api.Node {
	slots := args
	if p.take("|") {
		slots = append(slots, separated(p, api.MaxSlots-len(args), p.variableIfAny)...)
		p.need("|")
	}
	return scopeNode(api.NMethod, slots, p.code())
}

func (p *parser) block() api.Node {
	p.need("[")
	var slots []api.Node
	if p.take("|") {
		slots = p.blockSlots()
		p.need("|")
	}
	n := scopeNode(api.NBlock, slots, p.code())
	p.need("]")
	return n
}

func (p *parser) blockSlots() []api.Node {
	args, variables := 0, false
	return separated(p, api.MaxSlots, func() (api.Node, bool) {
		if args < api.MaxArgs && !variables && p.take(":") {
			args++
			return p.argument(), true
		}
		variables = true
		return p.variableIfAny()
	})
}

func (p *parser) code() []api.Node {
	returned := false
	return separated(p, api.MaxTokens, func() (api.Node, bool) {
		switch {
		case returned:
		case p.take("^"):
			returned = true
			return node(api.NReturn, "", p.expr()), true
		case p.exprBegins():
			return p.expr(), true
		}
		return api.Node{}, false
	})
}

func (p *parser) exprBegins() bool {
	switch t := p.here(); t.Kind {
	case api.TkNum, api.TkStr, api.TkKey, api.TkName:
		return true
	}
	return p.is("(") || p.is("[")
}

func (p *parser) expr() api.Node {
	if p.here().Kind == api.TkKey {
		return p.keywordMessage(api.NImp, "")
	}
	if p.resendBegins() && p.ahead(2).Kind == api.TkKey {
		return p.keywordMessage(api.NResend, p.resendTo())
	}
	n := p.binary()
	switch p.here().Kind {
	case api.TkKey:
		return p.keywordMessage(api.NSend, "", n)
	case api.TkPrim:
		return p.primitive(n)
	}
	return n
}

// keywordMessage reads a message behind its receiver, if it has one.
func (p *parser) keywordMessage(kind int, to string, receiver ...api.Node) api.Node {
	sel, args := p.keyworded(p.expr)
	return node(kind, to+sel, append(receiver, args...)...)
}

// primitive reads a primitive with arguments or with a failure block, behind its receiver.
func (p *parser) primitive(receiver api.Node) api.Node {
	var n api.Node
	if isUnaryPrim(p.here()) {
		n = node(api.NPrim, p.next().Text, receiver)
	} else {
		n = p.keywordMessage(api.NPrim, "", receiver)
	}
	if isFailure(p.here()) {
		p.next()
		n.Num = 1
		n.Subs = append(n.Subs, p.expr())
	}
	return n
}

func (p *parser) binary() api.Node {
	var n api.Node
	op := ""
	if p.resendBegins() && isOperator(p.ahead(2)) {
		to := p.resendTo()
		op = p.next().Text
		n = node(api.NResend, to+op, p.unary())
	} else {
		n = p.unary()
	}
	for isOperator(p.here()) && (op == "" || p.is(op)) {
		op = p.next().Text
		n = node(api.NSend, op, n, p.unary())
	}
	return n
}

func (p *parser) unary() api.Node {
	n := p.primary()
	for {
		switch t := p.here(); {
		case isName(t):
			n = node(api.NSend, p.next().Text, n)
		case isUnaryPrim(t) && !isFailure(p.ahead(1)):
			n = node(api.NPrim, p.next().Text, n)
		default:
			return n
		}
	}
}

func (p *parser) primary() api.Node {
	switch t := p.here(); {
	case t.Kind == api.TkNum:
		return node(api.NNum, p.next().Text)
	case t.Kind == api.TkStr:
		return node(api.NStr, p.next().Text)
	case p.take("self"):
		return node(api.NSelf, "")
	case p.resendBegins():
		to := p.resendTo()
		return node(api.NResend, to+p.needName())
	case isName(t):
		return node(api.NImp, p.next().Text)
	case p.is("["):
		return p.block()
	case p.is("("):
		return p.bracketed()
	}
	p.fail()
	return api.Node{}
}

func (p *parser) bracketed() api.Node {
	if isText(p.ahead(1), "|") {
		return p.object()
	}
	p.need("(")
	n := p.expr()
	p.need(")")
	return n
}

func (p *parser) resendBegins() bool {
	return p.is("resend") || isName(p.here()) && p.ahead(1).Kind == api.TkDot
}

// resendTo reads what stands ahead of the selector of a resend, and returns what stands ahead of it in the Text.
func (p *parser) resendTo() string {
	t := p.next()
	if p.here().Kind != api.TkDot {
		p.fail()
	}
	dot := p.next()
	if isName(t) {
		return t.Text + dot.Text
	}
	return ""
}
