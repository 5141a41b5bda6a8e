package parse

import "proteus/api"

func (p *parser) program() api.Node {
	return api.Node{Kind: api.NObject, Subs: separated(p, api.MaxSlots, p.slotIfAny)}
}

func (p *parser) slotIfAny() (api.Node, bool) {
	if !p.slotBegins() {
		return api.Node{}, false
	}
	return p.slot(), true
}

func (p *parser) slotBegins() bool {
	t := p.here()
	return isName(t) || isOperator(t) || t.Kind == api.TkKey
}

func (p *parser) slot() api.Node {
	switch t := p.here(); {
	case isName(t):
		return p.namedSlot()
	case isOperator(t):
		p.next()
		return p.methodSlot(t.Text, []api.Node{p.argument()})
	case t.Kind == api.TkKey:
		return p.methodSlot(p.keyworded(p.argument))
	}
	p.fail()
	return api.Node{}
}

func (p *parser) argument() api.Node { return slotNode(p.needName(), api.SArg) }

func (p *parser) methodSlot(sel string, args []api.Node) api.Node {
	p.need("=")
	p.need("(")
	return slotNode(sel, api.SConst, p.methodRest(args))
}

// methodRest reads what stands behind the bracket that begins a method.
func (p *parser) methodRest(args []api.Node) api.Node {
	n := p.body(args)
	p.need(")")
	return n
}

func (p *parser) namedSlot() api.Node {
	name := p.needName()
	switch {
	case p.take("*"):
		if p.take("=") {
			return slotNode(name, api.SParent, p.initial())
		}
		p.need("<-")
		return slotNode(name, api.SParentVar, p.initial())
	case p.take("="):
		return slotNode(name, api.SConst, p.constant())
	}
	return p.variableRest(name)
}

// variableRest reads what stands behind the name of a variable.
func (p *parser) variableRest(name string) api.Node {
	if p.take("<-") {
		return slotNode(name, api.SVar, p.initial())
	}
	return slotNode(name, api.SVar)
}

func (p *parser) variableIfAny() (api.Node, bool) {
	if !isName(p.here()) {
		return api.Node{}, false
	}
	return p.variableRest(p.needName()), true
}

func (p *parser) initial() api.Node {
	switch t := p.here(); {
	case t.Kind == api.TkNum:
		return node(api.NNum, p.next().Text)
	case t.Kind == api.TkStr:
		return node(api.NStr, p.next().Text)
	case p.is("("):
		return p.object()
	}
	n := node(api.NImp, p.needName())
	for isName(p.here()) {
		n = node(api.NSend, p.next().Text, n)
	}
	return n
}

func (p *parser) object() api.Node {
	p.need("(")
	p.need("|")
	n := p.program()
	p.need("|")
	p.need(")")
	return n
}

// constant reads what stands behind a name and "=": an initial value or a method.
func (p *parser) constant() api.Node {
	if !p.is("(") {
		return p.initial()
	}
	p.next()
	if !p.take("|") {
		return p.methodRest(nil)
	}
	return p.objectOrMethod()
}

// declared is an NSlot of an object that may be one of a method, too, if it is no more than a variable.
type declared struct {
	api.Node
	variable bool
}

// objectOrMethod reads what stands behind "(" "|": whether it is an object or a method is told by the slots, or not until they have ended.
func (p *parser) objectOrMethod() api.Node {
	var slots []api.Node
	variables := true
	for _, d := range separated(p, api.MaxSlots, p.declaredIfAny) {
		slots = append(slots, d.Node)
		variables = variables && d.variable
	}
	p.need("|")
	if !variables || p.is(")") {
		p.need(")")
		return api.Node{Kind: api.NObject, Subs: slots}
	}
	n := scopeNode(api.NMethod, slots, p.code())
	p.need(")")
	return n
}

func (p *parser) declaredIfAny() (declared, bool) {
	n, ok := p.slotIfAny()
	return declared{n, n.Num == api.SVar}, ok
}
