package parse

import (
	"proteus/api"
	"proteus/lex"
)

// rule tells of the nodes of a kind what each of their fields may be.
type rule struct {
	text func(s string) bool
	num  func(i int) bool
	subs func(n *api.Node) bool
}

// rules returns the rule of each kind.
func rules() [api.NValue + 1]rule {
	return [...]rule{
		api.NNum:    {numberText, noNum, noSubs},
		api.NStr:    {stringText, noNum, noSubs},
		api.NSelf:   {noText, noNum, noSubs},
		api.NObject: {noText, noNum, objectSubs},
		api.NMethod: {noText, slotCount, scopeSubs},
		api.NBlock:  {noText, slotCount, scopeSubs},
		api.NSlot:   {selectorText, slotKind, slotSubs},
		api.NSend:   {selectorText, noNum, sendSubs},
		api.NImp:    {selectorText, noNum, impSubs},
		api.NResend: {resendText, noNum, resendSubs},
		api.NPrim:   {primitiveText, zeroOrOne, primSubs},
		api.NReturn: {noText, noNum, returnSubs},
		api.NValue:  {noText, valueNum, noSubs},
	}
}

func wellFormed(root *api.Node) bool {
	all := rules()
	for n := range nodes(root) {
		if n.Kind < api.NNum || n.Kind > api.NValue {
			return false
		}
		r := &all[n.Kind]
		if !r.text(n.Text) || !r.num(n.Num) || !r.subs(n) {
			return false
		}
	}
	return true
}

func noText(s string) bool { return s == "" }

func numberText(s string) bool { return lex.Kind(s) == api.TkNum }

func stringText(s string) bool {
	return lex.Check([]api.Token{{Kind: api.TkStr, Text: s}}) == api.OK
}

func noNum(i int) bool { return i == 0 }

func zeroOrOne(i int) bool { return i == 0 || i == 1 }

func slotCount(i int) bool { return 0 <= i && i <= api.MaxSlots }

func slotKind(i int) bool { return api.SConst <= i && i <= api.SArg }

func valueNum(i int) bool { return 0 <= i && i <= api.MaxNumber }

func noSubs(n *api.Node) bool { return len(n.Subs) == 0 }

func sendSubs(n *api.Node) bool { return areExpressions(n.Subs, 1+Arity(n.Text)) }

func impSubs(n *api.Node) bool { return areExpressions(n.Subs, Arity(n.Text)) }

func resendSubs(n *api.Node) bool {
	_, sel := cutResend(n.Text)
	return areExpressions(n.Subs, Arity(sel))
}

func primSubs(n *api.Node) bool { return areExpressions(n.Subs, 1+Arity(n.Text)+n.Num) }

func returnSubs(n *api.Node) bool { return areExpressions(n.Subs, 1) }

func areExpressions(l []api.Node, count int) bool {
	return len(l) == count && allOf(l, isExpression)
}

func allOf(l []api.Node, such func(n *api.Node) bool) bool {
	for i := range l {
		if !such(&l[i]) {
			return false
		}
	}
	return true
}

func isExpression(n *api.Node) bool {
	switch n.Kind {
	case api.NNum, api.NStr, api.NSelf, api.NObject, api.NBlock, api.NSend, api.NImp, api.NResend, api.NPrim, api.NValue:
		return true
	}
	return false
}

func objectSubs(n *api.Node) bool {
	return len(n.Subs) <= api.MaxSlots && allOf(n.Subs, isObjectSlot)
}

func scopeSubs(n *api.Node) bool {
	if n.Num > len(n.Subs) {
		return false
	}
	slots, statements := n.Subs[:n.Num], n.Subs[n.Num:]
	args := arguments(n)
	if args > api.MaxArgs || !allOf(slots, isScopeSlot) || !allOf(slots[args:], isVariable) {
		return false
	}
	if last := len(statements) - 1; last >= 0 && statements[last].Kind == api.NReturn {
		statements = statements[:last]
	}
	return allOf(statements, isExpression)
}

// arguments returns how many slots at the beginning of any NMethod or NBlock are arguments.
func arguments(n *api.Node) int {
	args := 0
	for args < n.Num && args < len(n.Subs) && n.Subs[args].Num == api.SArg {
		args++
	}
	return args
}

func slotSubs(n *api.Node) bool { return isObjectSlot(n) || isScopeSlot(n) }

func isObjectSlot(n *api.Node) bool {
	if n.Kind != api.NSlot {
		return false
	}
	switch n.Num {
	case api.SConst:
		return isMethodSlot(n) && Arity(n.Text) == arguments(&n.Subs[0]) || isInitialised(n)
	case api.SParent, api.SParentVar:
		return isInitialised(n)
	}
	return isVariable(n)
}

func isScopeSlot(n *api.Node) bool {
	isArgument := n.Kind == api.NSlot && n.Num == api.SArg && nameText(n.Text) && noSubs(n)
	return isArgument || isVariable(n)
}

func isVariable(n *api.Node) bool {
	return n.Kind == api.NSlot && n.Num == api.SVar && (isInitialised(n) || nameText(n.Text) && noSubs(n))
}

// isMethodSlot reports whether the Sub of an NSlot is an NMethod.
func isMethodSlot(n *api.Node) bool { return len(n.Subs) == 1 && n.Subs[0].Kind == api.NMethod }

func isInitialised(n *api.Node) bool {
	return nameText(n.Text) && len(n.Subs) == 1 && isInitial(&n.Subs[0])
}

func isInitial(n *api.Node) bool {
	switch n.Kind {
	case api.NNum, api.NStr, api.NObject, api.NValue:
		return true
	}
	return isPath(n)
}

func isPath(n *api.Node) bool {
	for n.Kind == api.NSend && len(n.Subs) == 1 && nameText(n.Text) {
		n = &n.Subs[0]
	}
	return n.Kind == api.NImp && len(n.Subs) == 0 && nameText(n.Text)
}
