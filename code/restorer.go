package code

import (
	"slices"

	"proteus/api"
	"proteus/big"
)

// restorer makes trees of right pieces of code.
type restorer struct {
	all  []api.Code
	vals []api.Val // what the NValues mean
}

// scope returns the NMethod or NBlock of a piece of code.
func (r *restorer) scope(at int) api.Node {
	c := &r.all[at]
	n := api.Node{Kind: api.NMethod, Num: len(c.Names)}
	if c.Block {
		n.Kind = api.NBlock
	}
	for i, name := range c.Names {
		if i < c.Args {
			n.Subs = append(n.Subs, api.Node{Kind: api.NSlot, Text: name, Num: api.SArg})
		} else {
			n.Subs = append(n.Subs, r.variable(name, c.Init[i-c.Args]))
		}
	}
	if !isEmpty(c) {
		n.Subs = append(n.Subs, r.statements(c)...)
	}
	return n
}

func (r *restorer) variable(name string, v api.Val) api.Node {
	n := api.Node{Kind: api.NSlot, Text: name, Num: api.SVar}
	if v != noValue() {
		n.Subs = []api.Node{r.literal(v)}
	}
	return n
}

// isEmpty reports whether a piece of code is that of a scope without statements.
func isEmpty(c *api.Code) bool {
	if len(c.Instrs) != 2 || c.Instrs[1].Op != api.OpRet {
		return false
	}
	if c.Block {
		return c.Instrs[0].Op == api.OpConst && c.Lits[0] == noValue()
	}
	return c.Instrs[0].Op == api.OpSelf
}

// literal returns the node that stands for a value.
func (r *restorer) literal(v api.Val) api.Node {
	if v.K == api.VStr {
		return api.Node{Kind: api.NStr, Text: v.T}
	}
	if text, errno := big.Text(v); errno == api.OK && text[0] != '-' {
		return api.Node{Kind: api.NNum, Text: text}
	}
	return api.Node{Kind: api.NValue, Num: placed(&r.vals, v)}
}

// statements returns the statements of a piece of code. The nodes that wait on the stack are the Subs of those that follow.
func (r *restorer) statements(c *api.Code) []api.Node {
	all := shapes()
	var done, stack []api.Node
	for _, i := range c.Instrs {
		rest := len(stack) - all[i.Op].taken(i)
		subs := slices.Clone(stack[rest:])
		stack = stack[:rest]
		switch {
		case i.Op == api.OpLeave:
			done = append(done, api.Node{Kind: api.NReturn, Subs: subs})
		case i.Op == api.OpPop || i.Op == api.OpRet:
			done = append(done, subs[0])
		default:
			stack = append(stack, r.expression(i, c, subs))
		}
	}
	return done
}

// expression returns the node of an instruction that puts a value on the stack.
func (r *restorer) expression(i api.Instr, c *api.Code, subs []api.Node) api.Node {
	switch i.Op {
	case api.OpConst:
		return r.literal(c.Lits[i.A])
	case api.OpSelf:
		return api.Node{Kind: api.NSelf}
	case api.OpBlock:
		return r.scope(i.A)
	case api.OpSend:
		return api.Node{Kind: api.NSend, Text: c.Sels[i.A], Subs: subs}
	case api.OpImp:
		return api.Node{Kind: api.NImp, Text: c.Sels[i.A], Subs: subs}
	case api.OpPrim:
		return api.Node{Kind: api.NPrim, Text: c.Sels[i.A], Num: i.C, Subs: subs}
	}
	text := c.Sels[i.A]
	if i.C > 0 {
		text = c.Sels[i.C-1] + "." + text
	}
	return api.Node{Kind: api.NResend, Text: text, Subs: subs}
}
