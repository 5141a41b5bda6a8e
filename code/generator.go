package code

import (
	"strings"

	"proteus/api"
	"proteus/big"
	"proteus/parse"
)

// output is what is made of a tree, whose NValues mean values.
type output struct {
	vals []api.Val
	list []api.Code
}

// generator makes the code of a scope, which is the piece with an index.
type generator struct {
	api.Code
	*output
	at int
}

// generated returns the pieces of code of a valid NMethod, with indices from 0 on, whether they are within the limits or not.
func generated(n *api.Node, name string, vals []api.Val) []api.Code {
	o := &output{vals: vals}
	o.places(n)
	o.scope(n, name, -1)
	return o.list
}

// places panics unless code can be made of each node of a tree, where it stands.
func (o *output) places(n *api.Node) {
	if !o.hasCode(n) {
		panic(fault(api.ErrPlace))
	}
	for i := range n.Subs {
		o.places(&n.Subs[i])
	}
}

// hasCode reports whether code can be made of a node, as far as it depends on the node and its Subs.
func (o *output) hasCode(n *api.Node) bool {
	switch n.Kind {
	case api.NObject:
		return false
	case api.NMethod, api.NBlock:
		return allDifferent(texts(slots(n)))
	case api.NSlot:
		return len(n.Subs) == 0 || isLiteral(&n.Subs[0])
	case api.NValue:
		return n.Num < len(o.vals)
	}
	return true
}

func isLiteral(n *api.Node) bool {
	return n.Kind == api.NNum || n.Kind == api.NStr || n.Kind == api.NValue
}

// slots returns the NSlots of an NMethod or NBlock.
func slots(n *api.Node) []api.Node { return n.Subs[:n.Num] }

func texts(l []api.Node) []string {
	var ts []string
	for i := range l {
		ts = append(ts, l[i].Text)
	}
	return ts
}

// arguments returns how many NSlots of an NMethod or NBlock are arguments.
func arguments(n *api.Node) int {
	args := 0
	for _, slot := range slots(n) {
		if slot.Num == api.SArg {
			args++
		}
	}
	return args
}

// scope makes the piece of code of an NMethod or NBlock, and behind it those of the blocks in it, and returns its index.
func (o *output) scope(n *api.Node, name string, outer int) int {
	at := len(o.list)
	o.list = append(o.list, api.Code{})
	g := generator{output: o, at: at}
	g.Name, g.Block, g.Outer, g.Args = name, n.Kind == api.NBlock, outer, arguments(n)
	g.Names = texts(slots(n))
	g.initial(slots(n)[g.Args:])
	g.body(n.Subs[n.Num:])
	o.list[at] = g.Code
	return at
}

// initial puts down what variables are at first.
func (g *generator) initial(variables []api.Node) {
	for i := range variables {
		v := noValue()
		if subs := variables[i].Subs; len(subs) > 0 {
			v = g.value(&subs[0])
		}
		g.Init = append(g.Init, v)
	}
}

// value returns the value that an NNum, an NStr or an NValue stands for.
func (g *generator) value(n *api.Node) api.Val {
	switch n.Kind {
	case api.NNum:
		v, _ := big.Of(n.Text)
		return v
	case api.NStr:
		return api.Val{K: api.VStr, T: n.Text}
	}
	return g.vals[n.Num]
}

// emit puts an instruction behind the others. More of them than there may be are not made, as the tables would become long, too.
func (g *generator) emit(i api.Instr) {
	if len(g.Instrs) == api.MaxInstrs {
		panic(fault(api.ErrLimit))
	}
	g.Instrs = append(g.Instrs, i)
}

// body makes the code of statements.
func (g *generator) body(statements []api.Node) {
	end := api.OpRet
	for i := range statements {
		if i > 0 {
			g.emit(api.Instr{Op: api.OpPop})
		}
		n := &statements[i]
		if n.Kind == api.NReturn {
			n = &n.Subs[0]
			if g.Block {
				end = api.OpLeave
			}
		}
		g.expression(n)
	}
	if len(statements) == 0 {
		g.nothing()
	}
	g.emit(api.Instr{Op: end})
}

// nothing makes the code of a scope without statements.
func (g *generator) nothing() {
	if g.Block {
		g.constant(noValue())
	} else {
		g.emit(api.Instr{Op: api.OpSelf})
	}
}

func (g *generator) constant(v api.Val) {
	g.emit(api.Instr{Op: api.OpConst, A: placed(&g.Lits, v)})
}

func (g *generator) expression(n *api.Node) {
	switch n.Kind {
	case api.NNum, api.NStr, api.NValue:
		g.constant(g.value(n))
	case api.NSelf:
		g.emit(api.Instr{Op: api.OpSelf})
	case api.NBlock:
		at := g.scope(n, blockName(arguments(n)), g.at)
		g.emit(api.Instr{Op: api.OpBlock, A: at})
	default:
		g.message(n)
	}
}

func (g *generator) message(n *api.Node) {
	for i := range n.Subs {
		g.expression(&n.Subs[i])
	}
	switch n.Kind {
	case api.NSend:
		g.send(api.OpSend, n.Text, 0)
	case api.NImp:
		g.send(api.OpImp, n.Text, 0)
	case api.NPrim:
		g.send(api.OpPrim, n.Text, n.Num)
	case api.NResend:
		g.resend(n.Text)
	}
}

func (g *generator) send(op int, sel string, c int) {
	g.emit(api.Instr{Op: op, A: placed(&g.Sels, sel), B: parse.Arity(sel), C: c})
}

// resend makes a resend of a selector, with a name and a dot ahead of it or not.
func (g *generator) resend(text string) {
	name, sel, directed := strings.Cut(text, ".")
	if !directed {
		g.send(api.OpResend, text, 0)
		return
	}
	// The selector has its place in the table ahead of the name.
	placed(&g.Sels, sel)
	g.send(api.OpResend, sel, placed(&g.Sels, name)+1)
}

// placed returns the index of a thing in a table, in which it is put if it is not there.
func placed[T comparable](table *[]T, x T) int {
	at := find(*table, x)
	if at == len(*table) {
		*table = append(*table, x)
	}
	return at
}
