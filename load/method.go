package load

import (
	"proteus/api"
	"proteus/code"
)

// manner tells what is done with the nodes of a Kind.
type manner struct {
	value   func(l *loader, n *api.Node) api.Val  // of one that is an initial value: what it means
	instead func(m *method, n *api.Node) api.Node // of one within a method: what stands in its place when code is made
}

// manners returns the manner of each Kind.
func manners() [api.NValue + 1]manner {
	return [...]manner{
		api.NNum:    {(*loader).number, (*method).same},
		api.NStr:    {(*loader).text, (*method).same},
		api.NSelf:   {nil, (*method).same},
		api.NObject: {(*loader).object, (*method).meant},
		api.NMethod: {nil, (*method).same},
		api.NBlock:  {nil, (*method).same},
		api.NSlot:   {nil, (*method).variable},
		api.NSend:   {(*loader).path, (*method).same},
		api.NImp:    {(*loader).path, (*method).same},
		api.NResend: {nil, (*method).same},
		api.NPrim:   {nil, (*method).same},
		api.NReturn: {nil, (*method).same},
		api.NValue:  {(*loader).nothing, (*method).meant},
	}
}

// method changes the tree of a method: NValues come in the place of what has no code.
type method struct {
	*loader
	vals []api.Val // what the NValues mean
}

// method puts the code of an NMethod behind the code that is there, and returns its index.
func (l *loader) method(n *api.Node, name string) int {
	m := &method{loader: l}
	tree := m.node(n)
	at := len(l.Codes)
	pieces, errno := code.Gen(tree, name, m.vals, at)
	demand(errno)
	l.Codes = append(l.Codes, pieces...)
	return at
}

func (m *method) node(n *api.Node) api.Node { return m.manners[n.Kind].instead(m, n) }

// same returns a node in which it is the Subs that change.
func (m *method) same(n *api.Node) api.Node {
	return api.Node{Kind: n.Kind, Text: n.Text, Num: n.Num, Subs: each(n.Subs, m.node)}
}

// meant returns the NValue that means the value of a node.
func (m *method) meant(n *api.Node) api.Node {
	v := m.value(n)
	m.vals = append(m.vals, v)
	return api.Node{Kind: api.NValue, Num: len(m.vals) - 1}
}

// variable returns the NSlot of a scope. Paths are initial values here alone; elsewhere they are messages.
func (m *method) variable(n *api.Node) api.Node {
	initial := func(sub *api.Node) api.Node {
		if sub.Kind == api.NSend || sub.Kind == api.NImp {
			return m.meant(sub)
		}
		return m.node(sub)
	}
	return api.Node{Kind: n.Kind, Text: n.Text, Num: n.Num, Subs: each(n.Subs, initial)}
}
