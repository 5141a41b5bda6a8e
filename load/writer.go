package load

import (
	"proteus/api"
	"proteus/big"
	"proteus/code"
)

// writer makes trees of objects, a node ahead of its Subs.
type writer struct {
	api.World
	ways
	open         map[int]bool // the objects within whose trees it is
	nodes, depth int
}

func newWriter(w api.World) *writer { return &writer{World: w, ways: waysIn(w), open: map[int]bool{}} }

// noTree ends making where something has no tree.
func noTree() { panic(fault{errno: api.ErrName}) }

// node makes a node, and then its Subs, if it has some.
func (k *writer) node(kind int, text string, num int, subs func() []api.Node) api.Node {
	demandLimit(k.nodes < api.MaxNodes && k.depth < api.MaxDepth)
	k.nodes++
	n := api.Node{Kind: kind, Text: text, Num: num}
	if subs != nil {
		k.depth++
		n.Subs = subs()
		k.depth--
	}
	return n
}

// object makes the NObject of a KPlain.
func (k *writer) object(o *api.Obj) api.Node {
	k.open[o.Oid] = true
	n := k.node(api.NObject, "", 0, func() []api.Node { return each(o.Slots, k.slot) })
	delete(k.open, o.Oid)
	return n
}

func (k *writer) slot(s *api.Slot) api.Node {
	if s.Kind == api.SVar && s.V == reference(api.ONil) {
		return k.node(api.NSlot, s.Name, s.Kind, nil)
	}
	return k.node(api.NSlot, s.Name, s.Kind, func() []api.Node {
		if s.V.K == api.VMeth {
			return []api.Node{k.method(s.V.N)}
		}
		return []api.Node{k.value(s.V)}
	})
}

// value makes the tree of a value.
func (k *writer) value(v api.Val) api.Node {
	switch v.K {
	case api.VRef:
		if names := k.names(v.N); len(names) > 0 {
			return k.path(names)
		}
		return k.literal(v)
	case api.VStr:
		return k.node(api.NStr, v.T, 0, nil)
	}
	text, _ := big.Text(v)
	if text[0] == '-' {
		noTree()
	}
	return k.node(api.NNum, text, 0, nil)
}

func (k *writer) path(names []string) api.Node {
	last := len(names) - 1
	if last == 0 {
		return k.node(api.NImp, names[0], 0, nil)
	}
	return k.node(api.NSend, names[last], 0, func() []api.Node { return []api.Node{k.path(names[:last])} })
}

// literal makes the tree of an object itself, whether it has names or not.
func (k *writer) literal(v api.Val) api.Node {
	if v.K != api.VRef || k.open[v.N] {
		noTree()
	}
	at, _ := place(&k.World, v.N)
	if k.Objs[at].Kind != api.KPlain {
		noTree()
	}
	return k.object(&k.Objs[at])
}

// method makes the NMethod of a piece of code.
func (k *writer) method(at int) api.Node {
	n, vals, errno := code.Tree(k.Codes, at)
	demand(errno)
	return k.scope(&n, vals)
}

// scope makes the tree of an NMethod or NBlock whose NValues mean values.
func (k *writer) scope(n *api.Node, vals []api.Val) api.Node {
	slots, statements := n.Subs[:n.Num], n.Subs[n.Num:]
	s := scope{k, vals, map[int]int{}}
	s.count(statements)
	return k.node(n.Kind, "", n.Num, func() []api.Node {
		variables := each(slots, s.variable)
		return append(variables, each(statements, s.expression)...)
	})
}

// scope is an NMethod or NBlock whose tree is made.
type scope struct {
	*writer
	vals  []api.Val
	times map[int]int // how often values stand in its statements
}

// count counts the NValues in statements, but for those in blocks, which are other scopes.
func (s *scope) count(l []api.Node) {
	for i := range l {
		switch l[i].Kind {
		case api.NValue:
			s.times[l[i].Num]++
		case api.NBlock:
		default:
			s.count(l[i].Subs)
		}
	}
}

func (s *scope) variable(n *api.Node) api.Node {
	if len(n.Subs) == 0 {
		return s.node(n.Kind, n.Text, n.Num, nil)
	}
	return s.node(n.Kind, n.Text, n.Num, func() []api.Node {
		sub := &n.Subs[0]
		if sub.Kind == api.NValue {
			return []api.Node{s.value(s.vals[sub.Num])}
		}
		return []api.Node{s.expression(sub)}
	})
}

// expression makes the tree of a statement, or of a part of one.
func (s *scope) expression(n *api.Node) api.Node {
	switch n.Kind {
	case api.NBlock:
		return s.scope(n, s.vals)
	case api.NValue:
		// If it were written twice, there would be two objects.
		if s.times[n.Num] > 1 {
			noTree()
		}
		return s.literal(s.vals[n.Num])
	}
	return s.node(n.Kind, n.Text, n.Num, func() []api.Node { return each(n.Subs, s.expression) })
}
