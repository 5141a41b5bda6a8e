package parse_test

import (
	"math/rand"
	"slices"
	"strconv"
	"testing"

	"proteus/api"
	"proteus/lex"
	"proteus/parse"
)

// Trees of the tests: short names for nodes, trees of texts, and trees at random.

func node(kind int, text string, num int, subs ...api.Node) api.Node {
	return api.Node{Kind: kind, Text: text, Num: num, Subs: subs}
}

func num(text string) api.Node                        { return node(1, text, 0) }
func str(text string) api.Node                        { return node(2, text, 0) }
func self() api.Node                                  { return node(3, "", 0) }
func object(slots ...api.Node) api.Node               { return node(4, "", 0, slots...) }
func method(slots int, subs ...api.Node) api.Node     { return node(5, "", slots, subs...) }
func block(slots int, subs ...api.Node) api.Node      { return node(6, "", slots, subs...) }
func constant(name string, sub api.Node) api.Node     { return node(7, name, 1, sub) }
func variable(name string, subs ...api.Node) api.Node { return node(7, name, 2, subs...) }
func parent(name string, sub api.Node) api.Node       { return node(7, name, 3, sub) }
func parentVar(name string, sub api.Node) api.Node    { return node(7, name, 4, sub) }
func arg(name string) api.Node                        { return node(7, name, 5) }
func send(sel string, subs ...api.Node) api.Node      { return node(8, sel, 0, subs...) }
func imp(sel string, subs ...api.Node) api.Node       { return node(9, sel, 0, subs...) }
func resend(sel string, subs ...api.Node) api.Node    { return node(10, sel, 0, subs...) }
func prim(sel string, subs ...api.Node) api.Node      { return node(11, sel, 0, subs...) }
func primFail(sel string, subs ...api.Node) api.Node  { return node(11, sel, 1, subs...) }
func ret(sub api.Node) api.Node                       { return node(12, "", 0, sub) }
func value(n int) api.Node                            { return node(13, "", n) }

type parser func(l []api.Token) (api.Node, api.Errno, int)

func parsers() map[string]parser {
	return map[string]parser{"program": parse.Program, "expr": parse.Expr, "body": parse.Body, "slot": parse.Slot}
}

func lexed(t *testing.T, text string) []api.Token {
	t.Helper()
	l, errno, index := lex.Lex(text)
	if errno != api.OK {
		t.Fatalf("%q: %v, %d", text, errno, index)
	}
	return l
}

// tree returns the tree of a text that is right.
func tree(t *testing.T, parse parser, text string) api.Node {
	t.Helper()
	n, errno, index := parse(lexed(t, text))
	if errno != api.OK || index != 0 {
		t.Fatalf("%q: %v, %d", text, errno, index)
	}
	return n
}

func expr(t *testing.T, text string) api.Node {
	t.Helper()
	return tree(t, parse.Expr, text)
}

// shown returns a tree as a text.
func shown(n api.Node) string {
	names := []string{"?", "Num", "Str", "Self", "Object", "Method", "Block", "Slot", "Send", "Imp", "Resend", "Prim", "Return", "Value"}
	s := strconv.Itoa(n.Kind)
	if n.Kind >= 0 && n.Kind < len(names) {
		s = names[n.Kind]
	}
	if n.Text != "" {
		s += " " + strconv.Quote(n.Text)
	}
	if n.Num != 0 {
		s += " #" + strconv.Itoa(n.Num)
	}
	for _, sub := range n.Subs {
		s += " (" + shown(sub) + ")"
	}
	return s
}

func clone(n api.Node) api.Node {
	n.Subs = slices.Clone(n.Subs)
	for i, s := range n.Subs {
		n.Subs[i] = clone(s)
	}
	return n
}

// at returns the node of a tree at a path that leads somewhere.
func at(n *api.Node, path []int) *api.Node {
	for _, i := range path {
		n = &n.Subs[i]
	}
	return n
}

// paths returns the path of each node of a tree, a node ahead of its Subs.
func paths(n api.Node) [][]int {
	l := [][]int{{}}
	for i, s := range n.Subs {
		for _, p := range paths(s) {
			l = append(l, append([]int{i}, p...))
		}
	}
	return l
}

// chain returns a tree of so many nodes, each of them the Sub of the one ahead of it.
func chain(n int, around func(sub api.Node) api.Node, leaf api.Node) api.Node {
	for range n - 1 {
		leaf = around(leaf)
	}
	return leaf
}

func toSize(sub api.Node) api.Node { return send("size", sub) }

// maker makes valid trees at random.
type maker struct {
	*rand.Rand
	values bool // trees may have what no tokens stand for
}

func pick[T any](r *rand.Rand, l ...T) T { return l[r.Intn(len(l))] }

func (m maker) name() string { return pick(m.Rand, "x", "y", "z", "x1") }

func (m maker) many(most int, f func() api.Node) []api.Node {
	var l []api.Node
	for range m.Intn(most + 1) {
		l = append(l, f())
	}
	return l
}

func (m maker) count(n int, f func() api.Node) []api.Node {
	var l []api.Node
	for range n {
		l = append(l, f())
	}
	return l
}

func (m maker) selector() string {
	return pick(m.Rand, "x", "y", "+", "-", "+", "<=>", "x:", "y:", "at:", "at:Put:", "a:B:C:", "self:", "==")
}

func (m maker) expr(depth int) api.Node {
	if depth <= 0 {
		return pick(m.Rand, num("0"), num("17"), str("it's"), self(), imp(m.name()), imp(m.name()), resend("x"), resend("y.size"))
	}
	sub := func() api.Node { return m.expr(depth - 1 - m.Intn(2)) }
	switch m.Intn(12) {
	case 0:
		return m.expr(0)
	case 1:
		return object(m.many(3, func() api.Node { return m.objectSlot(depth - 1) })...)
	case 2:
		return m.scope(6, nil, depth-1)
	case 3, 4, 5, 6:
		sel := m.selector()
		return send(sel, m.count(1+parse.Arity(sel), sub)...)
	case 7:
		sel := m.selector()
		if parse.Arity(sel) == 1 && sel[len(sel)-1] != ':' && !m.values {
			sel = "y:"
		}
		return imp(sel, m.count(parse.Arity(sel), sub)...)
	case 8:
		sel := m.selector()
		return resend(pick(m.Rand, "", "z.")+sel, m.count(parse.Arity(sel), sub)...)
	case 9, 10:
		sel := pick(m.Rand, "_A", "_B", "_C:", "_D:E:")
		fails := m.Intn(2)
		return node(11, sel, fails, m.count(1+parse.Arity(sel)+fails, sub)...)
	}
	if m.values {
		return value(m.Intn(5))
	}
	return m.expr(0)
}

// scope makes an NMethod or NBlock with other slots behind the given ones.
func (m maker) scope(kind int, slots []api.Node, depth int) api.Node {
	if kind == 6 {
		slots = m.many(2, func() api.Node { return arg(m.name()) })
	}
	slots = append(slots, m.many(2, func() api.Node {
		return variable(m.name(), m.many(1, func() api.Node { return m.initial(depth - 1) })...)
	})...)
	statements := m.many(3, func() api.Node { return m.expr(depth - m.Intn(2)) })
	if m.Intn(3) == 0 {
		statements = append(statements, ret(m.expr(depth-1)))
	}
	return node(kind, "", len(slots), append(slots, statements...)...)
}

func (m maker) initial(depth int) api.Node {
	switch m.Intn(6) {
	case 0:
		return num("3")
	case 1:
		return str("a")
	case 2:
		if depth > 0 {
			return object(m.many(3, func() api.Node { return m.objectSlot(depth - 1) })...)
		}
	case 3:
		if m.values {
			return value(2)
		}
	case 4:
		return send(m.name(), send(m.name(), imp(m.name())))
	}
	return imp(m.name())
}

func (m maker) objectSlot(depth int) api.Node {
	switch m.Intn(8) {
	case 0:
		return variable(m.name())
	case 1:
		return variable(m.name(), m.initial(depth))
	case 2:
		return parent(m.name(), m.initial(depth))
	case 3:
		return parentVar(m.name(), m.initial(depth))
	case 4:
		return constant(m.name(), m.initial(depth))
	}
	sel := m.selector()
	n := m.scope(5, m.count(parse.Arity(sel), func() api.Node { return arg(m.name()) }), depth-1)
	if parse.Arity(sel) == 0 && n.Num == len(n.Subs) && !m.values {
		n.Subs = append(n.Subs, self())
	}
	return constant(sel, n)
}

// root makes a tree of a kind for which there are tokens.
func (m maker) root(depth int) (api.Node, parser) {
	switch m.Intn(3) {
	case 0:
		return m.objectSlot(depth), parse.Slot
	case 1:
		return m.scope(5, nil, depth), parse.Body
	}
	return m.expr(depth), parse.Expr
}

// trees calls a function with so many trees at random, the same ones each time.
func trees(count int, values bool, f func(m maker, n api.Node, p parser)) {
	m := maker{rand.New(rand.NewSource(1)), values}
	for range count {
		n, p := m.root(1 + m.Intn(5))
		f(m, n, p)
	}
}
