package code_test

import (
	"fmt"
	"math/rand"
	"slices"
	"strings"
	"testing"

	"proteus/api"
	"proteus/code"
	"proteus/lex"
	"proteus/parse"
)

// What the tests make trees, values and pieces of code of: short names, texts, and chance.

func node(kind int, text string, num int, subs ...api.Node) api.Node {
	return api.Node{Kind: kind, Text: text, Num: num, Subs: subs}
}

func num(text string) api.Node                    { return node(api.NNum, text, 0) }
func str(text string) api.Node                    { return node(api.NStr, text, 0) }
func self() api.Node                              { return node(api.NSelf, "", 0) }
func object(slots ...api.Node) api.Node           { return node(api.NObject, "", 0, slots...) }
func method(slots int, subs ...api.Node) api.Node { return node(api.NMethod, "", slots, subs...) }
func block(slots int, subs ...api.Node) api.Node  { return node(api.NBlock, "", slots, subs...) }
func variable(name string, subs ...api.Node) api.Node {
	return node(api.NSlot, name, api.SVar, subs...)
}
func arg(name string) api.Node                       { return node(api.NSlot, name, api.SArg) }
func send(sel string, subs ...api.Node) api.Node     { return node(api.NSend, sel, 0, subs...) }
func imp(sel string, subs ...api.Node) api.Node      { return node(api.NImp, sel, 0, subs...) }
func resend(sel string, subs ...api.Node) api.Node   { return node(api.NResend, sel, 0, subs...) }
func prim(sel string, subs ...api.Node) api.Node     { return node(api.NPrim, sel, 0, subs...) }
func primFail(sel string, subs ...api.Node) api.Node { return node(api.NPrim, sel, 1, subs...) }
func ret(sub api.Node) api.Node                      { return node(api.NReturn, "", 0, sub) }
func value(n int) api.Node                           { return node(api.NValue, "", n) }

func times(count int, n api.Node) []api.Node { return slices.Repeat([]api.Node{n}, count) }

func whole(n int) api.Val     { return api.Val{K: api.VInt, N: n} }
func large(s string) api.Val  { return api.Val{K: api.VBig, T: s} }
func quoted(s string) api.Val { return api.Val{K: api.VStr, T: s} }
func ref(n int) api.Val       { return api.Val{K: api.VRef, N: n} }

var null = ref(api.ONil)

// methodOf returns the name and the NMethod of a slot, from its text.
func methodOf(t testing.TB, text string) (string, api.Node) {
	t.Helper()
	l, errno, _ := lex.Lex(text)
	n, errnoOf, index := parse.Slot(l)
	if errno != api.OK || errnoOf != api.OK || len(n.Subs) != 1 || n.Subs[0].Kind != api.NMethod {
		t.Fatalf("%q: %v, %v, %d", text, errno, errnoOf, index)
	}
	return n.Text, n.Subs[0]
}

// bodyOf returns the NMethod of a body, from its text.
func bodyOf(t testing.TB, text string) api.Node {
	t.Helper()
	l, errno, _ := lex.Lex(text)
	n, errnoOf, index := parse.Body(l)
	if errno != api.OK || errnoOf != api.OK {
		t.Fatalf("%q: %v, %v, %d", text, errno, errnoOf, index)
	}
	return n
}

// made returns what Gen makes of a tree, with the index 0 first.
func made(t testing.TB, n api.Node, name string, vals ...api.Val) []api.Code {
	t.Helper()
	l, errno := code.Gen(n, name, vals, 0)
	if errno != api.OK {
		t.Fatalf("Gen of %s, %s, %v: %v", brief(n), name, brief(vals), errno)
	}
	return l
}

// ofText returns the pieces of code of the methods of slots, one behind the other.
func ofText(t testing.TB, slots ...string) []api.Code {
	t.Helper()
	var all []api.Code
	for _, text := range slots {
		name, n := methodOf(t, text)
		l, errno := code.Gen(n, name, nil, len(all))
		if errno != api.OK {
			t.Fatalf("%q: %v", text, errno)
		}
		both, errno := code.Join(all, l)
		if errno != api.OK {
			t.Fatalf("Join of %q: %v", text, errno)
		}
		all = both
	}
	return all
}

// clone returns pieces of code that share no memory with others.
func clone(l []api.Code) []api.Code {
	l = slices.Clone(l)
	for i := range l {
		c := &l[i]
		c.Names, c.Init, c.Lits, c.Sels, c.Instrs = slices.Clone(c.Names), slices.Clone(c.Init), slices.Clone(c.Lits), slices.Clone(c.Sels), slices.Clone(c.Instrs)
	}
	return l
}

func cloneTree(n api.Node) api.Node {
	n.Subs = slices.Clone(n.Subs)
	for i := range n.Subs {
		n.Subs[i] = cloneTree(n.Subs[i])
	}
	return n
}

// equal reports whether pieces of code are equal, without the package's help.
func equal(a, b []api.Code) bool { return spelt(a) == spelt(b) }

// spelt returns pieces of code as a text, the same one of empty lists and of nil.
func spelt(l []api.Code) string {
	var b strings.Builder
	for _, c := range l {
		fmt.Fprintf(&b, "%q %t %d %d %q %s %s %q %v\n", c.Name, c.Block, c.Outer, c.Args, c.Names, spelling(c.Init), spelling(c.Lits), c.Sels, c.Instrs)
	}
	return b.String()
}

func spelling(l []api.Val) string {
	s := "["
	for _, v := range l {
		s += fmt.Sprintf("%d %d %q;", v.K, v.N, v.T)
	}
	return s + "]"
}

// brief returns anything as a text that is not too long.
func brief(x any) string {
	s := fmt.Sprintf("%+v", x)
	if l, ok := x.([]api.Code); ok {
		s = spelt(l)
	}
	if len(s) > 1500 {
		return s[:1500] + " .."
	}
	return s
}

func source() *rand.Rand { return rand.New(rand.NewSource(4)) }

func oneOf[T any](r *rand.Rand, l []T) T { return l[r.Intn(len(l))] }

// grower makes trees by chance, with as many nodes as are left, about, and not too deep.
type grower struct {
	*rand.Rand
	vals  []api.Val
	left  int
	depth int
}

// someValues are values of all kinds, some of them twice.
func someValues() []api.Val {
	long := strings.Repeat("1234567890", 4)
	return []api.Val{whole(3), whole(0), whole(-3), whole(-1 << 63), large(long), large("-" + long), quoted("a"), quoted(""), quoted("it's ~ "), null, ref(11), ref(api.MaxNumber), whole(-3), quoted("a"), null, ref(11)}
}

func grown(r *rand.Rand, size int) (string, api.Node, []api.Val) {
	g := &grower{r, someValues(), size, 0}
	n := g.scope(api.NMethod)
	return oneOf(r, [][]string{{"x", "size"}, {"+", "at:", "<="}, {"at:Put:", "x:Y:"}, {"a:B:C:"}}[argsOf(n)]), n, g.vals
}

// argsOf returns how many arguments an NMethod or NBlock has.
func argsOf(n api.Node) int {
	count := 0
	for _, s := range n.Subs {
		if s.Kind == api.NSlot && s.Num == api.SArg {
			count++
		}
	}
	return count
}

func (g *grower) scope(kind int) api.Node {
	var slots, statements []api.Node
	names := []string{"x", "y", "z", "size", "a1", "value"}
	g.Shuffle(len(names), func(i, j int) { names[i], names[j] = names[j], names[i] })
	args, all := g.Intn(4), 0
	if g.Intn(3) > 0 {
		args = 0
	}
	all = args + g.Intn(4)*g.Intn(2)
	for i, name := range names[:min(all, len(names))] {
		if i < args {
			slots = append(slots, arg(name))
		} else if g.Intn(2) == 0 {
			slots = append(slots, variable(name))
		} else {
			slots = append(slots, variable(name, g.literal()))
		}
	}
	for range g.Intn(5) {
		statements = append(statements, g.expression())
	}
	if last := len(statements) - 1; last >= 0 && g.Intn(3) == 0 {
		statements[last] = ret(statements[last])
	}
	return node(kind, "", len(slots), append(slots, statements...)...)
}

func (g *grower) literal() api.Node {
	switch g.Intn(3) {
	case 0:
		return num(oneOf(g.Rand, []string{"0", "3", "17", "9223372036854775807", "9223372036854775808", strings.Repeat("9", 400)}))
	case 1:
		return str(oneOf(g.Rand, []string{"", "a", "it's ~ ", "x", "17"}))
	}
	return value(g.Intn(len(g.vals)))
}

func (g *grower) expressions(count int) []api.Node {
	var l []api.Node
	for range count {
		l = append(l, g.expression())
	}
	return l
}

func (g *grower) expression() api.Node {
	g.left--
	g.depth++
	defer func() { g.depth-- }()
	if g.left < 0 || g.depth > 40 {
		return imp("x")
	}
	sels := []string{"x", "y", "size", "+", "-", "<=", "at:", "x:", "at:Put:", "a:B:C:D:E:F:G:H:"}
	sel := oneOf(g.Rand, sels)
	switch g.Intn(9) {
	case 0:
		return g.literal()
	case 1:
		return self()
	case 2:
		return g.scope(api.NBlock)
	case 3, 4:
		return imp(sel, g.expressions(parse.Arity(sel))...)
	case 5:
		to := oneOf(g.Rand, []string{"", "", "p.", "x.", "size."})
		return resend(to+sel, g.expressions(parse.Arity(sel))...)
	case 6:
		sel = oneOf(g.Rand, []string{"_Clone", "_IntAdd:", "_At:Put:", "_Clone:"})
		fails := g.Intn(2)
		return node(api.NPrim, sel, fails, g.expressions(1+parse.Arity(sel)+fails)...)
	}
	return send(sel, g.expressions(1+parse.Arity(sel))...)
}

// shuffled returns right pieces of code with other indices, in any order in which each block stands behind the piece around it.
func shuffled(r *rand.Rand, l []api.Code) []api.Code {
	var order []int // of the new indices: the old ones
	to := make([]int, len(l))
	ready := []int{}
	for at, c := range l {
		if !c.Block {
			ready = append(ready, at)
		}
	}
	for len(ready) > 0 {
		i := r.Intn(len(ready))
		at := ready[i]
		ready = slices.Delete(ready, i, i+1)
		to[at] = len(order)
		order = append(order, at)
		for inner, c := range l {
			if c.Block && c.Outer == at {
				ready = append(ready, inner)
			}
		}
	}
	var list []api.Code
	for _, at := range order {
		c := clone(l[at : at+1])[0]
		if c.Block {
			c.Outer = to[c.Outer]
		}
		for i, x := range c.Instrs {
			if x.Op == api.OpBlock {
				c.Instrs[i].A = to[x.A]
			}
		}
		list = append(list, c)
	}
	return list
}

// programs yields right pieces of code of several methods, by chance: in the order in which they were made, and in others.
func programs(t testing.TB, count int) func(yield func(l []api.Code) bool) {
	return func(yield func(l []api.Code) bool) {
		r := source()
		for i := range count {
			var all []api.Code
			for range 1 + r.Intn(3) {
				name, n, vals := grown(r, 1+r.Intn(60))
				l, errno := code.Gen(n, name, vals, len(all))
				if errno != api.OK {
					t.Fatalf("Gen of %s: %v", brief(n), errno)
				}
				all, errno = code.Join(all, l)
				if errno != api.OK {
					t.Fatalf("Join of %s: %v", brief(n), errno)
				}
			}
			if i%2 == 1 {
				all = shuffled(r, all)
			}
			if !yield(all) {
				return
			}
		}
	}
}
