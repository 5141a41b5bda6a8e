package parse_test

import (
	"runtime/debug"
	"slices"
	"strings"
	"testing"

	"proteus/api"
	"proteus/parse"
)

// P2.1, G12 and G13

func TestSelectors(t *testing.T) {
	name, capital := strings.Repeat("a", 24), strings.Repeat("B", 24)+":"
	for sel, want := range map[string]int{
		"at:Put:": 2, "+": 1, "size": 0, "self": -1, "_At:Put:": 2, "resend": -1, "": -1, "=": -1, "<-": -1, "==": 1, "<=>": 1, "++++": -1, "at:": 1, "self:": 1, "resend:": 1, "x1": 0,
		"At:": -1, "at:put:": -1, "at:Put": -1, "at:IfFail:": -1, "ifFail:": 1, "IfFail:": -1, "at:Put:IfFail:": -1, "at:IfFail:Put:": -1, "_At": 0, "_At:": 1, "_At:put:": -1, "_At:IfFail:": -1, "_IfFail:": 1, "_IfFail": 0,
		"_AtPut": 0, "_At_Put": -1, "_at": -1, "at::": -1, ":": -1, "::": -1, ".": -1, "a.b": -1, "a b": -1, " a": -1, "a ": -1, "at: Put:": -1, "3": -1, "'a'": -1, "(": -1, "+:": -1, "a+": -1, "a\x00": -1, "é": -1,
		name: 0, name + "a": -1, name + ":": 1, name + "a:": -1, "a:" + strings.Repeat("B:", 7): 8, "a:" + strings.Repeat("B:", 8): -1, "_A:" + strings.Repeat("B:", 7): 8, "_A:" + strings.Repeat("B:", 8): -1,
		"_A:" + strings.Repeat("a", 20001): -1, strings.Repeat("a:", 1<<20): -1, strings.Repeat(":", 1<<20): -1,
	} {
		if arity := parse.Arity(sel); arity != want {
			t.Errorf("Arity of %.90q: %d", sel, arity)
		}
	}
	for _, x := range []struct {
		sel  string
		want int
	}{
		{name + ":" + capital + capital + "Abcd:", 4}, {name + ":" + capital + capital + "Abcde:", -1}, {name + ":" + capital + capital + "A1:", 4},
		{"_" + strings.ToUpper(name) + ":" + capital + capital + "Abc:", 4}, {"_" + strings.ToUpper(name) + ":" + capital + capital + "Abcd:", -1},
	} {
		if arity := parse.Arity(x.sel); arity != x.want || (len(x.sel) <= 80) != (x.want >= 0) {
			t.Errorf("Arity of %q (%d bytes): %d", x.sel, len(x.sel), arity)
		}
	}
}

func TestParts(t *testing.T) {
	for sel, want := range map[string][]string{"at:Put:": {"at:", "Put:"}, "at:": {"at:"}, "size": {"size"}, "+": {"+"}, "a:B:C:": {"a:", "B:", "C:"}, "self:": {"self:"}} {
		if l, errno := parse.Parts(sel); errno != api.OK || !slices.Equal(l, want) {
			t.Errorf("Parts of %q: %q, %v", sel, l, errno)
		}
	}
	for _, sel := range []string{"", "self", "resend", "=", "<-", "_At", "_At:", "_At:Put:", "At:", "at:put:", "at:IfFail:", "a b", "a.b", strings.Repeat("a", 25), "a:" + strings.Repeat("B:", 8)} {
		if l, errno := parse.Parts(sel); errno != api.ErrArg || len(l) > 0 {
			t.Errorf("Parts of %q: %q, %v", sel, l, errno)
		}
	}
}

// P2.1, G5

func slots(count int, f func(name string) api.Node) []api.Node {
	var l []api.Node
	for range count {
		l = append(l, f("x"))
	}
	return l
}

func times(count int, n api.Node) []api.Node { return slots(count, func(string) api.Node { return n }) }

func plain(name string) api.Node { return variable(name) }

func TestWellFormed(t *testing.T) {
	a := imp("a")
	keys := "a:" + strings.Repeat("B:", 7)
	for _, n := range []api.Node{
		num("0"), num(strings.Repeat("9", 400)), str(""), str(" ~'\""), str(strings.Repeat("x", 30000)), self(), value(0), value(1 << 40), a, imp("+", a), imp(keys, times(8, a)...),
		object(), object(slots(40, plain)...), method(0), method(40, slots(40, plain)...), block(40, slots(40, plain)...), method(8, slots(8, arg)...), block(8, slots(8, arg)...),
		block(9, append(slots(8, arg), variable("x", num("3")))...), block(0, a, a), block(0, ret(a)), method(0, a, ret(a)), block(1, arg("x"), ret(a)), ret(a),
		arg("x"), variable("x"), variable("x", num("3")), variable("x", str("")), variable("x", object()), variable("x", value(3)), variable("x", a), variable("x", send("a", send("b", a))),
		parent("x", a), parentVar("x", a), constant("x", a), constant("x", method(0)), constant("+", method(1, arg("x"))), constant("a:", method(1, arg("x"))), constant("a:B:", method(3, arg("x"), arg("x"), variable("x"))),
		constant("x", method(1, variable("y"))), send("size", a), send("+", a, a), send("at:Put:", a, a, a), send(keys, times(9, a)...), resend("size"), resend("p.size"), resend("p.+", a), resend("p.at:Put:", a, a),
		prim("_A", a), primFail("_A", a, a), prim("_A:B:", a, a, a), primFail("_A:B:", a, a, a, a), send("size", block(0)), send("size", object()), send("size", value(2)), prim("_A", resend("x")),
		object(constant("x", object(constant("y", method(0, object(variable("z")))))), variable("x")),
	} {
		if errno := parse.Check(n); errno != api.OK {
			t.Errorf("%s: %v", shown(n), errno)
		}
	}
}

// leaves are nodes of all kinds, well-formed ones, by themselves.
func leaves() []api.Node {
	a := imp("a")
	return []api.Node{num("3"), str("s"), self(), object(), method(0), block(0), constant("x", a), variable("x"), parent("x", a), arg("x"), send("x", a), a, resend("x"), prim("_A", a), ret(a), value(3)}
}

func TestNotWellFormed(t *testing.T) {
	a := imp("a")
	l := []api.Node{
		{}, {Kind: -1}, {Kind: 14}, {Kind: 1 << 62}, {Kind: -1 << 63}, num(""), num("01"), num("-1"), num("a"), num(strings.Repeat("9", 401)), num(" 1"), str("\n"), str("\x7f"), str("é"), str("\x1f"),
		value(-1), value(1<<40 + 1), imp(""), imp("self"), imp("resend"), imp("A:"), imp("="), imp("a:IfFail:", a, a), imp("_A"), imp("a.b"), imp("a:"+strings.Repeat("B:", 8), times(9, a)...),
		imp("a", a), imp("a:"), imp("a:", a, a), imp("+"), send("a"), send("a", a, a), send("+", a), send("a:", a), send("a:B:", a, a), send("_A", a), send("<-", a, a), send("a.b", a),
		resend("a", a), resend("+"), resend("a:"), resend("p.a", a), resend("resend.a"), resend("self.a"), resend("P.a"), resend(".a"), resend("p."), resend("p.q.a"), resend("p._A"), resend("a:.b"), resend(""),
		prim("_A"), prim("_A", a, a), prim("_A:", a), prim("a", a), prim("_A:IfFail:", a, a, a), primFail("_A", a), primFail("_A:", a, a), primFail("_A", a, a, a), node(11, "_A", 2, a, a), node(11, "_A", -1), node(11, "_A:", -1, a),
		ret(ret(a)), node(12, "", 0), node(12, "", 0, a, a), object(slots(41, plain)...), object(arg("x")), object(a), object(method(0)), object(variable("x"), ret(a)),
		node(5, "", 1), node(5, "", -1), node(5, "", -1, a), node(6, "", 1<<62, a), node(6, "", 2, variable("x")), node(6, "", 1, a), node(6, "", 0, variable("x")), node(6, "", 0, arg("x")), node(6, "", 1, variable("x"), variable("x")),
		method(41, slots(41, plain)...), block(41, slots(41, plain)...), method(9, slots(9, arg)...), block(9, slots(9, arg)...), block(2, variable("x"), arg("x")), block(3, arg("x"), variable("x"), arg("x")),
		block(1, constant("x", a)), block(1, parent("x", a)), method(1, constant("x", method(0))), block(0, ret(a), a), block(0, ret(a), ret(a)), block(0, method(0)), method(0, method(0)), block(0, ret(a), ret(ret(a))),
		node(7, "x", 0), node(7, "x", 6), node(7, "x", -1), node(7, "x", 1), node(7, "x", 3), node(7, "x", 4), node(7, "", 2), node(7, "self", 2), node(7, "x:", 2), node(7, "+", 2), node(7, "self", 5), node(7, "x:", 5), node(7, "X", 5),
		node(7, "x", 5, num("3")), variable("x", a, a), constant("+", a), constant("a:", a), constant("self", a), parent("+", a), parentVar("resend", a), variable("x", method(0)), parent("x", method(0)), parentVar("x", method(0)),
		node(7, "x", 1, a, a), node(7, "x", 1, method(0), method(0)), node(7, "x", 3, a, a), constant("x", method(1, arg("x"))), constant("+", method(0)), constant("a:B:", method(1, arg("x"))), constant("a:", method(2, arg("x"), arg("x"))),
		constant("self", method(0)), constant("_A", method(0)), constant("=", method(1, arg("x"))), constant("x", node(5, "", 1)), constant("a:", node(5, "", 1)), constant("x", self()), variable("x", self()), variable("x", block(0)), variable("x", send("+", a, a)), variable("x", imp("a:", a)),
		variable("x", send("a", self())), variable("x", send("a", num("3"))), variable("x", resend("a")), variable("x", prim("_A", a)), variable("x", send("a", send("b:", a, a))), constant("x", ret(a)), constant("x", variable("x")),
		send("size", method(0)), send("size", variable("x")), send("size", ret(a)), send("+", a, arg("x")), imp("a:", ret(a)), resend("a:", method(0)), primFail("_A", a, ret(a)), ret(method(0)),
	}
	for _, n := range leaves() {
		odd := clone(n)
		if odd.Text == "" {
			odd.Text = "a"
		} else {
			odd.Text += "\x00"
		}
		l = append(l, odd)
		odd = clone(n)
		if odd.Kind != api.NValue {
			odd.Num += 100
			l = append(l, odd)
		}
		if k := n.Kind; k == api.NNum || k == api.NStr || k == api.NSelf || k == api.NValue {
			odd = clone(n)
			odd.Subs = []api.Node{a}
			l = append(l, odd)
		}
	}
	for _, n := range l {
		for _, m := range []api.Node{n, block(0, a, send("size", n)), object(constant("x", method(0, block(0, n), a)))} {
			if errno := parse.Check(m); errno != api.ErrTree {
				t.Errorf("%s: %v", shown(m), errno)
			}
			if l, errno := parse.Tokens(m); errno != api.ErrTree || len(l) > 0 {
				t.Errorf("Tokens of %s: %v", shown(m), errno)
			}
			if _, errno := parse.Free(m); errno != api.ErrTree {
				t.Errorf("Free of %s: %v", shown(m), errno)
			}
		}
	}
}

// Nodes of which each stands in each place of the others: right if the table has it there.
func TestPlacesOfKinds(t *testing.T) {
	isExpr := func(n api.Node) bool { return n.Kind != 5 && n.Kind != 7 && n.Kind != 12 }
	isInit := func(n api.Node) bool {
		return n.Kind == 1 || n.Kind == 2 || n.Kind == 4 || n.Kind == 13 || n.Kind == 9 || n.Kind == 8
	}
	for _, n := range leaves() {
		for _, x := range []struct {
			n  api.Node
			ok bool
		}{
			{send("a", n), isExpr(n)}, {send("+", self(), n), isExpr(n)}, {imp("a:", n), isExpr(n)}, {resend("a:", n), isExpr(n)}, {prim("_A", n), isExpr(n)}, {primFail("_A", self(), n), isExpr(n)}, {ret(n), isExpr(n)},
			{block(0, n), isExpr(n) || n.Kind == 12}, {block(0, n, self()), isExpr(n)}, {method(0, n), isExpr(n) || n.Kind == 12}, {block(0, self(), n), isExpr(n) || n.Kind == 12},
			{object(n), n.Kind == 7 && n.Num != 5}, {block(1, n), n.Kind == 7 && (n.Num == 2 || n.Num == 5)}, {method(1, n), n.Kind == 7 && (n.Num == 2 || n.Num == 5)},
			{variable("y", n), isInit(n)}, {parent("y", n), isInit(n)}, {parentVar("y", n), isInit(n)}, {constant("y", n), isInit(n) || n.Kind == 5},
		} {
			if errno := parse.Check(x.n); (errno == api.OK) != x.ok {
				t.Errorf("%s: %v", shown(x.n), errno)
			}
		}
	}
}

func TestCheckLimits(t *testing.T) {
	a := imp("a")
	wide := func(n int) api.Node { return block(0, times(n-1, a)...) }
	for _, x := range []struct {
		n    api.Node
		want api.Errno
	}{
		{chain(200, toSize, a), api.OK},
		{chain(201, toSize, a), api.ErrLimit},
		{chain(202, toSize, self()), api.ErrLimit},
		{chain(201, toSize, ret(a)), api.ErrTree},
		{wide(12000), api.OK},
		{wide(12001), api.ErrLimit},
		{block(0, wide(11999), ret(ret(a))), api.ErrTree},
		{block(0, wide(11998), a), api.OK},
		{block(0, wide(11999), a), api.ErrLimit},
		{variable("x", chain(199, toSize, a)), api.OK},
		{variable("x", chain(200, toSize, a)), api.ErrLimit},
	} {
		if errno := parse.Check(x.n); errno != x.want {
			t.Errorf("%.80s: %v", shown(x.n), errno)
		}
		if _, errno := parse.Free(x.n); errno != x.want {
			t.Errorf("Free of %.80s: %v", shown(x.n), errno)
		}
		if _, _, errno := parse.Resolve(x.n, []int{5000, -1}); x.want != api.OK && errno != x.want || x.want == api.OK && errno != api.ErrNone {
			t.Errorf("Resolve of %.80s: %v", shown(x.n), errno)
		}
		if _, errno := parse.Rename(x.n, []int{1 << 40}, ""); x.want != api.OK && errno != x.want || x.want == api.OK && errno != api.ErrNone {
			t.Errorf("Rename of %.80s: %v", shown(x.n), errno)
		}
	}
}

// P2.1, G6 to G8, and P2.5

func measured(n api.Node) (int, int) {
	size, depth := 1, 1
	for _, s := range n.Subs {
		subSize, subDepth := measured(s)
		size += subSize
		depth = max(depth, 1+subDepth)
	}
	return size, depth
}

func TestSizes(t *testing.T) {
	trees(500, true, func(m maker, n api.Node, p parser) {
		size, depth := measured(n)
		if parse.Size(n) != size || parse.Depth(n) != depth {
			t.Fatalf("%s: %d, %d", shown(n), parse.Size(n), parse.Depth(n))
		}
	})
	for _, n := range []api.Node{{}, {Kind: -5, Subs: []api.Node{{}, {Subs: []api.Node{{}}}, {Kind: 99}}}, {Num: -1, Subs: []api.Node{}}} {
		size, depth := measured(n)
		if parse.Size(n) != size || parse.Depth(n) != depth {
			t.Errorf("%v: %d, %d", n, parse.Size(n), parse.Depth(n))
		}
	}
}

func TestSame(t *testing.T) {
	odd := api.Node{Kind: -1, Text: "\x00", Num: -7, Subs: []api.Node{{Kind: 99}, {}}}
	var all []api.Node
	all = append(all, leaves()...)
	trees(60, true, func(m maker, n api.Node, p parser) { all = append(all, n) })
	all = append(all, odd, api.Node{})
	for _, a := range all {
		if !parse.Same(a, clone(a)) {
			t.Fatalf("%s is not the same as itself", shown(a))
		}
		for _, b := range all {
			if parse.Same(a, b) != (shown(a) == shown(b)) {
				t.Fatalf("%s, %s: %v", shown(a), shown(b), parse.Same(a, b))
			}
		}
		for _, path := range paths(a) {
			for i := range 4 {
				b := clone(a)
				switch n := at(&b, path); i {
				case 0:
					n.Kind++
				case 1:
					n.Text += "x"
				case 2:
					n.Num++
				case 3:
					n.Subs = append(n.Subs, api.Node{})
				}
				if parse.Same(a, b) || parse.Same(b, a) {
					t.Fatalf("%s, changed at %v", shown(a), path)
				}
			}
		}
	}
	if !parse.Same(api.Node{Kind: 3}, api.Node{Kind: 3, Subs: []api.Node{}}) {
		t.Error("an empty list and nil")
	}
	a, b := num("1"), num("2")
	if parse.Same(send("+", a, b), send("+", b, a)) || parse.Same(block(0, a, b), block(0, a)) {
		t.Error("Subs in another order, or fewer of them")
	}
}

// R1: trees that are much deeper than a tree may be.
func TestDeepTrees(t *testing.T) {
	const depth = 300_000
	defer debug.SetMaxStack(debug.SetMaxStack(1 << 24)) // so that calls within calls would be too many
	n := chain(depth, func(sub api.Node) api.Node { return api.Node{Kind: 8, Text: "x", Subs: []api.Node{sub}} }, imp("a"))
	m := chain(depth, func(sub api.Node) api.Node { return api.Node{Kind: 6, Subs: []api.Node{sub}} }, value(1))
	if parse.Size(n) != depth || parse.Depth(n) != depth || !parse.Same(n, n) || parse.Same(n, m) {
		t.Error("the size of a deep tree")
	}
	if parse.Check(n) != api.ErrLimit || parse.Check(m) != api.ErrLimit || parse.Check(variable("x", n)) != api.ErrLimit {
		t.Error("a deep tree is checked")
	}
	for _, x := range []struct {
		n    api.Node
		want api.Errno
	}{{n, api.ErrLimit}, {variable("x", n), api.ErrLimit}, {m, api.ErrTree}, {method(0, m), api.ErrTree}} {
		if _, errno := parse.Tokens(x.n); errno != x.want {
			t.Errorf("Tokens of a deep tree: %v", errno)
		}
		if _, errno := parse.Print(x.n); errno != x.want {
			t.Errorf("Print of a deep tree: %v", errno)
		}
	}
	if _, errno := parse.Free(n); errno != api.ErrLimit {
		t.Errorf("Free of a deep tree: %v", errno)
	}
	if _, _, errno := parse.Resolve(n, make([]int, depth-1)); errno != api.ErrLimit {
		t.Errorf("Resolve of a deep tree: %v", errno)
	}
	if _, errno := parse.Rename(m, make([]int, depth), "a"); errno != api.ErrLimit {
		t.Errorf("Rename of a deep tree: %v", errno)
	}
	if _, _, errno := parse.Resolve(imp("a"), make([]int, depth)); errno != api.ErrNone {
		t.Errorf("Resolve of a long path: %v", errno)
	}
}
