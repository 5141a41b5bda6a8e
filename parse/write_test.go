package parse_test

import (
	"slices"
	"strings"
	"testing"

	"proteus/api"
	"proteus/lex"
	"proteus/parse"
)

// P2.1, G9 to G11

// printed checks that a tree is written as a text, and is parsed from it.
func printed(t *testing.T, n api.Node, want string) {
	t.Helper()
	l, errno := parse.Tokens(n)
	if errno != api.OK || !lex.Same(l, lexed(t, want)) {
		t.Errorf("%s is written %v, %v; it should be %q", shown(n), l, errno, want)
	}
	for _, x := range l {
		if x.Line != 0 || x.Col != 0 {
			t.Errorf("%s has the token %v", shown(n), x)
		}
	}
	if s, errno := parse.Print(n); errno != api.OK || s != want {
		t.Errorf("%s is printed %q, %v; it should be %q", shown(n), s, errno, want)
	}
	p := parse.Expr
	if n.Kind == api.NMethod {
		p = parse.Body
	} else if n.Kind == api.NSlot {
		p = parse.Slot
	}
	if m := tree(t, p, want); !parse.Same(m, n) {
		t.Errorf("%q: %s; it should be %s", want, shown(m), shown(n))
	}
}

func TestPrint(t *testing.T) {
	a, b, c, d := imp("a"), imp("b"), imp("c"), imp("d")
	sum, key, fail := send("+", a, b), send("k:", a, b), primFail("_F", a, b)
	for _, x := range []struct {
		n    api.Node
		want string
	}{
		{num("3"), "3"}, {str("it's"), "'it''s'"}, {self(), "self"}, {a, "a"}, {object(), "( | | )"}, {block(0), "[ ]"}, {method(0), ""},
		{object(variable("x"), variable("y", num("3")), constant("z", a), parent("p", send("b", a)), parentVar("q", str(""))), "( | x . y <- 3 . z = a . p * = a b . q * <- '' | )"},
		{block(3, arg("x"), arg("y"), variable("z", num("1")), a, ret(b)), "[ | : x . : y . z <- 1 | a . ^ b ]"},
		{block(1, arg("x")), "[ | : x | ]"}, {block(0, ret(a)), "[ ^ a ]"}, {method(1, variable("x")), "| x |"}, {method(2, variable("x"), variable("y", a), b, ret(c)), "| x . y <- a | b . ^ c"},
		{method(0, a, b), "a . b"}, {constant("x", method(0)), "x = ( )"}, {constant("x", method(0, a)), "x = ( a )"}, {constant("x", method(1, variable("y"), a)), "x = ( | y | a )"},
		{constant("+", method(1, arg("x"))), "+ x = ( )"}, {constant("*", method(2, arg("x"), variable("y"))), "* x = ( | y | )"}, {constant("at:Put:", method(3, arg("x"), arg("y"), variable("z"), a)), "at: x Put: y = ( | z | a )"},
		{constant("x", object(variable("y"))), "x = ( | y | )"}, {constant("x", method(0, object(variable("y")))), "x = ( ( | y | ) )"}, {variable("x"), "x"}, {variable("x", object()), "x <- ( | | )"},
		{send("size", sum), "( a + b ) size"}, {send("size", key), "( a k: b ) size"}, {send("size", a), "a size"}, {send("size", fail), "( a _F IfFail: b ) size"}, {send("size", prim("_F", a)), "a _F size"},
		{send("size", imp("k:", a)), "( k: a ) size"}, {send("size", resend("x")), "resend.x size"}, {send("size", resend("p.+", a)), "( p.+ a ) size"}, {send("size", resend("k:", a)), "( resend.k: a ) size"},
		{send("size", object()), "( | | ) size"}, {send("size", block(0, a)), "[ a ] size"}, {prim("_A", sum), "( a + b ) _A"}, {prim("_A", key), "( a k: b ) _A"}, {prim("_A", a), "a _A"}, {prim("_A", prim("_B:", a, b)), "( a _B: b ) _A"},
		{send("+", sum, c), "a + b + c"}, {send("-", sum, c), "( a + b ) - c"}, {send("+", a, sum), "a + ( a + b )"}, {send("+", a, send("-", a, b)), "a + ( a - b )"}, {send("+", key, key), "( a k: b ) + ( a k: b )"},
		{send("+", resend("+", a), b), "resend.+ a + b"}, {send("+", resend("p.+", a), b), "p.+ a + b"}, {send("-", resend("+", a), b), "( resend.+ a ) - b"}, {send("+", a, resend("+", b)), "a + ( resend.+ b )"},
		{send("+", resend("x"), resend("p.x")), "resend.x + p.x"}, {send("+", resend("x:", a), b), "( resend.x: a ) + b"}, {send("+", prim("_A", a), prim("_B", b)), "a _A + b _B"}, {send("+", fail, fail), "( a _F IfFail: b ) + ( a _F IfFail: b )"},
		{send("+", send("x", a), send("x", b)), "a x + b x"}, {send("+", imp("x:", a), b), "( x: a ) + b"}, {send("+", a, prim("_A:", b, c)), "a + ( b _A: c )"},
		{resend("+", sum), "resend.+ ( a + b )"}, {resend("p.+", key), "p.+ ( a k: b )"}, {resend("+", resend("+", a)), "resend.+ ( resend.+ a )"}, {resend("+", send("x", a)), "resend.+ a x"}, {resend("+", fail), "resend.+ ( a _F IfFail: b )"},
		{send("k:", sum, sum), "a + b k: a + b"}, {send("k:", key, c), "( a k: b ) k: c"}, {send("k:", c, key), "c k: ( a k: b )"}, {send("k:L:", a, key, key), "a k: ( a k: b ) L: ( a k: b )"}, {send("k:", imp("x:", a), imp("x:", b)), "( x: a ) k: ( x: b )"},
		{send("k:", fail, fail), "( a _F IfFail: b ) k: ( a _F IfFail: b )"}, {send("k:", prim("_A", a), prim("_B", b)), "a _A k: b _B"}, {send("k:", prim("_A:", a, b), c), "( a _A: b ) k: c"},
		{imp("k:", key), "k: ( a k: b )"}, {imp("k:L:", sum, a), "k: a + b L: a"}, {resend("k:", key), "resend.k: ( a k: b )"}, {resend("p.k:L:", sum, key), "p.k: a + b L: ( a k: b )"}, {send("k:", resend("l:", a), resend("p.l:", b)), "( resend.l: a ) k: ( p.l: b )"},
		{prim("_A:", key, key), "( a k: b ) _A: ( a k: b )"}, {prim("_A:B:", sum, sum, c), "a + b _A: a + b B: c"}, {prim("_A:", a, prim("_B", b)), "a _A: b _B"}, {prim("_A:", a, send("+", b, prim("_B", c))), "a _A: b + c _B"},
		{primFail("_A", sum, c), "a + b _A IfFail: c"}, {primFail("_A", prim("_B", a), c), "a _B _A IfFail: c"}, {primFail("_A", send("+", a, prim("_B", b)), c), "a + b _B _A IfFail: c"}, {primFail("_A", key, c), "( a k: b ) _A IfFail: c"},
		{primFail("_A:", a, prim("_B", b), c), "a _A: ( b _B ) IfFail: c"}, {primFail("_A:", a, send("+", b, prim("_B", c)), d), "a _A: ( b + c _B ) IfFail: d"}, {primFail("_A:", a, resend("+", prim("_B", c)), d), "a _A: ( resend.+ c _B ) IfFail: d"},
		{primFail("_A:", a, send("+", prim("_B", c), b), d), "a _A: c _B + b IfFail: d"}, {primFail("_A:", a, send("x", prim("_B", c)), d), "a _A: c _B x IfFail: d"}, {primFail("_A:B:", a, prim("_B", b), prim("_B", c), d), "a _A: b _B B: ( c _B ) IfFail: d"},
		{primFail("_A:", a, fail, c), "a _A: ( a _F IfFail: b ) IfFail: c"}, {primFail("_A:", prim("_B", a), b, prim("_B", c)), "a _B _A: b IfFail: c _B"}, {primFail("_A:", a, sum, sum), "a _A: a + b IfFail: a + b"},
		{primFail("_A", a, key), "a _A IfFail: a k: b"}, {primFail("_A:", a, key, key), "a _A: ( a k: b ) IfFail: a k: b"}, {primFail("_A", a, fail), "a _A IfFail: a _F IfFail: b"}, {primFail("_A", a, prim("_B:", b, c)), "a _A IfFail: b _B: c"},
		{primFail("_A", a, send("+", key, c)), "a _A IfFail: ( a k: b ) + c"}, {prim("_A:", a, primFail("_B", b, key)), "a _A: ( b _B IfFail: a k: b )"},
	} {
		printed(t, x.n, x.want)
	}
}

func TestListing(t *testing.T) {
	x, y := variable("x"), constant("y", method(1, variable("x"), imp("x")))
	for _, n := range []api.Node{object(), object(x), object(x, y), object(x, object(y).Subs[0], x)} {
		l, errno := parse.Listing(n)
		m, errno2, _ := parse.Program(l)
		if errno != api.OK || errno2 != api.OK || !parse.Same(n, m) {
			t.Errorf("%s: %v, %v, %v", shown(n), l, errno, errno2)
		}
	}
	if l, _ := parse.Listing(object(x, y)); !lex.Same(l, lexed(t, "x . y = ( | x | x )")) {
		t.Errorf("%v", l)
	}
	for _, n := range leaves() {
		if l, errno := parse.Listing(n); n.Kind != api.NObject && (errno != api.ErrTree || len(l) > 0) {
			t.Errorf("%s: %v, %v", shown(n), l, errno)
		}
	}
	for _, x := range []struct {
		n    api.Node
		want api.Errno
	}{
		{object(variable("x", value(1))), api.ErrTree}, {object(arg("x")), api.ErrTree}, {object(constant("x", method(1, variable("y")))), api.ErrTree},
		{object(variable("x", chain(198, toSize, imp("a")))), api.OK}, {object(variable("x", chain(199, toSize, imp("a")))), api.ErrLimit}, {object(constant("x", method(0, imp("+", self())))), api.ErrTree},
	} {
		if _, errno := parse.Listing(x.n); errno != x.want {
			t.Errorf("%.90s: %v", shown(x.n), errno)
		}
	}
}

func TestWhatCannotBeWritten(t *testing.T) {
	a := imp("a")
	deep := func(n api.Node) api.Node { return chain(300, toSize, n) }
	for _, x := range []struct {
		n    api.Node
		want api.Errno
	}{
		{arg("x"), api.ErrTree}, {ret(a), api.ErrTree}, {method(1, arg("x"), a), api.ErrTree}, {method(2, arg("x"), variable("y")), api.ErrTree}, {api.Node{}, api.ErrTree},
		{value(0), api.ErrTree}, {imp("+", a), api.ErrTree}, {send("size", imp("<=", a)), api.ErrTree}, {variable("x", value(1)), api.ErrTree}, {block(1, variable("x", value(1))), api.ErrTree},
		{constant("x", method(1, variable("y"))), api.ErrTree}, {constant("x", method(0)), api.OK}, {constant("+", method(2, arg("x"), variable("y"))), api.OK}, {constant("a:", method(1, arg("x"))), api.OK},
		{constant("x", method(1, variable("y"), a)), api.OK}, {object(constant("x", method(2, variable("y"), variable("z")))), api.ErrTree}, {method(1, variable("x")), api.OK}, {block(1, variable("x")), api.OK},
		{deep(a), api.ErrLimit}, {deep(value(1)), api.ErrTree}, {deep(imp("+", a)), api.ErrTree}, {deep(object(constant("x", method(1, variable("y"))))), api.ErrTree}, {ret(deep(a)), api.ErrTree}, {deep(ret(a)), api.ErrTree},
		{block(0, times(11999, a)...), api.OK}, {block(0, times(12000, a)...), api.ErrLimit},
	} {
		l, errno := parse.Tokens(x.n)
		if errno != x.want || (len(l) > 0) != (x.want == api.OK) {
			t.Errorf("Tokens of %.90s: %v", shown(x.n), errno)
		}
		s, errno := parse.Print(x.n)
		if len(l) > api.MaxTokens {
			x.want = api.ErrLimit
		}
		if errno != x.want || (s != "") != (x.want == api.OK) {
			t.Errorf("Print of %.90s: %v", shown(x.n), errno)
		}
	}
	for _, x := range []struct {
		n    api.Node
		want api.Errno
	}{{str(strings.Repeat("a", 19998)), api.OK}, {str(strings.Repeat("a", 19999)), api.ErrLimit}, {str(strings.Repeat("'", 9999)), api.OK}, {str(strings.Repeat("'", 10000)), api.ErrLimit}} {
		if _, errno := parse.Tokens(x.n); errno != api.OK {
			t.Errorf("Tokens of a long string: %v", errno)
		}
		if s, errno := parse.Print(x.n); errno != x.want || (s != "") != (x.want == api.OK) {
			t.Errorf("Print of a long string: %v", errno)
		}
	}
}

// The section's list of what is in brackets, once more, by the kinds of messages that it defines.

func isOp(sel string) bool { return lex.Kind(sel) == api.TkOp }

func isKeys(sel string) bool { return strings.HasSuffix(sel, ":") }

func bare(n api.Node) string { return n.Text[strings.IndexByte(n.Text, '.')+1:] }

func binaryMessage(n api.Node) bool { return (n.Kind == 8 || n.Kind == 10) && isOp(bare(n)) }

func keywordMessage(n api.Node) bool {
	return (n.Kind == 8 || n.Kind == 9 || n.Kind == 10) && isKeys(n.Text) || n.Kind == 11 && (isKeys(n.Text) || n.Num == 1)
}

func bracketed(n api.Node, i int) bool {
	sub := n.Subs[i]
	either := binaryMessage(sub) || keywordMessage(sub)
	unary := n.Kind == 8 && !isOp(n.Text) && !isKeys(n.Text) || n.Kind == 11 && !keywordMessage(n)
	right := n.Kind == 8 && i == 1 || n.Kind == 10 && i == 0
	failure := n.Kind == 11 && n.Num == 1 && i == len(n.Subs)-1
	lastArg := n.Kind == 11 && n.Num == 1 && i > 0 && i == len(n.Subs)-2
	simple := func(x api.Node) bool { return x.Kind == 11 && x.Num == 0 && !isKeys(x.Text) }
	switch {
	case unary && either:
		return true
	case binaryMessage(n) && right && either:
		return true
	case binaryMessage(n) && !right && keywordMessage(sub):
		return true
	case binaryMessage(n) && !right && binaryMessage(sub) && bare(sub) != n.Text:
		return true
	case keywordMessage(n) && !failure && keywordMessage(sub):
		return true
	case lastArg && (simple(sub) || binaryMessage(sub) && simple(sub.Subs[len(sub.Subs)-1])):
		return true
	}
	return false
}

// text writes trees, with brackets where they are asked for, and what may be left out where that is asked for.
type text struct {
	brackets func(n api.Node, i int) bool
	extra    func() bool
}

func (w text) join(l []api.Node, f func(n api.Node) string) string {
	var out []string
	for _, n := range l {
		out = append(out, f(n))
	}
	s := strings.Join(out, " . ")
	if s != "" && len(l) < 40 && w.extra() {
		s += " ."
	}
	return s
}

func (w text) slot(n api.Node) string {
	s := n.Text + []string{"", " =", " <-", " * =", " * <-"}[n.Num%5]
	switch {
	case n.Num == api.SArg:
		return ": " + n.Text
	case len(n.Subs) == 0:
		return n.Text
	case n.Subs[0].Kind != api.NMethod:
		return s + " " + w.initial(n.Subs[0])
	}
	m, args := n.Subs[0], 0
	var sel []string
	for _, part := range strings.SplitAfter(n.Text, ":") {
		if part != "" {
			sel = append(sel, part)
		}
		if part != "" && (isOp(part) || isKeys(part)) {
			sel = append(sel, m.Subs[args].Text)
			args++
		}
	}
	isEmpty := args == 0 && len(m.Subs) == 0
	return strings.Join(sel, " ") + " = ( " + w.scope(m.Subs[args:m.Num], m.Subs[m.Num:], isEmpty) + " )"
}

// initial writes an initial value; there may be no brackets in a path.
func (w text) initial(n api.Node) string {
	if n.Kind == api.NSend {
		return w.initial(n.Subs[0]) + " " + n.Text
	}
	return w.expr(n)
}

func (w text) scope(slots, statements []api.Node, isEmpty bool) string {
	s := ""
	if len(slots) > 0 || !isEmpty && w.extra() {
		s = "| " + w.join(slots, w.slot) + " | "
	}
	return s + w.join(statements, func(n api.Node) string {
		if n.Kind == api.NReturn {
			return "^ " + w.sub(n, 0)
		}
		return w.whole(n)
	})
}

// whole writes an expression by itself.
func (w text) whole(n api.Node) string {
	if w.extra() {
		return "( " + w.expr(n) + " )"
	}
	return w.expr(n)
}

func (w text) sub(n api.Node, i int) string {
	if w.brackets(n, i) {
		return "( " + w.whole(n.Subs[i]) + " )"
	}
	return w.expr(n.Subs[i])
}

func (w text) expr(n api.Node) string {
	switch n.Kind {
	case api.NNum:
		return n.Text
	case api.NStr:
		return "'" + strings.ReplaceAll(n.Text, "'", "''") + "'"
	case api.NSelf:
		return "self"
	case api.NObject:
		return "( | " + w.join(n.Subs, w.slot) + " | )"
	case api.NBlock:
		return "[ " + w.scope(n.Subs[:n.Num], n.Subs[n.Num:], false) + " ]"
	}
	var l []string
	i := 0
	if n.Kind == api.NSend || n.Kind == api.NPrim {
		l = append(l, w.sub(n, 0))
		i = 1
	}
	ahead := ""
	if n.Kind == api.NResend {
		ahead = strings.TrimSuffix("resend."+n.Text, bare(n))
		if strings.Contains(n.Text, ".") {
			ahead = strings.TrimSuffix(n.Text, bare(n))
		}
	}
	for _, part := range strings.SplitAfter(bare(n), ":") {
		if part != "" {
			l = append(l, ahead+part)
			ahead = ""
		}
		if isOp(part) || isKeys(part) {
			l = append(l, w.sub(n, i))
			i++
		}
	}
	if n.Kind == api.NPrim && n.Num == 1 {
		l = append(l, "IfFail:", w.sub(n, i))
	}
	return strings.Join(l, " ")
}

func (w text) root(n api.Node) string {
	switch n.Kind {
	case api.NMethod:
		return w.scope(n.Subs[:n.Num], n.Subs[n.Num:], false)
	case api.NSlot:
		return w.slot(n)
	}
	return w.whole(n)
}

func never() bool { return false }

// P2.1 of G9 and P2.2: trees at random, written by Tokens and by the list above.
func TestTokensAgree(t *testing.T) {
	w := text{bracketed, never}
	trees(6000, false, func(m maker, n api.Node, p parser) {
		want := strings.Join(strings.Fields(w.root(n)), " ")
		l, errno := parse.Tokens(n)
		if errno != api.OK || !lex.Same(l, lexed(t, want)) {
			t.Fatalf("%s is written %v, %v; it should be %q", shown(n), l, errno, want)
		}
		if again, errno, _ := p(l); errno != api.OK || !parse.Same(n, again) {
			t.Fatalf("%q is parsed %s, %v; it should be %s", want, shown(again), errno, shown(n))
		}
		if s, errno := parse.Print(n); len(want) <= api.MaxText && (errno != api.OK || s != want) {
			t.Fatalf("%s is printed %q, %v; it should be %q", shown(n), s, errno, want)
		}
	})
}

// P2.2: trees with what no tokens stand for.
func TestRoundTrip(t *testing.T) {
	written := 0
	trees(6000, true, func(m maker, n api.Node, p parser) {
		if errno := parse.Check(n); errno != api.OK {
			t.Fatalf("%s: %v", shown(n), errno)
		}
		l, errno := parse.Tokens(n)
		if can := writable(n); can != (errno == api.OK) || !can && errno != api.ErrTree {
			t.Fatalf("Tokens of %s: %v", shown(n), errno)
		}
		if errno != api.OK {
			return
		}
		written++
		if again, errno, _ := p(l); errno != api.OK || !parse.Same(n, again) {
			t.Fatalf("%v is parsed %s, %v; it should be %s", l, shown(again), errno, shown(n))
		}
	})
	if written < 1000 {
		t.Errorf("only %d trees were written", written)
	}
}

func writable(n api.Node) bool {
	if n.Kind == 13 || n.Kind == 9 && isOp(n.Text) {
		return false
	}
	if n.Kind == 7 && parse.Arity(n.Text) == 0 && len(n.Subs) == 1 {
		if m := n.Subs[0]; m.Kind == 5 && m.Num > 0 && m.Num == len(m.Subs) {
			return false
		}
	}
	return !slices.ContainsFunc(n.Subs, func(s api.Node) bool { return !writable(s) })
}

// P2.2 and P2.4: brackets around all parts, and at random, dots and signs that may be left out.
func TestBrackets(t *testing.T) {
	trees(6000, false, func(m maker, n api.Node, p parser) {
		sometimes := func() bool { return m.Intn(3) == 0 }
		for _, w := range []text{
			{func(api.Node, int) bool { return true }, never},
			{func(n api.Node, i int) bool { return bracketed(n, i) || sometimes() }, never},
			{func(n api.Node, i int) bool { return bracketed(n, i) || sometimes() }, sometimes},
		} {
			s := w.root(n)
			l, errno, _ := lex.Lex(s)
			if errno == api.ErrLimit {
				continue
			}
			if again, errno2, index := p(l); errno != api.OK || errno2 != api.OK || !parse.Same(n, again) {
				t.Fatalf("%q is parsed %s, %v, %d; it should be %s", s, shown(again), errno2, index, shown(n))
			}
		}
	})
}

// P2.4: without brackets that Tokens writes.
func TestNoBracketsAreSuperfluous(t *testing.T) {
	found := 0
	trees(6000, false, func(m maker, n api.Node, p parser) {
		l, _ := parse.Tokens(n)
		for i, x := range l {
			if x.Text != "(" || x.Kind != api.TkSign || l[i+1].Text == "|" || i > 0 && l[i-1].Text == "=" {
				continue // no bracket, or that of an object or a method
			}
			if i > 0 && (l[i-1].Kind == api.TkKey || l[i-1].Kind == api.TkPrim || l[i-1].Kind == api.TkCap && l[i-1].Text != "IfFail:") {
				continue
			}
			end, open := i, 0
			for ; ; end++ {
				if y := l[end]; y.Kind == api.TkSign && y.Text == "(" {
					open++
				} else if y.Kind == api.TkSign && y.Text == ")" {
					open--
				}
				if open == 0 {
					break
				}
			}
			found++
			without := slices.Concat(l[:i], l[i+1:end], l[end+1:])
			if again, errno, _ := p(without); errno == api.OK && parse.Same(n, again) {
				t.Fatalf("%v is parsed like %v", without, l)
			}
		}
	})
	if found < 1000 {
		t.Errorf("only %d brackets", found)
	}
}
