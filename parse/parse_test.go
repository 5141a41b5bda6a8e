package parse_test

import (
	"strings"
	"testing"

	"proteus/api"
	"proteus/lex"
	"proteus/parse"
)

// P2.1, G1 to G4

func same(t *testing.T, p parser, text string, want api.Node) {
	t.Helper()
	if n := tree(t, p, text); shown(n) != shown(want) || !parse.Same(n, want) {
		t.Errorf("%q: %s; it should be %s", text, shown(n), shown(want))
	} else if errno := parse.Check(n); errno != api.OK {
		t.Errorf("%q: %v", text, errno)
	}
}

func TestExpr(t *testing.T) {
	a, b, c, d := imp("a"), imp("b"), imp("c"), imp("d")
	for text, want := range map[string]api.Node{
		"17":                             num("17"),
		"'it''s'":                        str("it's"),
		"''":                             str(""),
		"self":                           self(),
		"a":                              a,
		"( ( a ) )":                      a,
		"a b c":                          send("c", send("b", a)),
		"( a ) b":                        send("b", a),
		"self b":                         send("b", self()),
		"3 + 4":                          send("+", num("3"), num("4")),
		"a + b + c":                      send("+", send("+", a, b), c),
		"( a + b ) - c":                  send("-", send("+", a, b), c),
		"a + ( b - c )":                  send("+", a, send("-", b, c)),
		"a + b c":                        send("+", a, send("c", b)),
		"a * b * c":                      send("*", send("*", a, b), c),
		"a at: b + 1 Put: c":             send("at:Put:", a, send("+", b, num("1")), c),
		"a foo: b bar: c":                send("foo:", a, send("bar:", b, c)),
		"a foo: b bar: c Baz: d":         send("foo:", a, send("bar:Baz:", b, c, d)),
		"a foo: ( b bar: c ) Baz: d":     send("foo:Baz:", a, send("bar:", b, c), d),
		"a + b foo: c":                   send("foo:", send("+", a, b), c),
		"foo: 3":                         imp("foo:", num("3")),
		"foo: bar: 3 Baz: 4":             imp("foo:", imp("bar:Baz:", num("3"), num("4"))),
		"self: 3":                        imp("self:", num("3")),
		"resend.size":                    resend("size"),
		"resend.size a":                  send("a", resend("size")),
		"resend.size + resend.size":      send("+", resend("size"), resend("size")),
		"p.size":                         resend("p.size"),
		"p.at: 1":                        resend("p.at:", num("1")),
		"p.at: 1 Put: a b: c":            resend("p.at:Put:", num("1"), send("b:", a, c)),
		"resend.at: 1":                   resend("at:", num("1")),
		"resend.+ a":                     resend("+", a),
		"p.<= a b":                       resend("p.<=", send("b", a)),
		"resend.+ a + b":                 send("+", resend("+", a), b),
		"( resend.+ a ) - b":             send("-", resend("+", a), b),
		"p.* a b: c":                     send("b:", resend("p.*", a), c),
		"a + p.size":                     send("+", a, resend("p.size")),
		"a at: p.at: b":                  send("at:", a, resend("p.at:", b)),
		"x _IntAdd: y IfFail: [ 0 ]":     primFail("_IntAdd:", imp("x"), imp("y"), block(0, num("0"))),
		"x _IntAdd: y":                   prim("_IntAdd:", imp("x"), imp("y")),
		"a _B":                           prim("_B", a),
		"a _B _C d":                      send("d", prim("_C", prim("_B", a))),
		"a _B IfFail: c":                 primFail("_B", a, c),
		"a + b _B":                       send("+", a, prim("_B", b)),
		"a + b _B IfFail: c":             primFail("_B", send("+", a, b), c),
		"a _B _C IfFail: d":              primFail("_C", prim("_B", a), d),
		"a _B: b _C IfFail: d":           prim("_B:", a, primFail("_C", b, d)),
		"a _B: ( b _C ) IfFail: d":       primFail("_B:", a, prim("_C", b), d),
		"a _B: b _C IfFail: d IfFail: c": primFail("_B:", a, primFail("_C", b, d), c),
		"a _B: b foo: c IfFail: d":       primFail("_B:", a, send("foo:", b, c), d),
		"a _At: b Put: c IfFail: d":      primFail("_At:Put:", a, b, c, d),
		"a _At: b Put: c":                prim("_At:Put:", a, b, c),
		"a foo: b _B IfFail: c Baz: d":   send("foo:Baz:", a, primFail("_B", b, c), d),
		"a foo: b _B: c Baz: d":          send("foo:", a, prim("_B:Baz:", b, c, d)),
		"a _B IfFail: b foo: c":          primFail("_B", a, send("foo:", b, c)),
		"a + b _B: c":                    prim("_B:", send("+", a, b), c),
		"[ ]":                            block(0),
		"[ | | ]":                        block(0),
		"[ a. b. ]":                      block(0, a, b),
		"[ ^ a ]":                        block(0, ret(a)),
		"[ a. ^ b. ]":                    block(0, a, ret(b)),
		"[ | :a. :b. c. d <- 3. | a ]":   block(4, arg("a"), arg("b"), variable("c"), variable("d", num("3")), a),
		"[ | a | ]":                      block(1, variable("a")),
		"( | | )":                        object(),
		"( | a. | ) b":                   send("b", object(variable("a"))),
		"a b: ( | a <- 1 | )":            send("b:", a, object(variable("a", num("1")))),
		"( ( | a | ) )":                  object(variable("a")),
		"[ | a <- b c d | ]":             block(1, variable("a", send("d", send("c", b)))),
	} {
		same(t, parse.Expr, text, want)
	}
}

func TestSlot(t *testing.T) {
	x, y := imp("x"), imp("y")
	for text, want := range map[string]api.Node{
		"x":                         variable("x"),
		"x <- 3":                    variable("x", num("3")),
		"x <- 'a'":                  variable("x", str("a")),
		"x = 3":                     constant("x", num("3")),
		"x = y":                     constant("x", y),
		"x = y x y":                 constant("x", send("y", send("x", y))),
		"parent* <- lobby":          parentVar("parent", imp("lobby")),
		"parent* = 'a'":             parent("parent", str("a")),
		"parent* = ( | x | )":       parent("parent", object(variable("x"))),
		"x <- ( | | )":              variable("x", object()),
		"x = ( | | )":               constant("x", object()),
		"x = ( )":                   constant("x", method(0)),
		"x = ( | | x )":             constant("x", method(0, x)),
		"x = ( x )":                 constant("x", method(0, x)),
		"x = ( ( x ) )":             constant("x", method(0, x)),
		"x = ( ( | x | ) )":         constant("x", method(0, object(variable("x")))),
		"x = ( ^ x )":               constant("x", method(0, ret(x))),
		"x = ( | y = 1 | )":         constant("x", object(constant("y", num("1")))),
		"x = ( | y | y )":           constant("x", method(1, variable("y"), y)),
		"x = ( | y | )":             constant("x", object(variable("y"))),
		"x = ( | y. | )":            constant("x", object(variable("y"))),
		"x = ( | y <- 3. x | ^ y )": constant("x", method(2, variable("y", num("3")), variable("x"), ret(y))),
		"x = ( | y <- 3. x | )":     constant("x", object(variable("y", num("3")), variable("x"))),
		"x = ( | y = ( | x = ( | y | x ) | ) | )": constant("x", object(constant("y", object(constant("x", method(1, variable("y"), x)))))),
		"x = ( | + y = ( ) | )":                   constant("x", object(constant("+", method(1, arg("y"))))),
		"x = ( | y* = x | )":                      constant("x", object(parent("y", x))),
		"x = ( | y <- ( | x = ( y ) | ) | y )":    constant("x", method(1, variable("y", object(constant("x", method(0, y)))), y)),
		"at: i Put: v = ( v )":                    constant("at:Put:", method(2, arg("i"), arg("v"), imp("v"))),
		"at: i = ( | x | )":                       constant("at:", method(2, arg("i"), variable("x"))),
		"at: i = ( | x. y <- 1 | x. ^ y )":        constant("at:", method(3, arg("i"), variable("x"), variable("y", num("1")), x, ret(y))),
		"+ y = ( | x | )":                         constant("+", method(2, arg("y"), variable("x"))),
		"* y = ( )":                               constant("*", method(1, arg("y"))),
		"== y = ( y. )":                           constant("==", method(1, arg("y"), y)),
		"self: x = ( x )":                         constant("self:", method(1, arg("x"), x)),
		"at: x Put: x = ( )":                      constant("at:Put:", method(2, arg("x"), arg("x"))),
	} {
		same(t, parse.Slot, text, want)
	}
}

func TestProgramAndBody(t *testing.T) {
	x, y := variable("x"), variable("y", num("3"))
	same(t, parse.Program, "", object())
	same(t, parse.Program, "x", object(x))
	same(t, parse.Program, "x.", object(x))
	same(t, parse.Program, "x. y <- 3", object(x, y))
	same(t, parse.Program, "x. y <- 3. + x = ( ). a: x = ( ). x* = x.", object(x, y, constant("+", method(1, arg("x"))), constant("a:", method(1, arg("x"))), parent("x", imp("x"))))
	same(t, parse.Body, "", method(0))
	same(t, parse.Body, "| |", method(0))
	same(t, parse.Body, "x", method(0, imp("x")))
	same(t, parse.Body, "| x |", method(1, x))
	same(t, parse.Body, "| x. y <- 3. | x. ^ x.", method(2, x, y, imp("x"), ret(imp("x"))))
	same(t, parse.Body, "| x <- ( | y <- 3 | ) |", method(1, variable("x", object(y))))
}

// syntax checks that a text is wrong at a token.
func syntax(t *testing.T, name string, text string, want int) {
	t.Helper()
	n, errno, index := parsers()[name](lexed(t, text))
	if errno != api.ErrSyntax || index != want || shown(n) != "?" {
		t.Errorf("%s %q: %s, %v, %d; it should be %d", name, text, shown(n), errno, index, want)
	}
}

func TestSyntaxErrors(t *testing.T) {
	for text, want := range map[string]int{
		"": 0, "a + b - c": 3, "a +": 2, "a foo:": 2, "foo:": 1, "a foo: b Bar:": 4, "( a": 2, "( )": 1, "a )": 1, ")": 0, "a. b": 1, "^ a": 0,
		"a self": 1, "a resend": 1, "resend": 1, "resend size": 1, "resend.": 1, "resend.self": 2, "self.a": 1, "a p.b": 2, "a + p.+ b": 4,
		"a + p.at: b": 4, "a resend.b": 1, "resend.+ a - b": 4, "p.+ a - b": 4, "a + self.b": 3, "a Foo: b": 1, "Foo: b": 0, "_A": 0, "a = b": 1, "a <- b": 1,
		"a + = b": 2, "a IfFail: b": 1, "a foo: b IfFail: c": 3, "a _A: b IfFail:": 4, "a _A: b IfFail: c Foo: d": 5, "a _A: b IfFail: c IfFail: d": 5,
		"a _A IfFail: b Foo: c": 4, "a _A:": 2, "a _A IfFail:": 3, "_A: a": 0, "foo: a _A IfFail: b IfFail: c": 5, "a _A: b Foo: c IfFail: d Baz: e": 7,
		"[": 1, "[ a": 2, "[ a b: ]": 3, "[ ^ a. b ]": 4, "[ ^ ]": 2, "[ . ]": 1, "[ a. . ]": 3, "[ :a | a ]": 1, "[ | a. :b | a ]": 4, "[ | :a :b | a ]": 4,
		"[ | : | a ]": 3, "[ | :a <- 3 | ]": 4, "[ | a = 3 | ]": 3, "[ | a* <- b | ]": 3, "[ | . | ]": 2, "[ | a. . | ]": 4, "[ | a ]": 3, "[ | a": 3, "[ | :self | ]": 3,
		"( | a | b )": 4, "( | a ] ": 3, "( | a |": 4, "( | :a | )": 2, "( | a = 3 4 | )": 5, "( | a. | . )": 5, "a b;": 2, "a::b": 1, "a |": 1, "a ^ b": 1, "3.": 1, "3 3": 1, "3 'a'": 1,
		"a ( b )": 1, "a [ b ]": 1, "resend.foo: a IfFail: b": 4, "[ | a <- | ]": 4, "[ | a <- self | ]": 4, "[ | a <- b. self | ]": 6, "[ | a <- b.c | ]": 5,
	} {
		syntax(t, "expr", text, want)
	}
	for text, want := range map[string]int{
		"": 0, "x.": 1, "x y": 1, "self": 0, "resend = 3": 0, "3": 0, "x =": 2, "x <-": 2, "x*": 2, "x* 3": 2, "x* y": 2, "x* = ( )": 4, "x* = ( y )": 4, "x <- ( )": 3, "x <- ( y )": 3,
		"x = self": 2, "x = [ ]": 2, "x = y + 3": 3, "x = ( y": 4, "x = ( | y |": 6, "x = ( | y | y": 7, "x = ( | y = 3 | 4 )": 8, "x = ( | y = 3 | y )": 8, "x = ( | y | . )": 6,
		"x = ( | + y = ( ) | 3 )": 10, "x = ( | y* <- x | ^ 3 )": 9, "x = ( | :y | )": 4, "x = ( | y. . | )": 6, "x = ( | . | )": 4, "x = ( | y ) ": 5, "x = ( ^ y. z )": 6,
		"+ = ( )": 1, "+ x": 2, "+ x = 3": 3, "+ x = x": 3, "+ x <- ( )": 2, "+ self = ( )": 1, "= x = ( )": 0, "<- x = ( )": 0, "+ x = ( | y = 3 | )": 6, "+ x = ( | :y | )": 5,
		"at: = ( )": 1, "at: x": 2, "at: x Put: = ( )": 3, "at: x put: y = ( )": 2, "at: x IfFail: y = ( )": 2, "Put: x = ( )": 0, "at: x = y": 3, "at: resend = ( )": 1, "_A = ( )": 0,
		"at: x = ( ) )": 5, "x = 'a' y": 3, "x = y.z": 3, "x.y": 1, "x <- 3 . ": 3, "( | x | )": 0, "x = ( | self = 3 | )": 4, "x = ( | y | | )": 6,
	} {
		syntax(t, "slot", text, want)
	}
	for text, want := range map[string]int{".": 0, "x. .": 2, "x y": 1, "x. 3": 2, "x. y = ": 4, "| x |": 0, "x <- 3. x)": 5, "self": 0, "x.y": 1} {
		syntax(t, "program", text, want)
	}
	for text, want := range map[string]int{".": 0, "|": 1, "| x": 2, "| x. y": 4, "| :x | x": 1, "| x = 3 | x": 2, "x. . y": 2, "^ x. y": 3, "^": 1, "x ^ y": 1, "x. ^ y. ^ x": 5, "| x | | y |": 3, "x )": 1, "^ ^ x": 1} {
		syntax(t, "body", text, want)
	}
}

// numbered returns so many names, each behind a text, with another text between.
func numbered(count int, ahead, between string) string {
	var l []string
	for i := range count {
		l = append(l, ahead+"a"+strings.Repeat("b", i))
	}
	for i := range l {
		l[i] = l[i][:min(len(l[i]), len(ahead)+24)]
	}
	return strings.Join(l, between)
}

func TestLimitsOfLists(t *testing.T) {
	names := func(count int) string { return numbered(count, "", ". ") }
	args := func(count int) string { return numbered(count, ":", ". ") }
	caps := func(count int) string { return strings.Repeat(" B: a", count) }
	for _, x := range []struct {
		name, text string
		index      int // -1: right
	}{
		{"program", names(40), -1},
		{"program", names(40) + ".", 79},
		{"program", names(41), 79},
		{"expr", "( | " + names(40) + " | )", -1},
		{"expr", "( | " + names(41) + " | )", 81},
		{"slot", "x = ( | " + names(40) + " | )", -1},
		{"slot", "x = ( | " + names(40) + ". | )", 83},
		{"slot", "x = ( | " + names(41) + " | )", 83},
		{"slot", "x = ( | " + names(40) + " | a )", -1},
		{"slot", "x = ( | " + names(40) + ". | a )", 83},
		{"slot", "+ x = ( | " + names(39) + " | a )", -1},
		{"slot", "+ x = ( | " + names(39) + ". | a )", 5 + 77},
		{"slot", "+ x = ( | " + names(40) + " | a )", 5 + 77},
		{"slot", "x: a" + caps(7) + " = ( | " + names(32) + " | a )", -1},
		{"slot", "x: a" + caps(7) + " = ( | " + names(33) + " | a )", 19 + 63},
		{"body", "| " + names(40) + " |", -1},
		{"body", "| " + names(40) + ". |", 80},
		{"expr", "[ | " + names(40) + " | ]", -1},
		{"expr", "[ | " + names(41) + " | ]", 81},
		{"expr", "[ | " + args(8) + " | ]", -1},
		{"expr", "[ | " + args(8) + ". | ]", -1},
		{"expr", "[ | " + args(9) + " | ]", 2 + 8*3},
		{"expr", "[ | " + args(8) + ". " + names(32) + " | ]", -1},
		{"expr", "[ | " + args(8) + ". " + names(32) + ". | ]", 2 + 24 + 63},
		{"expr", "[ | " + args(8) + ". " + names(33) + " | ]", 2 + 24 + 63},
		{"slot", "x: a" + caps(7) + " = ( )", -1},
		{"slot", "x: a" + caps(8) + " = ( )", 16},
		{"expr", "a x: a" + caps(7), -1},
		{"expr", "a x: a" + caps(8), 17},
		{"expr", "x: a" + caps(7), -1},
		{"expr", "x: a" + caps(8), 16},
		{"expr", "y: a x: a" + caps(8), 18},
		{"expr", "p.x: a" + caps(7), -1},
		{"expr", "p.x: a" + caps(8), 18},
		{"expr", "a _X: a" + caps(7), -1},
		{"expr", "a _X: a" + caps(7) + " IfFail: a", -1},
		{"expr", "a _X: a" + caps(8), 17},
		{"body", strings.Repeat("a. ", 1000), -1},
	} {
		if x.index >= 0 {
			syntax(t, x.name, x.text, x.index)
		} else if n := tree(t, parsers()[x.name], x.text); parse.Check(n) != api.OK {
			t.Errorf("%s %q: %v", x.name, x.text, parse.Check(n))
		}
	}
}

func TestLimitOfSelectors(t *testing.T) {
	long := func(first string, rest int) string { // 25 and 25 bytes, 24 of a word, and so many
		word := func(b string, n int) string { return b + strings.Repeat("b", n-2) + ":" }
		return word(first, 25) + " a " + word("A", 25) + " a " + word("B", rest) + " a "
	}
	for _, ahead := range []string{"", "a ", "p.", "resend."} {
		tree(t, parse.Expr, ahead+long("a", 25)+"Abc: a")
		index := 6 + len(lexed(t, ahead+"x")) - 1
		syntax(t, "expr", ahead+long("a", 25)+"Abcde: a", index)
	}
	tree(t, parse.Expr, "a "+long("_A", 25)+"Ab: a IfFail: a")
	syntax(t, "expr", "a "+long("_A", 25)+"Abcd: a IfFail: a", 7)
	tree(t, parse.Slot, long("a", 25)+"Abcd: a = ( )")
	syntax(t, "slot", long("a", 25)+"Abcde: a = ( )", 6)
}

func TestLimitsOfTrees(t *testing.T) {
	check := func(p parser, text string, want api.Errno) {
		t.Helper()
		n, errno, index := p(lexed(t, text))
		if errno != want || index != 0 || (errno == api.OK) != (n.Kind != 0) {
			t.Errorf("%.40q: %v, %d", text, errno, index)
		}
	}
	check(parse.Expr, "a"+strings.Repeat(" b", 199), api.OK)
	check(parse.Expr, "a"+strings.Repeat(" b", 200), api.ErrLimit)
	check(parse.Expr, strings.Repeat("( ", 2999)+"a"+strings.Repeat(" )", 2999), api.OK)
	check(parse.Expr, strings.Repeat("[ ", 199)+"a"+strings.Repeat(" ]", 199), api.OK)
	check(parse.Expr, strings.Repeat("[ ", 199)+"a b"+strings.Repeat(" ]", 199), api.ErrLimit)
	check(parse.Slot, "x = "+strings.Repeat("( | x = ", 198)+"3"+strings.Repeat(" | )", 198), api.ErrLimit)
	check(parse.Slot, "x = "+strings.Repeat("( | x = ", 98)+"3"+strings.Repeat(" | )", 98), api.OK)
	// No list of MaxTokens makes more than MaxNodes: an element of the grammar has no more nodes than tokens.
	check(parse.Body, strings.Repeat("a b. ", 1999), api.OK)
}

func TestListsThatAreNotRight(t *testing.T) {
	a, dot := api.Token{Kind: 1, Text: "a"}, api.Token{Kind: 9, Text: "."}
	long := make([]api.Token, 6001)
	for i := range long {
		long[i] = a
	}
	for name, p := range parsers() {
		for _, l := range [][]api.Token{{{}}, {a, {Kind: 1, Text: "A"}}, {{Kind: 8, Text: "+"}}, {{Kind: 1, Text: "a", Line: 1}}, {{Kind: 6, Text: "\n"}}, {{Kind: 8, Text: ")"}, {Kind: 20}}, long} {
			if n, errno, index := p(l); errno != api.ErrToken || index != 0 || n.Kind != 0 {
				t.Errorf("%s %.50v: %v, %d", name, l, errno, index)
			}
		}
		if _, errno, index := p([]api.Token{dot}); errno != api.ErrSyntax || index != 0 {
			t.Errorf("%s of a dot: %v, %d", name, errno, index)
		}
	}
	// Dots of no text: they are asked for by the grammar alone.
	l := []api.Token{a, dot, {Kind: 5, Text: "3"}}
	if _, errno, index := parse.Expr(l); errno != api.ErrSyntax || index != 2 {
		t.Errorf("%v: %v, %d", l, errno, index)
	}
	// The kind of a token counts, not its text alone.
	l = []api.Token{{Kind: 6, Text: "("}, {Kind: 1, Text: "size"}}
	if n, errno, _ := parse.Expr(l); errno != api.OK || !parse.Same(n, send("size", str("("))) {
		t.Errorf("%v: %v", l, errno)
	}
	l = []api.Token{a, {Kind: 6, Text: "+"}, a}
	if _, errno, index := parse.Expr(l); errno != api.ErrSyntax || index != 1 {
		t.Errorf("%v: %v, %d", l, errno, index)
	}
	if lex.Check(long[:6000]) != api.OK {
		t.Error("a list that is long")
	}
	if _, errno, _ := parse.Expr(long[:6000]); errno != api.ErrLimit {
		t.Errorf("a tree that is deep: %v", errno)
	}
}
