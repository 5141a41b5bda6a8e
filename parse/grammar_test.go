package parse_test

import (
	"math/rand"
	"slices"
	"strings"
	"testing"

	"proteus/api"
	"proteus/parse"
)

// The chapter's grammar as rules, and what follows from them by Earley's algorithm: which tokens can continue a list, and whether it is whole. It owes nothing to the package. (The limits of lists are not among the rules.)

const grammar = `
program :
program : slots
program : slots .
slots : slot
slots : slots . slot
slot : name
slot : name = init
slot : name <- init
slot : name * = init
slot : name * <- init
slot : name = method
slot : op name = method
slot : key name caps = method
caps :
caps : caps cap name
init : number
init : string
init : object
init : path
path : name
path : path name
object : ( | program | )
method : ( body )
body : code
body : | | code
body : | vars | code
body : | vars . | code
vars : var
vars : vars . var
var : name
var : name <- init
code :
code : statements
code : statements .
statements : exprs
statements : ^ expr
statements : exprs . ^ expr
exprs : expr
exprs : exprs . expr
block : [ code ]
block : [ | | code ]
block : [ | bvars | code ]
block : [ | bvars . | code ]
bvars : args
bvars : vars
bvars : args . vars
args : : name
args : args . : name
expr : binary
expr : key parts
expr : binary key parts
expr : binary prim: parts
expr : binary prim: parts IfFail: expr
expr : binary prim IfFail: expr
expr : resent key parts
parts : expr
parts : parts cap expr
binary : unary
binary : chain+
binary : chain-
binary : chain*
chain+ : unary + unary
chain+ : resent + unary
chain+ : chain+ + unary
chain- : unary - unary
chain- : resent - unary
chain- : chain- - unary
chain* : unary * unary
chain* : resent * unary
chain* : chain* * unary
binary : resent op unary
unary : primary
unary : unary name
unary : unary prim
primary : number
primary : string
primary : self
primary : name
primary : object
primary : block
primary : ( expr )
primary : resent name
resent : resend dot
resent : name dot
`

type production struct {
	left  string
	right []string
}

type item struct {
	rule, dot, origin int
}

type column map[item]bool

// earley has the sets of items ahead of each token, and behind the last one.
type earley struct {
	rules    []production
	byLeft   map[string][]int
	nullable map[string]bool
	columns  []column
	start    string
}

func newEarley(start string) *earley {
	e := &earley{byLeft: map[string][]int{}, nullable: map[string]bool{}, start: start}
	for _, line := range strings.Split(strings.TrimSpace(grammar), "\n") {
		words := strings.Fields(line)
		e.byLeft[words[0]] = append(e.byLeft[words[0]], len(e.rules))
		e.rules = append(e.rules, production{words[0], words[2:]})
	}
	for range e.rules {
		for _, r := range e.rules {
			all := true
			for _, x := range r.right {
				all = all && e.nullable[x]
			}
			e.nullable[r.left] = e.nullable[r.left] || all
		}
	}
	first := column{}
	for _, r := range e.byLeft[start] {
		first[item{r, 0, 0}] = true
	}
	e.close(first, 0)
	return e
}

// close adds a column, with what its items lead to.
func (e *earley) close(c column, index int) {
	e.columns = append(e.columns, c)
	var work []item
	for x := range c {
		work = append(work, x)
	}
	add := func(x item) {
		if !c[x] {
			c[x] = true
			work = append(work, x)
		}
	}
	for len(work) > 0 {
		x := work[len(work)-1]
		work = work[:len(work)-1]
		r := e.rules[x.rule]
		if x.dot == len(r.right) {
			for y := range e.columns[x.origin] {
				if l := e.rules[y.rule].right; y.dot < len(l) && l[y.dot] == r.left {
					add(item{y.rule, y.dot + 1, y.origin})
				}
			}
			continue
		}
		next := r.right[x.dot]
		for _, n := range e.byLeft[next] {
			add(item{n, 0, index})
		}
		if e.nullable[next] {
			add(item{x.rule, x.dot + 1, x.origin})
		}
	}
}

// symbols returns what a token is in the grammar.
func symbols(t api.Token) []string {
	switch t.Kind {
	case api.TkName:
		if t.Text == "self" || t.Text == "resend" {
			return []string{t.Text}
		}
		return []string{"name"}
	case api.TkKey:
		return []string{"key"}
	case api.TkCap:
		if t.Text == "IfFail:" {
			return []string{"IfFail:"}
		}
		return []string{"cap"}
	case api.TkPrim:
		if strings.HasSuffix(t.Text, ":") {
			return []string{"prim:"}
		}
		return []string{"prim"}
	case api.TkNum:
		return []string{"number"}
	case api.TkStr:
		return []string{"string"}
	case api.TkOp:
		if t.Text == "=" || t.Text == "<-" {
			return []string{t.Text}
		}
		return []string{"op", t.Text}
	case api.TkDot:
		return []string{"dot"}
	}
	return []string{t.Text}
}

// push adds a token, if it can continue the list.
func (e *earley) push(t api.Token) bool {
	c := column{}
	for x := range e.columns[len(e.columns)-1] {
		l := e.rules[x.rule].right
		if x.dot == len(l) {
			continue
		}
		for _, s := range symbols(t) {
			if l[x.dot] == s {
				c[item{x.rule, x.dot + 1, x.origin}] = true
			}
		}
	}
	if len(c) == 0 {
		return false
	}
	e.close(c, len(e.columns))
	return true
}

func (e *earley) pop() { e.columns = e.columns[:len(e.columns)-1] }

// whole reports whether the list is one that the grammar has.
func (e *earley) whole() bool {
	for x := range e.columns[len(e.columns)-1] {
		if r := e.rules[x.rule]; r.left == e.start && x.origin == 0 && x.dot == len(r.right) {
			return true
		}
	}
	return false
}

func alphabet() []api.Token {
	return []api.Token{
		{Kind: 1, Text: "x"}, {Kind: 1, Text: "self"}, {Kind: 1, Text: "resend"}, {Kind: 2, Text: "a:"}, {Kind: 3, Text: "B:"}, {Kind: 3, Text: "IfFail:"},
		{Kind: 4, Text: "_P"}, {Kind: 4, Text: "_Q:"}, {Kind: 5, Text: "3"}, {Kind: 6, Text: "="}, {Kind: 7, Text: "+"}, {Kind: 7, Text: "-"}, {Kind: 7, Text: "*"},
		{Kind: 7, Text: "="}, {Kind: 7, Text: "<-"}, {Kind: 8, Text: "("}, {Kind: 8, Text: ")"}, {Kind: 8, Text: "["}, {Kind: 8, Text: "]"}, {Kind: 8, Text: "|"},
		{Kind: 8, Text: "."}, {Kind: 8, Text: "^"}, {Kind: 8, Text: ":"}, {Kind: 8, Text: ";"}, {Kind: 9, Text: "."},
	}
}

// agrees checks what is answered for a list of which the grammar tells whether its last token can continue it, and whether it is whole then.
func agrees(t *testing.T, name string, p parser, l []api.Token, viable, whole bool) {
	t.Helper()
	n, errno, index := p(l)
	switch {
	case whole:
		if errno != api.OK || index != 0 || parse.Check(n) != api.OK {
			t.Fatalf("%s of %v: %v, %d; it is whole", name, l, errno, index)
		}
		agreesBack(t, name, p, l, n)
	case viable:
		if errno != api.ErrSyntax || index != len(l) || n.Kind != 0 {
			t.Fatalf("%s of %v: %v, %d; it is incomplete", name, l, errno, index)
		}
	default:
		if errno != api.ErrSyntax || index != len(l)-1 || n.Kind != 0 {
			t.Fatalf("%s of %v: %v, %d; its last token is wrong", name, l, errno, index)
		}
	}
}

// agreesBack checks of a tree and its list what P2.2 and P2.5 promise.
func agreesBack(t *testing.T, name string, p parser, l []api.Token, n api.Node) {
	t.Helper()
	if size := parse.Size(n); size > 3*len(l)+3 {
		t.Fatalf("%s of %v has the size %d", name, l, size)
	}
	write := parse.Tokens
	if name == "program" {
		write = parse.Listing
	}
	again, errno := write(n)
	if errno != api.OK || len(again) > 3*len(l) {
		t.Fatalf("%s of %v is written %v, %v", name, l, again, errno)
	}
	if m, errno, _ := p(again); errno != api.OK || !parse.Same(n, m) {
		t.Fatalf("%s of %v: %s; written %v and parsed %v, %s", name, l, shown(n), again, errno, shown(m))
	}
}

// P2.1, P2.2, P2.3 and P2.5: all lists of some tokens of the alphabet, as far as there is no wrong token ahead of the last one.
func TestAllShortLists(t *testing.T) {
	all := alphabet()
	for name, p := range parsers() {
		e := newEarley(name)
		var extend func(l []api.Token, more int)
		extend = func(l []api.Token, more int) {
			for _, x := range all {
				longer := append(l[:len(l):len(l)], x)
				viable := e.push(x)
				agrees(t, name, p, longer, viable, viable && e.whole())
				if viable {
					if more > 1 {
						extend(longer, more-1)
					}
					e.pop()
				}
			}
		}
		extend(nil, 4)
	}
}

// P2.1, P2.2, P2.3 and P2.5: long lists at random, all tokens being tried behind each beginning of them.
func TestLongLists(t *testing.T) {
	r := rand.New(rand.NewSource(2))
	all := alphabet()
	for name, p := range parsers() {
		for range 60 {
			e := newEarley(name)
			var l []api.Token
			for range 30 {
				var next []api.Token
				for _, x := range all {
					if x.Text == "B:" && capsOf(l) == 7 { // one more may be too many
						continue
					}
					viable := e.push(x)
					agrees(t, name, p, append(l[:len(l):len(l)], x), viable, viable && e.whole())
					if viable {
						next = append(next, x)
						e.pop()
					}
				}
				if len(next) == 0 {
					break
				}
				x := pick(r, next...)
				l = append(l, x)
				e.push(x)
			}
		}
	}
}

// P2.3: what follows does not matter.
func TestErrorsStay(t *testing.T) {
	r := rand.New(rand.NewSource(3))
	all := alphabet()
	for name, p := range parsers() {
		for range 5000 {
			var l []api.Token
			for range 1 + r.Intn(12) {
				l = append(l, pick(r, all...))
			}
			_, errno, index := p(l)
			if errno != api.ErrSyntax || index == len(l) {
				continue
			}
			for range 5 {
				longer := append(l[:index+1:index+1], pick(r, all...), pick(r, all...))
				if _, errno, again := p(longer[:len(longer)-r.Intn(3)]); errno != api.ErrSyntax || again != index {
					t.Fatalf("%s of %v: %d; of %v: %v, %d", name, l, index, longer, errno, again)
				}
			}
		}
	}
}

// P2.6
func TestIndependence(t *testing.T) {
	texts := []string{"x", "y <- 3", "x = ( | y | )", "x = ( | y | y )", "p* = lobby", "+ x = ( x. ^ x )", "at: x Put: y = ( | x. | ^ y )", "x = ( ( | y. | ) )"}
	for _, a := range texts {
		for _, b := range texts {
			n := tree(t, parse.Program, a+" . "+b)
			if want := object(tree(t, parse.Slot, a), tree(t, parse.Slot, b)); !parse.Same(n, want) {
				t.Errorf("%q, %q: %s", a, b, shown(n))
			}
			both := tree(t, parse.Program, a+" . "+b+" . "+b+" . "+a)
			if want := append(tree(t, parse.Program, a+" . "+b).Subs, tree(t, parse.Program, b+" . "+a).Subs...); !parse.Same(both, object(want...)) {
				t.Errorf("%q, %q: %s", a, b, shown(both))
			}
		}
	}
}

func capsOf(l []api.Token) int {
	return len(slices.DeleteFunc(slices.Clone(l), func(x api.Token) bool { return x.Text != "B:" }))
}
