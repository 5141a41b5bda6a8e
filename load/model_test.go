package load_test

import (
	"math/rand"
	"reflect"
	"slices"
	"strings"
	"testing"

	"proteus/api"
	"proteus/code"
	"proteus/copies"
	"proteus/lex"
	"proteus/load"
	"proteus/parse"
	"proteus/world"
)

// P7.1, E2 to E12: what each function returns, and a second way to it, for any arguments.

// args are those of all functions.
type args struct {
	oid   int
	text  string
	n     api.Node
	names []string
}

// answer is what a function returned: its error, and all else.
type answer struct {
	errno api.Errno
	name  string
	all   []any
}

// function is one of the chapter, and what it returns by the chapter for a valid world.
type function struct {
	name   string
	do     func(w api.World, a args) answer
	should func(w api.World, a args) answer
}

func fails(errno api.Errno) answer { return answer{errno: errno} }

// outcome returns the answer of what was made.
func outcome(w api.World, e ended, all ...any) answer {
	if e.errno != api.OK {
		return answer{e.errno, e.name, nil}
	}
	return answer{all: append([]any{w}, all...)}
}

// same reports whether two answers are the same; beside an error all must be empty, or 0.
func (x answer) same(y answer) bool {
	if x.errno != y.errno || x.name != y.name {
		return false
	}
	if y.errno != api.OK {
		return !slices.ContainsFunc(x.all, func(v any) bool { return !isEmpty(v) })
	}
	return slices.EqualFunc(x.all, y.all, equal)
}

func isEmpty(x any) bool {
	v := reflect.ValueOf(x)
	return v.IsZero() || v.Kind() == reflect.Slice && v.Len() == 0
}

// equal reports whether two results are equal; empty lists and nil are.
func equal(x, y any) bool {
	switch x := x.(type) {
	case api.World:
		return world.Same(x, y.(api.World))
	case api.Node:
		return parse.Same(x, y.(api.Node))
	case []string:
		return slices.Equal(x, y.([]string))
	}
	return x == y
}

func functions() []function {
	return []function{
		{"Into", func(w api.World, a args) answer {
			v, e, s := load.Into(w, a.oid, a.text)
			return answer{e, s, []any{v}}
		}, shouldInto},
		{"File", func(w api.World, a args) answer { v, e, s := load.File(w, a.text); return answer{e, s, []any{v}} }, func(w api.World, a args) answer {
			a.oid = api.OLobby
			return shouldInto(w, a)
		}},
		{"Add", func(w api.World, a args) answer { v, e, s := load.Add(w, a.oid, a.n); return answer{e, s, []any{v}} }, shouldAdd},
		{"Method", func(w api.World, a args) answer {
			v, at, e, s := load.Method(w, a.text)
			return answer{e, s, []any{v, at}}
		}, shouldMethod},
		{"Expr", func(w api.World, a args) answer {
			v, at, e, s := load.Expr(w, a.text)
			return answer{e, s, []any{v, at}}
		}, shouldExpr},
		{"Value", func(w api.World, a args) answer { v, x, e, s := load.Value(w, a.n); return answer{e, s, []any{v, x}} }, shouldValue},
		{"Named", func(w api.World, a args) answer { x, e, s := load.Named(w, a.names); return answer{e, s, []any{x}} }, shouldNamed},
		{"Names", func(w api.World, a args) answer { l, e := load.Names(w, a.oid); return answer{e, "", []any{l}} }, shouldNames},
		{"Tree", func(w api.World, a args) answer { n, e := load.Tree(w, a.oid); return answer{e, "", []any{n}} }, shouldTree},
		{"Print", func(w api.World, a args) answer { s, e := load.Print(w, a.oid); return answer{e, "", []any{s}} }, shouldPrint},
		{"Listing", func(w api.World, a args) answer { s, e := load.Listing(w, a.oid); return answer{e, "", []any{s}} }, shouldListing},
	}
}

func has(w api.World, oid int) bool {
	return slices.ContainsFunc(w.Objs, func(o api.Obj) bool { return o.Oid == oid })
}

// read returns the tree of a text, or what is wrong with it.
func read(text string, parse func(l []api.Token) (api.Node, api.Errno, int)) (api.Node, api.Errno) {
	l, errno, _ := lex.Lex(text)
	if errno != api.OK {
		return api.Node{}, errno
	}
	n, errno, _ := parse(l)
	return n, errno
}

func shouldInto(w api.World, a args) answer {
	if !has(w, a.oid) {
		return fails(api.ErrNone)
	}
	n, errno := read(a.text, parse.Program)
	if errno != api.OK {
		return fails(errno)
	}
	a.n = n
	return shouldAdd(w, a)
}

func shouldAdd(w api.World, a args) answer {
	if !has(w, a.oid) {
		return fails(api.ErrNone)
	}
	if parse.Check(a.n) != api.OK || a.n.Kind != api.NObject {
		return fails(api.ErrTree)
	}
	w, _, e := making(w, func(m *maker) api.Val {
		m.add(a.oid, a.n)
		return null
	})
	return outcome(w, e)
}

func shouldMethod(w api.World, a args) answer {
	n, errno := read(a.text, parse.Slot)
	if errno != api.OK {
		return fails(errno)
	}
	if len(n.Subs) == 0 || n.Subs[0].Kind != api.NMethod {
		return fails(api.ErrPlace)
	}
	w, at, e := making(w, func(m *maker) api.Val { return meth(m.method(n.Subs[0], n.Text)) })
	return outcome(w, e, at.N)
}

func shouldExpr(w api.World, a args) answer {
	n, errno := read(a.text, parse.Body)
	if errno != api.OK {
		return fails(errno)
	}
	w, at, e := making(w, func(m *maker) api.Val { return meth(m.method(n, "doIt")) })
	return outcome(w, e, at.N)
}

func shouldValue(w api.World, a args) answer {
	if parse.Check(a.n) != api.OK {
		return fails(api.ErrTree)
	}
	switch {
	case a.n.Kind == api.NNum, a.n.Kind == api.NStr, a.n.Kind == api.NObject:
	case pathNames(a.n) != nil && !slices.ContainsFunc(pathNames(a.n), func(s string) bool { return code.Arity(s) != 0 }):
	default:
		return fails(api.ErrPlace)
	}
	w, x, e := making(w, func(m *maker) api.Val { return m.value(a.n) })
	return outcome(w, e, x)
}

func shouldNamed(w api.World, a args) answer {
	if len(a.names) == 0 || slices.ContainsFunc(a.names, func(s string) bool { return parse.Arity(s) != 0 || strings.HasPrefix(s, "_") }) {
		return fails(api.ErrArg)
	}
	_, x, e := making(w, func(m *maker) api.Val { return m.path(a.names) })
	return answer{e.errno, e.name, []any{x}}
}

func shouldNames(w api.World, a args) answer {
	if !has(w, a.oid) {
		return fails(api.ErrNone)
	}
	way := least(w)[a.oid]
	if way == nil {
		return fails(api.ErrName)
	}
	return answer{all: []any{namesBy(w, way)}}
}

func shouldTree(w api.World, a args) answer {
	if !has(w, a.oid) {
		return fails(api.ErrNone)
	}
	if find(w, a.oid).Kind != api.KPlain {
		return fails(api.ErrArg)
	}
	n, errno := told(w, a.oid)
	return answer{errno, "", []any{n}}
}

func shouldPrint(w api.World, a args) answer {
	x := shouldTree(w, a)
	if x.errno != api.OK {
		return x
	}
	text, errno := parse.Print(x.all[0].(api.Node))
	return answer{errno, "", []any{text}}
}

func shouldListing(w api.World, a args) answer {
	x := shouldTree(w, a)
	if x.errno != api.OK {
		return x
	}
	l, errno := parse.Listing(x.all[0].(api.Node))
	if errno != api.OK {
		return fails(errno)
	}
	text, errno := lex.Print(l)
	return answer{errno, "", []any{text}}
}

// someArgs returns arguments for a world by chance, most of them such that something is made.
func someArgs(t testing.TB, r *rand.Rand, w api.World) args {
	t.Helper()
	how := oddly(r.Intn(2) * 25)
	a := args{oid: oneOf(r, w.Objs).Oid, n: program(r, w, how), names: someWay(r, w)}
	if r.Intn(2) == 0 {
		a.oid = w.Objs[max(api.ORoots-1, r.Intn(len(w.Objs)))].Oid
	}
	if r.Intn(3) == 0 {
		a.names[r.Intn(len(a.names))] = oneOf(r, []string{"none", "a", "lobby", "value", "b", "size"})
	}
	if text, errno := listed(a.n); errno == api.OK {
		a.text = text
	}
	switch r.Intn(4) {
	case 0: // a slot
		if n := len(a.n.Subs); n > 0 {
			a.text, _ = parse.Print(a.n.Subs[r.Intn(n)])
		}
	case 1: // a body
		g := &grower{r, how, nil, 8}
		for range 8 {
			g.paths = append(g.paths, someWay(r, w))
		}
		a.text, _ = parse.Print(g.scope(api.NMethod, nil))
	case 2: // an initial value
		g := &grower{r, how, [][]string{a.names, {"lobby"}}, 6}
		a.n = g.initial()
	}
	return a
}

// listed returns the text of an NObject as a program, if it has one.
func listed(n api.Node) (string, api.Errno) {
	l, errno := parse.Listing(n)
	if errno != api.OK {
		return "", errno
	}
	return lex.Print(l)
}

// nastyTexts are those that are wrong in some way, or of another kind than what is asked for.
var nastyTexts = []string{"", " ", "x", "x = ", "x = 3", "x = ( 3 )", "'", "\"", "#", "x = 007", "Self", "x = 1. x = 2", "x = 3. ^", "3", "^ 3", "x + 3 = ( )", "at: = 3", "\x00", "ä", "x = ( | y | )", "x = (| y |)", "self", "resend", "_Clone", "a b", "a:", "a.b", "=", "x* = lobby"}

func nastyNode(r *rand.Rand) api.Node {
	n := node(r.Intn(16)-1, oneOf(r, nastyTexts), oneOf(r, []int{0, 1, 2, 5, -1, 1 << 40, 1 << 62}))
	for range r.Intn(5) {
		n = node(r.Intn(15), oneOf(r, nastyTexts), r.Intn(3), slices.Repeat([]api.Node{n}, r.Intn(3))...)
	}
	return n
}

// spoil changes one of the arguments.
func (a *args) spoil(r *rand.Rand, w api.World) {
	switch r.Intn(5) {
	case 0:
		a.oid = oneOf(r, []int{0, -1, w.NextObj, 1 << 40, 1<<63 - 1, -1 << 63, a.oid + 1})
	case 1:
		a.text = oneOf(r, nastyTexts)
	case 2:
		if len(a.text) > 0 {
			i := r.Intn(len(a.text))
			a.text = a.text[:i] + oneOf(r, []string{"", ".", "|", "(", ")", " x ", "=", "nil", "'", "\x7f"}) + a.text[i+r.Intn(2):]
		}
	case 3:
		a.n = nastyNode(r)
	case 4:
		a.names = slices.Concat(a.names[:r.Intn(len(a.names)+1)], []string{oneOf(r, nastyTexts)})
	}
}

func TestModel(t *testing.T) {
	r := source()
	right, wrong := map[string]int{}, map[string]map[api.Errno]int{}
	for w := range worlds(t, r, 220) {
		before := copies.World(w)
		for range 6 {
			a := someArgs(t, r, w)
			for range max(0, r.Intn(5)-2) {
				a.spoil(r, w)
			}
			for _, f := range functions() {
				x, y := f.do(w, a), f.should(w, a)
				if !x.same(y) {
					t.Fatalf("%s of %d, %q, %s, %q is %s\nnot %s\nin %s", f.name, a.oid, a.text, brief(a.n), a.names, shown(x), shown(y), brief(w))
				}
				if y.errno == api.OK {
					right[f.name]++
					continue
				}
				if wrong[f.name] == nil {
					wrong[f.name] = map[api.Errno]int{}
				}
				wrong[f.name][y.errno]++
			}
		}
		if !world.Same(w, before) {
			t.Fatal("a function has changed its world")
		}
	}
	for name, errnos := range map[string][]api.Errno{
		"Into":    {api.ErrNone, api.ErrOpen, api.ErrByte, api.ErrWord, api.ErrSyntax, api.ErrTwice, api.ErrName},
		"File":    {api.ErrOpen, api.ErrByte, api.ErrWord, api.ErrSyntax, api.ErrTwice, api.ErrName},
		"Add":     {api.ErrNone, api.ErrTree, api.ErrTwice, api.ErrName, api.ErrPlace},
		"Method":  {api.ErrOpen, api.ErrByte, api.ErrWord, api.ErrSyntax, api.ErrPlace, api.ErrName},
		"Expr":    {api.ErrOpen, api.ErrByte, api.ErrWord, api.ErrSyntax, api.ErrName},
		"Value":   {api.ErrTree, api.ErrPlace, api.ErrName},
		"Named":   {api.ErrArg, api.ErrName},
		"Names":   {api.ErrNone, api.ErrName},
		"Tree":    {api.ErrNone, api.ErrArg, api.ErrName},
		"Print":   {api.ErrNone, api.ErrArg, api.ErrName},
		"Listing": {api.ErrNone, api.ErrArg, api.ErrName},
	} {
		if right[name] < 100 {
			t.Errorf("%s was right %d times", name, right[name])
		}
		for _, errno := range errnos {
			if wrong[name][errno] < 3 {
				t.Errorf("%s failed by %v %d times; all: %v", name, errno, wrong[name][errno], wrong[name])
			}
		}
	}
}

func shown(x answer) string {
	s := ""
	for _, v := range x.all {
		s += brief(v) + "\n"
	}
	return brief(x.errno) + " " + x.name + " " + s
}
