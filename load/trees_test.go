package load_test

import (
	"fmt"
	"math/rand"
	"slices"
	"strings"
	"testing"

	"proteus/api"
	"proteus/copies"
	"proteus/lex"
	"proteus/load"
	"proteus/parse"
	"proteus/world"
)

// What the tests make trees, texts and worlds of: short names, and chance.

func node(kind int, text string, num int, subs ...api.Node) api.Node {
	return api.Node{Kind: kind, Text: text, Num: num, Subs: subs}
}

func num(text string) api.Node                    { return node(api.NNum, text, 0) }
func str(text string) api.Node                    { return node(api.NStr, text, 0) }
func self() api.Node                              { return node(api.NSelf, "", 0) }
func object(slots ...api.Node) api.Node           { return node(api.NObject, "", 0, slots...) }
func method(slots int, subs ...api.Node) api.Node { return node(api.NMethod, "", slots, subs...) }
func block(slots int, subs ...api.Node) api.Node  { return node(api.NBlock, "", slots, subs...) }
func constant(name string, sub api.Node) api.Node { return node(api.NSlot, name, api.SConst, sub) }
func variable(name string, subs ...api.Node) api.Node {
	return node(api.NSlot, name, api.SVar, subs...)
}
func parent(name string, sub api.Node) api.Node  { return node(api.NSlot, name, api.SParent, sub) }
func arg(name string) api.Node                   { return node(api.NSlot, name, api.SArg) }
func send(sel string, subs ...api.Node) api.Node { return node(api.NSend, sel, 0, subs...) }
func imp(sel string, subs ...api.Node) api.Node  { return node(api.NImp, sel, 0, subs...) }
func ret(sub api.Node) api.Node                  { return node(api.NReturn, "", 0, sub) }
func meaning(n int) api.Node                     { return node(api.NValue, "", n) }

func whole(n int) api.Val     { return api.Val{K: api.VInt, N: n} }
func large(s string) api.Val  { return api.Val{K: api.VBig, T: s} }
func quoted(s string) api.Val { return api.Val{K: api.VStr, T: s} }
func ref(n int) api.Val       { return api.Val{K: api.VRef, N: n} }
func meth(at int) api.Val     { return api.Val{K: api.VMeth, N: at} }

// null is a reference to nil.
var null = ref(api.ONil)

func slotOf(name string, kind int, v api.Val) api.Slot { return api.Slot{Name: name, Kind: kind, V: v} }

func plain(oid int, l ...api.Slot) api.Obj { return api.Obj{Oid: oid, Kind: api.KPlain, Slots: l} }

// tree returns the tree of a text that is right.
func tree(t testing.TB, text string, parse func(l []api.Token) (api.Node, api.Errno, int)) api.Node {
	t.Helper()
	l, errno, _ := lex.Lex(text)
	n, errnoOf, at := parse(l)
	if errno != api.OK || errnoOf != api.OK {
		t.Fatalf("%q: %v, %v at %d", text, errno, errnoOf, at)
	}
	return n
}

// textOf returns the text of an NObject as a program.
func textOf(t testing.TB, n api.Node) string {
	t.Helper()
	l, errno := parse.Listing(n)
	text, errnoOf := lex.Print(l)
	if errno != api.OK || errnoOf != api.OK {
		t.Fatalf("no text of %s: %v, %v", brief(n), errno, errnoOf)
	}
	return text
}

func cloneTree(n api.Node) api.Node {
	n.Subs = slices.Clone(n.Subs)
	for i := range n.Subs {
		n.Subs[i] = cloneTree(n.Subs[i])
	}
	return n
}

// filed returns a world in whose lobby there are the slots of texts.
func filed(t testing.TB, w api.World, texts ...string) api.World {
	t.Helper()
	for _, text := range texts {
		v, errno, name := load.File(w, text)
		if errno != api.OK || name != "" {
			t.Fatalf("File of %q: %v, %q", text, errno, name)
		}
		w = mustBeWorld(t, v)
	}
	return w
}

func mustBeWorld(t testing.TB, w api.World) api.World {
	t.Helper()
	if errno := world.Check(w); errno != api.OK {
		t.Fatalf("%v: no world:\n%s", errno, brief(w))
	}
	return w
}

func source() *rand.Rand { return rand.New(rand.NewSource(7)) }

func oneOf[T any](r *rand.Rand, l []T) T { return l[r.Intn(len(l))] }

// oddly is how often what is wrong comes into trees that are made by chance: one time in so many; never, if it is 0.
type oddly int

// grower makes trees by chance, for a world in which some paths have values.
type grower struct {
	*rand.Rand
	oddly
	paths [][]string
	left  int // how many objects and methods may still come, about
}

func (g *grower) odd() bool { return g.oddly > 0 && g.Intn(int(g.oddly)) == 0 }

var names = []string{"a", "b", "c", "d", "e", "x1", "value", "lobby2"}

// program makes an NObject whose slots are to be added to an object.
func program(r *rand.Rand, w api.World, how oddly) api.Node {
	g := &grower{r, how, nil, 4 + r.Intn(12)}
	for range 12 {
		g.paths = append(g.paths, someWay(r, w))
	}
	return g.object()
}

// someWay returns a path by chance that leads somewhere.
func someWay(r *rand.Rand, w api.World) []string {
	var l []string
	for v, steps := ref(api.OLobby), 1+r.Intn(4); v.K == api.VRef && len(l) < steps; {
		var o api.Obj
		for _, x := range w.Objs {
			if x.Oid == v.N {
				o = x
			}
		}
		o.Slots = slices.DeleteFunc(slices.Clone(o.Slots), func(s api.Slot) bool { return s.V.K == api.VMeth })
		if len(o.Slots) == 0 {
			break
		}
		s := o.Slots[r.Intn(len(o.Slots))]
		l, v = append(l, s.Name), s.V
	}
	if len(l) == 0 {
		return []string{"nil"}
	}
	return l
}

// some returns so many of some names, in any order; now and then one of them twice.
func (g *grower) some(l []string, count int) []string {
	l = slices.Clone(l)
	g.Shuffle(len(l), func(i, j int) { l[i], l[j] = l[j], l[i] })
	l = l[:min(count, len(l))]
	if len(l) > 1 && g.odd() {
		l[g.Intn(len(l))] = l[0]
	}
	return l
}

func (g *grower) object() api.Node {
	n := object()
	for _, name := range g.some(append(slices.Clone(names), "+", "at:", "at:Put:", "size", "do:With:"), g.Intn(6)) {
		n.Subs = append(n.Subs, g.slot(name))
	}
	return n
}

func (g *grower) slot(name string) api.Node {
	g.left--
	arity := parse.Arity(name)
	switch {
	case arity > 0 || g.left > 0 && g.Intn(3) == 0:
		var args []api.Node
		for _, x := range g.some(names, arity) {
			args = append(args, arg(x))
		}
		n := g.scope(api.NMethod, args)
		if arity == 0 && n.Num == len(n.Subs) {
			n.Subs = append(n.Subs, self())
		}
		return constant(name, n)
	case g.Intn(5) == 0:
		return variable(name)
	}
	return node(api.NSlot, name, api.SConst+g.Intn(4), g.initial())
}

func (g *grower) initial() api.Node {
	switch g.Intn(8) {
	case 0:
		return num(oneOf(g.Rand, []string{"0", "3", "17", "9223372036854775807", "9223372036854775808", strings.Repeat("9", 400)}))
	case 1:
		return str(oneOf(g.Rand, []string{"", "so", "it's ~ ", "a"}))
	case 2, 3, 4:
		if g.left > 0 {
			g.left--
			return g.object()
		}
	case 5:
		if g.odd() {
			return meaning(g.Intn(3))
		}
	}
	l := slices.Clone(oneOf(g.Rand, g.paths))
	if g.odd() {
		l[g.Intn(len(l))] = oneOf(g.Rand, []string{"none", "parent", "a", "b", "size"})
	}
	if g.odd() {
		l = append(l, oneOf(g.Rand, names))
	}
	return path(l...)
}

// path returns the tree of a path.
func path(l ...string) api.Node {
	n := imp(l[0])
	for _, name := range l[1:] {
		n = send(name, n)
	}
	return n
}

// scope makes an NMethod or NBlock, with other slots behind some.
func (g *grower) scope(kind int, slots []api.Node) api.Node {
	for _, name := range g.some([]string{"u", "v", "w"}, max(0, g.Intn(6)-2)) {
		if g.Intn(3) == 0 {
			slots = append(slots, variable(name))
		} else {
			slots = append(slots, variable(name, g.initial()))
		}
	}
	n := node(kind, "", len(slots), slots...)
	for range g.Intn(4) {
		n.Subs = append(n.Subs, g.expression(3))
	}
	if last := len(n.Subs) - 1; last >= n.Num && g.Intn(4) == 0 {
		n.Subs[last] = ret(n.Subs[last])
	}
	return n
}

func (g *grower) expressions(count, depth int) []api.Node {
	var l []api.Node
	for range count {
		l = append(l, g.expression(depth))
	}
	return l
}

func (g *grower) expression(depth int) api.Node {
	if g.odd() && g.Intn(2) == 0 {
		return meaning(g.Intn(3))
	}
	sel := oneOf(g.Rand, []string{"a", "size", "+", "at:", "at:Put:"})
	switch k := g.Intn(10); {
	case k < 2 || depth == 0:
		return oneOf(g.Rand, []api.Node{num("5"), num("9223372036854775808"), str("s"), self(), imp("a"), imp("lobby"), send("b", imp("a"))})
	case k < 5:
		if g.left > 0 {
			g.left--
			return g.object()
		}
	case k < 6:
		return g.scope(api.NBlock, nil)
	case k < 7:
		fails := g.Intn(2)
		return node(api.NPrim, "_At:", fails, g.expressions(2+fails, depth-1)...)
	case k < 8:
		return node(api.NResend, "p."+sel, 0, g.expressions(parse.Arity(sel), depth-1)...)
	}
	return send(sel, g.expressions(1+parse.Arity(sel), depth-1)...)
}

// grown returns a world by chance: of programs that were loaded, and with changes that no text makes.
func grown(t testing.TB, r *rand.Rand) api.World {
	t.Helper()
	w := load.Basic()
	if r.Intn(10) == 0 {
		w = world.Empty()
	}
	for range 1 + r.Intn(4) {
		oid := api.OLobby
		if r.Intn(3) == 0 {
			oid = oneOf(r, w.Objs).Oid
		}
		if v, errno, _ := load.Add(w, oid, program(r, w, 0)); errno == api.OK {
			w = v
		}
	}
	if r.Intn(3) > 0 {
		w = twisted(t, r, w)
	}
	return mustBeWorld(t, w)
}

// twisted returns a world that no text makes: with other kinds of objects, activations, and other values.
func twisted(t testing.TB, r *rand.Rand, w api.World) api.World {
	t.Helper()
	w.NextObj += r.Intn(3)
	for range r.Intn(4) {
		if v, _, errno := world.Make(w, api.KVector+2*r.Intn(2), nil, []api.Val{someValue(r, w)}); errno == api.OK && r.Intn(2) == 0 {
			w = v
		}
		if v, _, errno := world.Make(w, api.KSem, nil, []api.Val{whole(r.Intn(3))}); errno == api.OK && r.Intn(2) == 0 {
			w = v
		}
	}
	w = activated(r, w)
	w = copies.World(w)
	for i := range w.Objs {
		for j := range w.Objs[i].Slots {
			s := &w.Objs[i].Slots[j]
			if s.V.K == api.VMeth || r.Intn(4) > 0 {
				continue
			}
			s.V = someValue(r, w)
			s.Kind = 1 + r.Intn(4)
		}
	}
	for i := range w.Codes {
		c := &w.Codes[i]
		for j := range c.Init {
			if r.Intn(3) == 0 {
				c.Init[j] = someValue(r, w)
			}
		}
		for j := range c.Lits {
			if v := someValue(r, w); r.Intn(3) == 0 && !slices.Contains(c.Lits, v) {
				c.Lits[j] = v
			}
		}
	}
	return mustBeWorld(t, w)
}

// activated returns a world with activations of methods, and blocks made in them.
func activated(r *rand.Rand, w api.World) api.World {
	for at, c := range w.Codes {
		up := 0
		for _, a := range w.Acts {
			if c.Block && a.Code == c.Outer {
				up = a.Aid
			}
		}
		if r.Intn(2) == 0 || c.Block && up == 0 {
			continue
		}
		if v, _, errno := world.Call(w, at, someValue(r, w), oneOf(r, w.Objs).Oid, up, slices.Repeat([]api.Val{null}, c.Args)); errno == api.OK {
			w = v
		}
		if !c.Block {
			continue
		}
		if v, _, errno := world.Block(w, at, up); errno == api.OK {
			w = v
		}
	}
	return w
}

// someValue returns a value of the world by chance, most often a reference to an object behind the roots, or the lobby.
func someValue(r *rand.Rand, w api.World) api.Val {
	switch r.Intn(8) {
	case 0:
		return oneOf(r, []api.Val{whole(0), whole(-3), whole(1<<63 - 1), whole(-1 << 63), large("9223372036854775808"), large("-9223372036854775809"), quoted(""), quoted("it's"), null})
	case 1:
		return oneOf(r, []api.Val{ref(api.OLobby), ref(api.OVector), ref(api.OString)})
	}
	return ref(w.Objs[max(api.ORoots-1, r.Intn(len(w.Objs)))].Oid)
}

// worlds yields valid worlds: small ones, and others by chance.
func worlds(t testing.TB, r *rand.Rand, count int) func(yield func(w api.World) bool) {
	return func(yield func(w api.World) bool) {
		for _, w := range []api.World{load.Basic(), world.Empty(), sample(t)} {
			if !yield(w) {
				return
			}
		}
		for range count {
			if !yield(grown(t, r)) {
				return
			}
		}
	}
}

// sample is a world with what the chapter names: objects within objects, paths of several names, methods with both, several ways to an object, circles.
func sample(t testing.TB) api.World {
	t.Helper()
	return filed(t, load.Basic(),
		"x = 3. y <- x. p = (| a. b = 'so'. q = (| up* = lobby. r = (| z <- y |) |) |). s = p b",
		"m = ( | k <- p q r. l <- (| n = p |) | [ | i <- x. j | (| o = ( (| u |) ) |) ]. (| v* <- p. w = 7 |) )",
		"at: i Put: v = ( p q at: i Put: v )",
		"more = (| p2 = p q. q2 = (| me = lobby |). f = ( self ) |)",
	)
}

// brief returns anything as a text that is not too long: of a world each object and each piece of code on a line, of a tree its text.
func brief(x any) string {
	s := fmt.Sprintf("%+v", x)
	switch x := x.(type) {
	case api.World:
		s = fmt.Sprintf("next %d, %d\n", x.NextObj, x.NextAct)
		for _, o := range x.Objs {
			s += fmt.Sprintf("%+v\n", o)
		}
		for i, c := range x.Codes {
			s += fmt.Sprintf("%d: %+v\n", i, c)
		}
		for _, a := range x.Acts {
			s += fmt.Sprintf("%+v\n", a)
		}
	case api.Node:
		if text, errno := parse.Print(x); errno == api.OK {
			s = text
		}
	}
	if len(s) > 6000 {
		return s[:6000] + " .."
	}
	return s
}
