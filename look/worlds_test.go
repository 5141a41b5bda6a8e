package look_test

import (
	"fmt"
	"math/rand"
	"slices"
	"strings"
	"testing"

	"proteus/api"
	"proteus/code"
	"proteus/lex"
	"proteus/parse"
	"proteus/world"
)

func whole(n int) api.Val     { return api.Val{K: api.VInt, N: n} }
func large(s string) api.Val  { return api.Val{K: api.VBig, T: s} }
func quoted(s string) api.Val { return api.Val{K: api.VStr, T: s} }
func ref(n int) api.Val       { return api.Val{K: api.VRef, N: n} }
func meth(at int) api.Val     { return api.Val{K: api.VMeth, N: at} }

// null is a reference to nil.
var null = ref(api.ONil)

func constant(name string, v api.Val) api.Slot {
	return api.Slot{Name: name, Kind: api.SConst, V: v}
}
func variable(name string, v api.Val) api.Slot { return api.Slot{Name: name, Kind: api.SVar, V: v} }
func parent(name string, v api.Val) api.Slot   { return api.Slot{Name: name, Kind: api.SParent, V: v} }
func changing(name string, v api.Val) api.Slot {
	return api.Slot{Name: name, Kind: api.SParentVar, V: v}
}

func slots(l ...api.Slot) []api.Slot { return l }

// ofText returns the code of methods, as slots have them.
func ofText(t testing.TB, methods ...string) []api.Code {
	t.Helper()
	var all []api.Code
	for _, text := range methods {
		tokens, errno, _ := lex.Lex(text)
		s, errno2, at := parse.Slot(tokens)
		if errno != api.OK || errno2 != api.OK {
			t.Fatalf("%q: %v, %v at %d", text, errno, errno2, at)
		}
		l, errno := code.Gen(s.Subs[0], s.Text, nil, len(all))
		if errno != api.OK {
			t.Fatalf("%q: %v", text, errno)
		}
		both, errno := code.Join(all, l)
		if errno != api.OK {
			t.Fatalf("Join of %q: %v", text, errno)
		}
		all = both
	}
	return all
}

// methods are those of most worlds of the tests. The pieces that they have are told behind them.
var methods = []string{
	"total = ( | x <- 1. n <- 3. y <- 'a' | [ | :x. z <- 2 | [ | :n. y <- 5 | x ] value: 3 ] value: 4 )", // 0: method, 1: block with x, 2: block with n within it
	"at: x Put: y = ( | z | [ | y | z ] )", // 3, 4: block
	"x = ( self )",                         // 5
	"+ y = ( [ | :x. :p | y ] )",           // 6, 7: block with 2 arguments
	"y: x = ( x )",                         // 8
	"deep: q = ( [ [ | q | [ q: 2 ] ] ] )", // 9 to 12
	"x: value = ( | x <- 2. n <- 3 | )",    // 13
}

func withObjects(w api.World, l ...api.Obj) api.World {
	w.Objs = append(w.Objs, l...)
	w.NextObj = w.Objs[len(w.Objs)-1].Oid + 1
	return w
}

func plain(oid int, l ...api.Slot) api.Obj { return api.Obj{Oid: oid, Kind: api.KPlain, Slots: l} }

// example is the world of the section Examples.
func example() api.World {
	return withObjects(world.Empty(),
		plain(11, constant("x", whole(1)), parent("p", ref(12)), parent("q", ref(13))),
		plain(12, variable("y", whole(2)), parent("r", ref(14))),
		plain(13, constant("y", whole(3)), parent("r", ref(14))),
		plain(14, constant("z", whole(4)), parent("up", ref(11))),
	)
}

// sample is a world with what the others by chance have: slots of all kinds, parents that are numbers and strings, methods, and activations within one another.
func sample(t testing.TB) api.World {
	t.Helper()
	w := example()
	w.Codes = ofText(t, methods...)
	w = withObjects(w,
		plain(20, changing("p", whole(-3)), parent("s", quoted("s")), parent("b", large("9223372036854775808")), constant("at:Put:", meth(3)), variable("n", ref(20))),
		plain(21, variable("y", whole(1)), constant("y:", meth(8)), changing("z", ref(21)), parent("t", ref(20))),
		api.Obj{Oid: 25, Kind: api.KBlock, Slots: slots(parent("parent", ref(api.OBlock)), constant("value:", meth(1))), Code: 1, Up: 2},
		plain(26, changing("p", ref(11)), variable("q", null), parent("r", ref(26))),
	)
	w.Objs[api.OInteger-1].Slots = slots(constant("i", whole(1)), constant("+", meth(6)))
	w.Objs[api.OString-1].Slots = slots(variable("i", whole(2)), parent("p", ref(api.OInteger)))
	w.Acts = []api.Act{
		{Aid: 2, Code: 0, Self: ref(11), Holder: 11, Vars: []api.Val{whole(1), whole(3), quoted("a")}, Done: true},
		{Aid: 3, Code: 1, Self: whole(5), Holder: 12, Up: 2, Vars: []api.Val{whole(4), whole(2)}},
		{Aid: 7, Code: 2, Self: ref(21), Holder: 11, Up: 3, Vars: []api.Val{whole(3), whole(5)}},
		{Aid: 8, Code: 5, Self: quoted("s"), Holder: api.OString},
		{Aid: 9, Code: 6, Self: large("-9223372036854775809"), Holder: api.OInteger, Vars: []api.Val{null}},
	}
	w.NextAct = 12
	return mustBeWorld(t, w)
}

func mustBeWorld(t testing.TB, w api.World) api.World {
	t.Helper()
	if errno := world.Check(w); errno != api.OK {
		t.Fatalf("%v: no world:\n%s", errno, brief(w))
	}
	return w
}

func source() *rand.Rand { return rand.New(rand.NewSource(6)) }

func oneOf[T any](r *rand.Rand, l []T) T { return l[r.Intn(len(l))] }

// grower makes a world by chance, in which most slots lead to parents.
type grower struct {
	*rand.Rand
	api.World
}

func grown(t testing.TB, r *rand.Rand) api.World {
	t.Helper()
	g := &grower{r, api.World{}}
	g.numbers(1 + r.Intn(12))
	l := slices.Clone(methods)
	g.Shuffle(len(l), func(i, j int) { l[i], l[j] = l[j], l[i] })
	g.Codes = ofText(t, l[:g.Intn(len(l)+1)]...)
	g.activations(r.Intn(8))
	crowd := 2 + r.Intn(4) // how many parents an object has at most
	for i := range g.Objs {
		g.object(&g.Objs[i], crowd)
	}
	return mustBeWorld(t, g.World)
}

// numbers makes so many objects behind the roots, with numbers alone.
func (g *grower) numbers(count int) {
	next := 1
	for range api.ORoots + count {
		g.Objs = append(g.Objs, api.Obj{Oid: next})
		next++
		if len(g.Objs) >= api.ORoots && g.Intn(3) == 0 {
			next += 1 + g.Intn(5)
		}
	}
	g.NextObj = next + g.Intn(3)
}

// value returns a value of the world, most often a reference to an object behind the roots.
func (g *grower) value() api.Val {
	switch g.Intn(10) {
	case 0:
		return oneOf(g.Rand, []api.Val{whole(0), whole(-1 << 63), large("-9223372036854775809"), quoted(""), quoted("so"), null})
	case 1:
		return ref(oneOf(g.Rand, g.Objs).Oid)
	}
	return ref(oneOf(g.Rand, g.Objs[api.ORoots:]).Oid)
}

func (g *grower) values(count int) []api.Val {
	var l []api.Val
	for range count {
		l = append(l, g.value())
	}
	return l
}

// activations makes so many, and those that must be there as the Up of one.
func (g *grower) activations(count int) {
	g.NextAct = 1
	if len(g.Codes) == 0 {
		return
	}
	var codes []int
	for range count {
		for at := g.Intn(len(g.Codes)); at >= 0; at = g.Codes[at].Outer {
			codes = append(codes, at)
		}
	}
	g.Shuffle(len(codes), func(i, j int) { codes[i], codes[j] = codes[j], codes[i] })
	aid := 0
	for _, at := range codes {
		aid += 1 + g.Intn(2)*g.Intn(3)
		g.Acts = append(g.Acts, api.Act{Aid: aid, Code: at, Self: g.value(), Holder: oneOf(g.Rand, g.Objs).Oid, Vars: g.values(len(g.Codes[at].Names)), Done: g.Intn(2) == 0})
	}
	for i := range g.Acts {
		if c := g.Codes[g.Acts[i].Code]; c.Block {
			g.Acts[i].Up = oneOf(g.Rand, g.of(c.Outer))
		}
	}
	g.NextAct = aid + 1 + g.Intn(3)
}

// of returns the numbers of the activations of a piece of code.
func (g *grower) of(at int) []int {
	var l []int
	for _, a := range g.Acts {
		if a.Code == at {
			l = append(l, a.Aid)
		}
	}
	return l
}

// object makes all of an object but its number.
func (g *grower) object(o *api.Obj, crowd int) {
	o.Kind = api.KPlain
	switch g.Intn(8) {
	case 0:
		o.Kind = api.KVector
		o.Elems = g.values(g.Intn(3))
	case 1:
		g.block(o)
	}
	if o.Oid <= api.ORoots && g.Intn(3) > 0 {
		return
	}
	// Many parents, and little that matches, so that lookups go far.
	names := slices.Concat(g.some([]string{"p", "q", "r", "s", "t"}, g.Intn(crowd+1)), g.some([]string{"x", "y", "z", "at:Put:", "+", "y:", "value"}, g.Intn(3)))
	for _, name := range g.some(names, len(names)) {
		if s, ok := g.slot(o, name); ok {
			o.Slots = append(o.Slots, s)
		}
	}
}

// some returns so many of some names, in any order.
func (g *grower) some(names []string, count int) []string {
	names = slices.Clone(names)
	g.Shuffle(len(names), func(i, j int) { names[i], names[j] = names[j], names[i] })
	return names[:count]
}

// block makes an object a block, if one of an activation can be made.
func (g *grower) block(o *api.Obj) {
	for range 10 {
		at := g.Intn(len(g.Codes) + 1)
		if at == len(g.Codes) || !g.Codes[at].Block {
			continue
		}
		if ups := g.of(g.Codes[at].Outer); len(ups) > 0 {
			o.Kind, o.Code, o.Up = api.KBlock, at, oneOf(g.Rand, ups)
			return
		}
	}
}

// slot makes a slot with a name, if there can be one.
func (g *grower) slot(o *api.Obj, name string) (api.Slot, bool) {
	if o.Kind == api.KBlock && name == g.Codes[o.Code].Name {
		return constant(name, meth(o.Code)), true
	}
	if code.Arity(name) == 0 && g.Intn(8) > 0 {
		kind := oneOf(g.Rand, []int{api.SConst, api.SVar, api.SVar, api.SParentVar})
		if strings.Contains("pqrst", name) && g.Intn(8) > 0 {
			kind = oneOf(g.Rand, []int{api.SParent, api.SParentVar})
		}
		return api.Slot{Name: name, Kind: kind, V: g.value()}, true
	}
	for at, c := range g.Codes {
		if !c.Block && c.Args == code.Arity(name) {
			return constant(name, meth(at)), true
		}
	}
	return api.Slot{}, false
}

// worlds yields valid worlds: the ones written out, the empty one, and others by chance.
func worlds(t testing.TB, r *rand.Rand, count int) func(yield func(w api.World) bool) {
	return func(yield func(w api.World) bool) {
		for _, w := range []api.World{example(), sample(t), world.Empty()} {
			if !yield(w) {
				return
			}
		}
		for range count {
			if !yield(grown(t, r)) {
				return
			}
		}
	}
}

// selectors are those that are looked for.
var selectors = []string{"x", "y", "z", "p", "n", "i", "x:", "y:", "z:", "p:", "q:", "value", "value:", "at:Put:", "+", "foo", "foo:", "value:With:"}

// clone returns a world that shares no memory with another one.
func clone(w api.World) api.World {
	w.Objs, w.Acts, w.Codes = slices.Clone(w.Objs), slices.Clone(w.Acts), slices.Clone(w.Codes)
	for i := range w.Objs {
		o := &w.Objs[i]
		o.Slots, o.Elems = slices.Clone(o.Slots), slices.Clone(o.Elems)
	}
	for i := range w.Acts {
		w.Acts[i].Vars = slices.Clone(w.Acts[i].Vars)
	}
	for i := range w.Codes {
		c := &w.Codes[i]
		c.Names, c.Init, c.Lits, c.Sels, c.Instrs = slices.Clone(c.Names), slices.Clone(c.Init), slices.Clone(c.Lits), slices.Clone(c.Sels), slices.Clone(c.Instrs)
	}
	return w
}

// brief writes what a test shows: for a world each object and each activation on a line.
func brief(x any) string {
	s := fmt.Sprintf("%+v", x)
	if w, ok := x.(api.World); ok {
		s = fmt.Sprintf("next %d, %d\n", w.NextObj, w.NextAct)
		for _, o := range w.Objs {
			s += fmt.Sprintf("%+v\n", o)
		}
		for _, a := range w.Acts {
			s += fmt.Sprintf("%+v of %v\n", a, w.Codes[max(0, min(a.Code, len(w.Codes)-1))].Names)
		}
	}
	if len(s) > 4000 {
		return s[:4000] + " .."
	}
	return s
}
