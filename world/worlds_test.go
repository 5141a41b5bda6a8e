package world_test

import (
	"fmt"
	"math/rand"
	"reflect"
	"slices"
	"testing"

	"proteus/api"
	"proteus/code"
	"proteus/lex"
	"proteus/parse"
	"proteus/world"
)

func whole(n int) api.Val     { return api.Val{K: api.VInt, N: n} }
func large(s string) api.Val  { return api.Val{K: api.VBig, T: s} }
func quoted(s string) api.Val { return api.Val{K: api.VStr, T: s} }
func ref(n int) api.Val       { return api.Val{K: api.VRef, N: n} }
func meth(at int) api.Val     { return api.Val{K: api.VMeth, N: at} }

// null is a reference to nil.
var null = ref(api.ONil)

func slot(name string, kind int, v api.Val) api.Slot { return api.Slot{Name: name, Kind: kind, V: v} }

func vals(l ...api.Val) []api.Val          { return l }
func slots(l ...api.Slot) []api.Slot       { return l }
func plain(oid int, l ...api.Slot) api.Obj { return api.Obj{Oid: oid, Kind: api.KPlain, Slots: l} }

// marked is the least of the numbers in texts that stand for references: that behind it for the object 1, and so on.
const marked = 900000

// ofText returns the code of methods, as slots have them.
func ofText(t testing.TB, methods ...string) []api.Code {
	t.Helper()
	var all []api.Code
	for _, text := range methods {
		tokens, errno, _ := lex.Lex(text)
		s, errno2, at := parse.Slot(tokens)
		if errno != api.OK || errno2 != api.OK {
			t.Fatalf("%q: %v, %v at %d", text, errno, errno2, at)
		}
		l, errno := code.Gen(s.Subs[0], s.Text, nil, len(all))
		if errno != api.OK {
			t.Fatalf("%q: %v", text, errno)
		}
		both, errno := code.Join(all, l)
		if errno != api.OK {
			t.Fatalf("Join of %q: %v", text, errno)
		}
		all = both
	}
	for at := range all {
		eachValue(&all[at], func(v *api.Val) {
			if v.K == api.VInt && v.N > marked {
				*v = ref(v.N - marked)
			}
		})
	}
	return all
}

func eachValue(c *api.Code, do func(v *api.Val)) {
	for _, l := range [][]api.Val{c.Lits, c.Init} {
		for i := range l {
			do(&l[i])
		}
	}
}

// methods are those of most worlds of the tests. The pieces that they have are told behind them.
var methods = []string{
	"total = ( | sum <- 900001. n <- 3. s <- 'a' | [ | :x. y <- 900002 | [ ^ sum + x ] value. 900003 ] value: 900004 )", // 0: method, 1: block with 1 argument, 2: block within it
	"at: i Put: v = ( v )",                     // 3
	"x = ( self )",                             // 4
	"+ o = ( [ | :a. :b | 900005 ] )",          // 5, 6: block with 2 arguments
	"loop = ( [ self _Restart ]. [ 900006 ] )", // 7, 8: block, 9: block
}

// sample is a world with objects of each kind, and activations that are done and that are not.
func sample(t testing.TB) api.World {
	t.Helper()
	w := world.Empty()
	w.Codes = ofText(t, methods...)
	w.Objs = append(w.Objs,
		plain(11, slot("x", api.SVar, whole(3)), slot("p", api.SParentVar, ref(12)), slot("q", api.SParent, ref(api.OLobby)), slot("c", api.SConst, quoted("it")), slot("at:Put:", api.SConst, meth(3))),
		api.Obj{Oid: 12, Kind: api.KVector, Slots: slots(slot("parent", api.SParent, ref(api.OVector))), Elems: vals(null, whole(7), ref(12))},
		api.Obj{Oid: 15, Kind: api.KBlock, Slots: slots(slot("parent", api.SParent, ref(api.OBlock)), slot("value:", api.SConst, meth(1)), slot("y", api.SVar, ref(11))), Code: 1, Up: 4},
		api.Obj{Oid: 16, Kind: api.KMirror, Elems: vals(ref(11))},
		api.Obj{Oid: 20, Kind: api.KSem, Elems: vals(whole(2))},
		api.Obj{Oid: 21, Kind: api.KBlock, Slots: slots(slot("value", api.SConst, meth(2))), Code: 2, Up: 6},
	)
	w.NextObj = 30
	w.Acts = []api.Act{
		{Aid: 2, Code: 4, Self: whole(5), Holder: 11, Done: true},
		{Aid: 4, Code: 0, Self: ref(11), Holder: 11, Vars: vals(null, whole(3), quoted("a")), Done: true},
		{Aid: 5, Code: 3, Self: quoted("s"), Holder: api.OString, Vars: vals(ref(16), large("9223372036854775808"))},
		{Aid: 6, Code: 1, Self: ref(12), Holder: 12, Up: 4, Vars: vals(whole(-1), ref(15))},
		{Aid: 9, Code: 2, Self: ref(20), Holder: 12, Up: 6},
	}
	w.NextAct = 12
	if !isWorld(w) {
		t.Fatal("the sample is no world")
	}
	return w
}

func source() *rand.Rand { return rand.New(rand.NewSource(5)) }

func oneOf[T any](r *rand.Rand, l []T) T { return l[r.Intn(len(l))] }

// grower makes a world by chance.
type grower struct {
	*rand.Rand
	api.World
}

func grown(t testing.TB, r *rand.Rand) api.World {
	g := &grower{r, api.World{}}
	g.numbers(r.Intn(20))
	g.code(t)
	g.activations(r.Intn(8))
	for i := range g.Objs {
		g.object(&g.Objs[i])
	}
	if !isWorld(g.World) {
		t.Fatalf("what was grown is no world:\n%s", brief(g.World))
	}
	return g.World
}

// numbers makes so many objects behind the roots, with numbers alone.
func (g *grower) numbers(count int) {
	next := 1
	for range api.ORoots + count {
		g.Objs = append(g.Objs, api.Obj{Oid: next})
		next++
		if len(g.Objs) >= api.ORoots && g.Intn(3) == 0 {
			next += 1 + g.Intn(5)
		}
	}
	g.NextObj = next + g.Intn(3)
}

// code makes code, in which references lead to any objects.
func (g *grower) code(t testing.TB) {
	l := slices.Clone(methods)
	g.Shuffle(len(l), func(i, j int) { l[i], l[j] = l[j], l[i] })
	g.Codes = ofText(t, l[:g.Intn(len(l)+1)]...)
	from := g.Intn(len(g.Objs))
	for at := range g.Codes {
		eachValue(&g.Codes[at], func(v *api.Val) {
			if v.K == api.VRef {
				v.N = g.Objs[(from+v.N)%len(g.Objs)].Oid
			}
		})
	}
}

func (g *grower) value() api.Val {
	if g.Intn(2) == 0 {
		return ref(oneOf(g.Rand, g.Objs).Oid)
	}
	return oneOf(g.Rand, []api.Val{whole(0), whole(7), whole(-1 << 63), large("-9223372036854775809"), quoted(""), quoted("so"), null})
}

func (g *grower) values(count int) []api.Val {
	var l []api.Val
	for range count {
		l = append(l, g.value())
	}
	return l
}

// activations makes so many, and those that must be there as the Up of one.
func (g *grower) activations(count int) {
	g.NextAct = 1
	if len(g.Codes) == 0 {
		return
	}
	var codes []int
	for range count {
		for at := g.Intn(len(g.Codes)); at >= 0; at = g.Codes[at].Outer {
			codes = append(codes, at)
		}
	}
	g.Shuffle(len(codes), func(i, j int) { codes[i], codes[j] = codes[j], codes[i] })
	aid := 0
	for _, at := range codes {
		aid += 1 + g.Intn(2)*g.Intn(3)
		g.Acts = append(g.Acts, api.Act{Aid: aid, Code: at, Self: g.value(), Holder: oneOf(g.Rand, g.Objs).Oid, Vars: g.values(len(g.Codes[at].Names)), Done: g.Intn(2) == 0})
	}
	for i := range g.Acts {
		if c := g.Codes[g.Acts[i].Code]; c.Block {
			g.Acts[i].Up = oneOf(g.Rand, g.of(c.Outer))
		}
	}
	g.NextAct = aid + 1 + g.Intn(3)
}

// of returns the numbers of the activations of a piece of code.
func (g *grower) of(at int) []int {
	var l []int
	for _, a := range g.Acts {
		if a.Code == at {
			l = append(l, a.Aid)
		}
	}
	return l
}

// object makes all of an object but its number.
func (g *grower) object(o *api.Obj) {
	o.Kind = 1 + g.Intn(5)
	switch o.Kind {
	case api.KVector:
		o.Elems = g.values(g.Intn(5))
	case api.KMirror:
		o.Elems = g.values(1)
	case api.KSem:
		o.Elems = vals(whole(oneOf(g.Rand, []int{0, 1, api.MaxNumber})))
	case api.KBlock:
		g.block(o)
	}
	names := []string{"x", "y", "parent", "at:Put:", "+", "size:", "value", "p", "q"}
	g.Shuffle(len(names), func(i, j int) { names[i], names[j] = names[j], names[i] })
	for _, name := range names[:g.Intn(6)] {
		if s, ok := g.slot(o, name); ok {
			o.Slots = append(o.Slots, s)
		}
	}
}

// block makes an object a block, if one of an activation can be made.
func (g *grower) block(o *api.Obj) {
	for range 10 {
		at := g.Intn(len(g.Codes) + 1)
		if at == len(g.Codes) || !g.Codes[at].Block {
			continue
		}
		if ups := g.of(g.Codes[at].Outer); len(ups) > 0 {
			o.Code, o.Up = at, oneOf(g.Rand, ups)
			return
		}
	}
	o.Kind = api.KPlain
}

// slot makes a slot with a name, if there can be one.
func (g *grower) slot(o *api.Obj, name string) (api.Slot, bool) {
	if o.Kind == api.KBlock && name == g.Codes[o.Code].Name {
		return slot(name, api.SConst, meth(o.Code)), true
	}
	if code.Arity(name) == 0 && g.Intn(4) > 0 {
		return slot(name, 1+g.Intn(4), g.value()), true
	}
	for at, c := range g.Codes {
		if !c.Block && c.Args == code.Arity(name) {
			return slot(name, api.SConst, meth(at)), true
		}
	}
	return api.Slot{}, false
}

// worlds yields valid worlds: the sample, the empty one, and others by chance.
func worlds(t testing.TB, r *rand.Rand, count int) func(yield func(w api.World) bool) {
	return func(yield func(w api.World) bool) {
		if !yield(sample(t)) || !yield(world.Empty()) {
			return
		}
		for range count {
			if !yield(grown(t, r)) {
				return
			}
		}
	}
}

// clone returns a world that shares no memory with another one.
func clone(w api.World) api.World {
	w.Objs, w.Acts, w.Codes = slices.Clone(w.Objs), slices.Clone(w.Acts), slices.Clone(w.Codes)
	for i := range w.Objs {
		o := &w.Objs[i]
		o.Slots, o.Elems = slices.Clone(o.Slots), slices.Clone(o.Elems)
	}
	for i := range w.Acts {
		w.Acts[i].Vars = slices.Clone(w.Acts[i].Vars)
	}
	for i := range w.Codes {
		c := &w.Codes[i]
		c.Names, c.Init, c.Lits, c.Sels, c.Instrs = slices.Clone(c.Names), slices.Clone(c.Init), slices.Clone(c.Lits), slices.Clone(c.Sels), slices.Clone(c.Instrs)
	}
	return w
}

// emptied returns a world in which nil stands for each empty list.
func emptied(w api.World) api.World {
	w = clone(w)
	w.Objs, w.Acts, w.Codes = orNil(w.Objs), orNil(w.Acts), orNil(w.Codes)
	for i := range w.Objs {
		o := &w.Objs[i]
		o.Slots, o.Elems = orNil(o.Slots), orNil(o.Elems)
	}
	for i := range w.Acts {
		w.Acts[i].Vars = orNil(w.Acts[i].Vars)
	}
	for i := range w.Codes {
		c := &w.Codes[i]
		c.Names, c.Init, c.Lits, c.Sels, c.Instrs = orNil(c.Names), orNil(c.Init), orNil(c.Lits), orNil(c.Sels), orNil(c.Instrs)
	}
	return w
}

func orNil[T any](l []T) []T {
	if len(l) == 0 {
		return nil
	}
	return l
}

// equal reports whether two worlds are equal, where a list that is nil is an empty one.
func equal(a, b api.World) bool { return reflect.DeepEqual(emptied(a), emptied(b)) }

// brief writes what a test shows: for a world each object and each activation on a line.
func brief(x any) string {
	s := fmt.Sprintf("%+v", x)
	if w, ok := x.(api.World); ok {
		s = fmt.Sprintf("next %d, %d, %d pieces of code\n", w.NextObj, w.NextAct, len(w.Codes))
		for _, o := range w.Objs {
			s += fmt.Sprintf("%+v\n", o)
		}
		for _, a := range w.Acts {
			s += fmt.Sprintf("%+v\n", a)
		}
	}
	if len(s) > 4000 {
		return s[:4000] + " .."
	}
	return s
}
