package world_test

import (
	"fmt"
	"math/rand"
	"slices"
	"strings"
	"testing"

	"proteus/api"
	"proteus/world"
)

// P5.1, W1 and W2; P5.2

// judged fails unless Check says of a world what the chapter does.
func judged(t testing.TB, w api.World) bool {
	t.Helper()
	want := api.ErrWorld
	if isWorld(w) {
		want = api.OK
	}
	if errno := world.Check(w); errno != want {
		t.Fatalf("Check is %v, not %v, of\n%s", errno, want, brief(w))
	}
	return want == api.OK
}

func TestEmpty(t *testing.T) {
	want := api.World{NextObj: 11, NextAct: 1}
	for oid, kind := range []int{0, api.KPlain, api.KPlain, api.KPlain, api.KPlain, api.KPlain, api.KPlain, api.KVector, api.KPlain, api.KPlain, api.KPlain} {
		if oid > 0 {
			want.Objs = append(want.Objs, api.Obj{Oid: oid, Kind: kind})
		}
	}
	if w := world.Empty(); !equal(w, want) || !judged(t, w) {
		t.Errorf("%s", brief(w))
	}
	world.Empty().Objs[0].Kind = 9
	if !equal(world.Empty(), want) {
		t.Error("what Empty returned before has changed it")
	}
}

// nasty are numbers for all fields.
var nasty = []int{-1 << 63, -2, -1, 0, 1, 2, 3, 5, 10, 11, 12, 40, 1<<40 - 1, 1 << 40, 1<<40 + 1, 1<<63 - 1}

var nastyTexts = []string{"", "x", "y", "self", "resend", "X", "size", "+", "=", "<-", "at:", "at:Put:", "at:put:", "_At:", "_Clone", "value", "value:", "value:With:", "x ", "x:", "3", "a.b", "\x00", "é", strings.Repeat("n", 24), strings.Repeat("n", 25)}

var nastyValues = []api.Val{{}, whole(3), whole(-3), whole(1 << 40), whole(1<<40 + 1), null, ref(0), ref(-1), ref(11), ref(12), ref(13), ref(1 << 40), ref(1<<40 + 1), {K: api.VRef, N: 11, T: "x"}, meth(0), meth(1), meth(2), meth(3), meth(-1), meth(1 << 40), {K: api.VMeth, T: "x"}, {K: 6}, {K: -1}, {K: api.VInt, T: "3"}, large("3"), large("9223372036854775808"), large("x"), quoted("a"), quoted("\n"), quoted("\x7f"), {K: api.VStr, N: 1, T: "a"}}

// list changes a list in one place.
func list[T any](r *rand.Rand, l []T, fresh T) []T {
	if len(l) == 0 {
		return append(l, fresh)
	}
	i := r.Intn(len(l))
	switch r.Intn(6) {
	case 0:
		return slices.Delete(l, i, i+1)
	case 1:
		return slices.Insert(l, i, fresh)
	case 2:
		l[i] = fresh
	case 3:
		return append(l, l[i])
	case 4:
		j := r.Intn(len(l))
		l[i], l[j] = l[j], l[i]
	case 5:
		return append(l, fresh)
	}
	return l
}

func number(r *rand.Rand, n int) int {
	if r.Intn(2) == 0 {
		return oneOf(r, nasty)
	}
	return n + r.Intn(3) - 1
}

// change changes a world in one place.
func change(r *rand.Rand, w *api.World) {
	switch r.Intn(12) {
	case 0:
		w.NextObj = number(r, w.NextObj)
	case 1:
		w.NextAct = number(r, w.NextAct)
	case 2:
		w.Objs = list(r, w.Objs, api.Obj{Oid: number(r, w.NextObj), Kind: r.Intn(7)})
	case 3:
		w.Acts = list(r, w.Acts, api.Act{Aid: number(r, w.NextAct), Code: r.Intn(10), Self: null, Holder: 1})
	case 4:
		w.Codes = list(r, w.Codes, api.Code{Name: "x", Outer: -1, Instrs: []api.Instr{{Op: api.OpSelf}, {Op: api.OpRet}}})
	case 5, 6, 7, 8:
		if len(w.Objs) > 0 {
			changeObject(r, &w.Objs[r.Intn(len(w.Objs))])
		}
	case 9, 10:
		if len(w.Acts) > 0 {
			changeActivation(r, &w.Acts[r.Intn(len(w.Acts))])
		}
	case 11:
		if len(w.Codes) > 0 {
			c := &w.Codes[r.Intn(len(w.Codes))]
			p := oneOf(r, []*[]api.Val{&c.Lits, &c.Init})
			*p = list(r, *p, oneOf(r, nastyValues))
		}
	}
}

func changeObject(r *rand.Rand, o *api.Obj) {
	switch r.Intn(6) {
	case 0, 1:
		p := oneOf(r, []*int{&o.Oid, &o.Kind, &o.Code, &o.Up})
		*p = number(r, *p)
	case 2:
		o.Slots = list(r, o.Slots, slot(oneOf(r, nastyTexts), r.Intn(6), oneOf(r, nastyValues)))
	case 3, 4:
		if len(o.Slots) > 0 {
			s := &o.Slots[r.Intn(len(o.Slots))]
			*s = oneOf(r, []api.Slot{slot(oneOf(r, nastyTexts), s.Kind, s.V), slot(s.Name, number(r, s.Kind), s.V), slot(s.Name, s.Kind, oneOf(r, nastyValues))})
		}
	case 5:
		o.Elems = list(r, o.Elems, oneOf(r, nastyValues))
	}
}

func changeActivation(r *rand.Rand, a *api.Act) {
	switch r.Intn(4) {
	case 0, 1:
		p := oneOf(r, []*int{&a.Aid, &a.Code, &a.Holder, &a.Up})
		*p = number(r, *p)
	case 2:
		a.Self = oneOf(r, nastyValues)
	case 3:
		a.Vars = list(r, a.Vars, oneOf(r, nastyValues))
	}
}

func TestCheckOfChangedWorlds(t *testing.T) {
	r := source()
	right, all := 0, 0
	for w := range worlds(t, r, 600) {
		judged(t, w)
		for range 150 {
			v := clone(w)
			for range 1 + r.Intn(2) {
				change(r, &v)
			}
			all++
			if judged(t, v) {
				right++
			}
		}
	}
	t.Logf("%d of %d were valid", right, all)
	if right < all/20 || right > all/2 {
		t.Errorf("%d of %d were valid", right, all)
	}
}

// Each clause of the section Valid worlds by itself: what a world may be, and what it may not.
func TestCheckPoints(t *testing.T) {
	obj := func(w *api.World, oid int) *api.Obj {
		return &w.Objs[slices.IndexFunc(w.Objs, func(o api.Obj) bool { return o.Oid == oid })]
	}
	act := func(w *api.World, aid int) *api.Act {
		return &w.Acts[slices.IndexFunc(w.Acts, func(a api.Act) bool { return a.Aid == aid })]
	}
	for _, x := range []struct {
		what  string
		valid bool
		do    func(w *api.World)
	}{
		{"as it is", true, func(w *api.World) {}},
		{"nothing", false, func(w *api.World) { *w = api.World{} }},
		// 1
		{"an object less", true, func(w *api.World) { w.Objs = slices.Delete(w.Objs, 15, 16) }},
		{"no nil", false, func(w *api.World) { w.Objs = w.Objs[1:] }},
		{"no semaphores", false, func(w *api.World) { w.Objs = slices.Delete(w.Objs, 9, 10) }},
		{"nine roots alone", false, func(w *api.World) { *w = world.Empty(); w.Objs = w.Objs[:9] }},
		{"an object 0", false, func(w *api.World) { w.Objs = slices.Insert(w.Objs, 0, plain(0)) }},
		{"an object -1", false, func(w *api.World) { w.Objs = slices.Insert(w.Objs, 0, plain(-1)) }},
		{"an object twice", false, func(w *api.World) { w.Objs = slices.Insert(w.Objs, 11, plain(11)) }},
		{"objects in another order", false, func(w *api.World) { w.Objs[13], w.Objs[14] = w.Objs[14], w.Objs[13] }},
		{"NextObj behind the last one", true, func(w *api.World) { w.NextObj = 22 }},
		{"NextObj that there is", false, func(w *api.World) { w.NextObj = 21 }},
		{"NextObj 0", false, func(w *api.World) { w.NextObj = 0 }},
		{"the greatest NextObj", true, func(w *api.World) { w.NextObj = 1 << 40 }},
		{"a greater NextObj", false, func(w *api.World) { w.NextObj = 1<<40 + 1 }},
		{"the greatest object", true, func(w *api.World) { w.Objs = append(w.Objs, plain(1<<40-1)); w.NextObj = 1 << 40 }},
		{"an object that is too great", false, func(w *api.World) { w.Objs = append(w.Objs, plain(1<<40)); w.NextObj = 1 << 40 }},
		{"an activation 1", true, func(w *api.World) { w.Acts[0].Aid = 1 }},
		{"an activation 0", false, func(w *api.World) { w.Acts[0].Aid = 0 }},
		{"an activation -1", false, func(w *api.World) { w.Acts[0].Aid = -1 }},
		{"an activation twice", false, func(w *api.World) { w.Acts = append(w.Acts[:1], w.Acts...) }},
		{"activations in another order", false, func(w *api.World) { w.Acts[0], w.Acts[1] = w.Acts[1], w.Acts[0] }},
		{"NextAct behind the last one", true, func(w *api.World) { w.NextAct = 10 }},
		{"NextAct that there is", false, func(w *api.World) { w.NextAct = 9 }},
		{"the greatest NextAct", true, func(w *api.World) { w.NextAct = 1 << 40 }},
		{"a greater NextAct", false, func(w *api.World) { w.NextAct = 1<<40 + 1 }},
		{"NextAct 1 without activations", true, func(w *api.World) { *w = world.Empty() }},
		{"NextAct 0 without activations", false, func(w *api.World) { *w = world.Empty(); w.NextAct = 0 }},
		{"code that is not right", false, func(w *api.World) { w.Codes[0].Args = 1 }},
		{"code of a block alone", false, func(w *api.World) { *w = world.Empty(); w.Codes = sample(t).Codes[1:2] }},
		{"a reference in Lits to nothing", false, func(w *api.World) { w.Codes[5].Lits = nil; w.Codes[6].Lits[0] = ref(13) }},
		{"a reference in Lits to an object", true, func(w *api.World) { w.Codes[6].Lits[0] = ref(15) }},
		{"a reference in Init to nothing", false, func(w *api.World) { w.Codes[0].Init[0] = ref(22) }},
		{"a reference in Init to an object", true, func(w *api.World) { w.Codes[0].Init[0] = ref(21) }},
		// 2
		{"the Kind 0", false, func(w *api.World) { obj(w, 11).Kind = 0 }},
		{"the Kind 6", false, func(w *api.World) { obj(w, 11).Kind = 6 }},
		{"the Kind -1", false, func(w *api.World) { obj(w, 11).Kind = -1 }},
		{"a root of another kind", true, func(w *api.World) { obj(w, 4).Kind = api.KVector }},
		{"OVector as a plain object", true, func(w *api.World) { obj(w, 7).Kind = api.KPlain }},
		{"one name twice", false, func(w *api.World) { obj(w, 11).Slots[1].Name = "x" }},
		{"one name of two methods", false, func(w *api.World) {
			obj(w, 11).Slots = append(obj(w, 11).Slots, slot("at:Put:", api.SConst, meth(3)))
		}},
		{"one name of a method and of data", false, func(w *api.World) { obj(w, 11).Slots[1] = slot("x", api.SConst, meth(4)) }},
		{"the slot kind 0", false, func(w *api.World) { obj(w, 11).Slots[0].Kind = 0 }},
		{"the slot kind SConst", true, func(w *api.World) { obj(w, 11).Slots[0].Kind = api.SConst }},
		{"the slot kind SParentVar", true, func(w *api.World) { obj(w, 11).Slots[0].Kind = api.SParentVar }},
		{"the slot kind SArg", false, func(w *api.World) { obj(w, 11).Slots[0].Kind = api.SArg }},
		{"a name that is none", false, func(w *api.World) { obj(w, 11).Slots[0].Name = "self" }},
		{"the name of a method", false, func(w *api.World) { obj(w, 11).Slots[0].Name = "x:" }},
		{"the name of a primitive", false, func(w *api.World) { obj(w, 11).Slots[0].Name = "_Clone" }},
		{"no content", false, func(w *api.World) { obj(w, 11).Slots[0].V = api.Val{} }},
		{"a number that is none", false, func(w *api.World) { obj(w, 11).Slots[0].V = large("5") }},
		{"a reference to itself", true, func(w *api.World) { obj(w, 11).Slots[0].V = ref(11) }},
		{"a parent that is no reference", true, func(w *api.World) { obj(w, 11).Slots[2].V = quoted("p") }},
		{"a reference to nothing", false, func(w *api.World) { obj(w, 11).Slots[0].V = ref(13) }},
		{"a reference to the next object", false, func(w *api.World) { obj(w, 11).Slots[0].V = ref(30) }},
		{"a method in a variable", false, func(w *api.World) { obj(w, 11).Slots[4].Kind = api.SVar }},
		{"a method as a parent", false, func(w *api.World) { obj(w, 11).Slots[0] = slot("x", api.SParent, meth(4)) }},
		{"a method with a text", false, func(w *api.World) { obj(w, 11).Slots[4].V.T = "x" }},
		{"a method of no code", false, func(w *api.World) { obj(w, 11).Slots[4].V.N = 10 }},
		{"a method -1", false, func(w *api.World) { obj(w, 11).Slots[4].V.N = -1 }},
		{"a method with another selector", true, func(w *api.World) { obj(w, 11).Slots[4].Name = "put:At:" }},
		{"a method with another arity", false, func(w *api.World) { obj(w, 11).Slots[4].Name = "at:" }},
		{"a method with a selector that is none", false, func(w *api.World) { obj(w, 11).Slots[4].Name = "at:put:" }},
		{"a method with the selector of a primitive", false, func(w *api.World) { obj(w, 11).Slots[4].Name = "_At:Put:" }},
		{"a binary method", true, func(w *api.World) { obj(w, 11).Slots[0] = slot("<=", api.SConst, meth(5)) }},
		{"the method of a block in another object", false, func(w *api.World) { obj(w, 11).Slots[0] = slot("value:", api.SConst, meth(1)) }},
		{"the method of a block in another block", false, func(w *api.World) { obj(w, 21).Slots[0] = slot("value:", api.SConst, meth(1)) }},
		{"the method of a block with another name", false, func(w *api.World) { obj(w, 15).Slots[1].Name = "with:" }},
		{"the method of a block twice", false, func(w *api.World) {
			obj(w, 15).Slots = append(obj(w, 15).Slots, slot("with:", api.SConst, meth(1)))
		}},
		{"a block with another method", true, func(w *api.World) { obj(w, 15).Slots[1] = slot("at:Put:", api.SConst, meth(3)) }},
		{"a block with another method as value:", true, func(w *api.World) { obj(w, 15).Slots[1].V = meth(5) }},
		{"a block without slots", true, func(w *api.World) { obj(w, 15).Slots = nil }},
		// 3
		{"elements of a plain object", false, func(w *api.World) { obj(w, 11).Elems = vals(null) }},
		{"elements of a block", false, func(w *api.World) { obj(w, 15).Elems = vals(null) }},
		{"a vector without elements", true, func(w *api.World) { obj(w, 12).Elems = nil }},
		{"a vector with a method", false, func(w *api.World) { obj(w, 12).Elems[1] = meth(3) }},
		{"a vector with a reference to nothing", false, func(w *api.World) { obj(w, 12).Elems[2] = ref(13) }},
		{"a mirror of nothing", false, func(w *api.World) { obj(w, 16).Elems = nil }},
		{"a mirror of a number", true, func(w *api.World) { obj(w, 16).Elems = vals(whole(-3)) }},
		{"a mirror of two things", false, func(w *api.World) { obj(w, 16).Elems = vals(null, null) }},
		{"a mirror of no value", false, func(w *api.World) { obj(w, 16).Elems = vals(api.Val{}) }},
		{"a semaphore without a count", false, func(w *api.World) { obj(w, 20).Elems = nil }},
		{"a semaphore with two counts", false, func(w *api.World) { obj(w, 20).Elems = vals(whole(1), whole(1)) }},
		{"a semaphore with the count 0", true, func(w *api.World) { obj(w, 20).Elems[0] = whole(0) }},
		{"a semaphore with the greatest count", true, func(w *api.World) { obj(w, 20).Elems[0] = whole(1 << 40) }},
		{"a semaphore with a greater count", false, func(w *api.World) { obj(w, 20).Elems[0] = whole(1<<40 + 1) }},
		{"a semaphore with the count -1", false, func(w *api.World) { obj(w, 20).Elems[0] = whole(-1) }},
		{"a semaphore with a reference", false, func(w *api.World) { obj(w, 20).Elems[0] = ref(2) }},
		{"a plain object with Code", false, func(w *api.World) { obj(w, 11).Code = 1 }},
		{"a plain object with Up", false, func(w *api.World) { obj(w, 11).Up = 4 }},
		{"a vector with Code", false, func(w *api.World) { obj(w, 12).Code = 1 }},
		{"a mirror with Up", false, func(w *api.World) { obj(w, 16).Up = 4 }},
		{"a semaphore with Code", false, func(w *api.World) { obj(w, 20).Code = -1 }},
		{"a semaphore with Up", false, func(w *api.World) { obj(w, 20).Up = 4 }},
		{"a block of the code of a method", false, func(w *api.World) { *obj(w, 15) = api.Obj{Oid: 15, Kind: api.KBlock, Code: 3, Up: 4} }},
		{"a block of the code of a method, without Up", false, func(w *api.World) { *obj(w, 15) = api.Obj{Oid: 15, Kind: api.KBlock, Code: 3} }},
		{"a block of no code", false, func(w *api.World) { obj(w, 15).Code = 10 }},
		{"a block of the code -1", false, func(w *api.World) { obj(w, 15).Code = -1 }},
		{"a block without Up", false, func(w *api.World) { obj(w, 15).Up = 0 }},
		{"a block of no activation", false, func(w *api.World) { obj(w, 15).Up = 3 }},
		{"a block of another activation", false, func(w *api.World) { obj(w, 15).Up = 5 }},
		// 4
		{"an activation of no code", false, func(w *api.World) { act(w, 2).Code = 10 }},
		{"an activation of the code -1", false, func(w *api.World) { act(w, 2).Code = -1 }},
		{"an activation without Self", false, func(w *api.World) { act(w, 2).Self = api.Val{} }},
		{"an activation of a method as Self", false, func(w *api.World) { act(w, 2).Self = meth(0) }},
		{"an activation without Holder", false, func(w *api.World) { act(w, 2).Holder = 0 }},
		{"an activation of no Holder", false, func(w *api.World) { act(w, 2).Holder = 13 }},
		{"an activation with a variable less", false, func(w *api.World) { act(w, 5).Vars = vals(null) }},
		{"an activation with a variable more", false, func(w *api.World) { act(w, 5).Vars = vals(null, null, null) }},
		{"an activation with a variable that is none", false, func(w *api.World) { act(w, 5).Vars[1] = ref(13) }},
		{"an activation of a method with Up", false, func(w *api.World) { act(w, 2).Up = 4 }},
		{"an activation of a method with Up to nothing", false, func(w *api.World) { act(w, 2).Up = -1 }},
		{"an activation of a block without Up", false, func(w *api.World) { act(w, 6).Up = 0 }},
		{"an activation of a block with Up to itself", false, func(w *api.World) { act(w, 6).Up = 6 }},
		{"an activation of a block with Up to nothing", false, func(w *api.World) { act(w, 6).Up = 3 }},
		{"an activation of a block with Up to another code", false, func(w *api.World) { act(w, 9).Up = 4 }},
		{"an activation of a block ahead of its Up", true, func(w *api.World) {
			a, b := act(w, 4), act(w, 6)
			*a, *b = *b, *a
			a.Aid, b.Aid, a.Up = 4, 6, 6
			act(w, 9).Up, obj(w, 15).Up, obj(w, 21).Up = 4, 6, 4
		}},
		{"an activation that is no longer done", true, func(w *api.World) { act(w, 2).Done = false }},
	} {
		w := sample(t)
		x.do(&w)
		if judged(t, w) != x.valid {
			t.Errorf("%s: %v", x.what, !x.valid)
		}
	}
}

// some returns objects with the numbers from one on.
func some(from, count int) []api.Obj {
	var l []api.Obj
	for n := range count {
		l = append(l, plain(from+n))
	}
	return l
}

// big returns a world with so many objects, activations, and pieces of code.
func big(t testing.TB, objs, acts, codes int) api.World {
	w := world.Empty()
	w.Objs = append(w.Objs, some(11, objs-10)...)
	w.NextObj = objs + 1
	w.Codes = slices.Repeat(ofText(t, "x = ( self )"), codes)
	for n := range acts {
		w.Acts = append(w.Acts, api.Act{Aid: n + 1, Self: null, Holder: 1})
	}
	w.NextAct = acts + 1
	return w
}

// Each limit, and one more.
func TestCheckLimits(t *testing.T) {
	var names []api.Slot
	for n := range 41 {
		names = append(names, slot("n"+fmt.Sprint(n), api.SVar, whole(n)))
	}
	with := func(o api.Obj) api.World {
		w := world.Empty()
		o.Oid = 11
		w.Objs = append(w.Objs, o)
		w.NextObj = 12
		return w
	}
	for _, x := range []struct {
		what  string
		valid bool
		w     api.World
	}{
		{"3000 objects", true, big(t, 3000, 0, 0)},
		{"3001 objects", false, big(t, 3001, 0, 0)},
		{"4000 activations", true, big(t, 10, 4000, 1)},
		{"4001 activations", false, big(t, 10, 4001, 1)},
		{"800 pieces of code", true, big(t, 10, 1, 800)},
		{"801 pieces of code", false, big(t, 10, 1, 801)},
		{"40 slots", true, with(api.Obj{Kind: api.KPlain, Slots: names[:40]})},
		{"41 slots", false, with(api.Obj{Kind: api.KPlain, Slots: names})},
		{"400 elements", true, with(api.Obj{Kind: api.KVector, Elems: slices.Repeat(vals(null), 400)})},
		{"401 elements", false, with(api.Obj{Kind: api.KVector, Elems: slices.Repeat(vals(null), 401)})},
		{"a name of 24 bytes", true, with(plain(0, slot(strings.Repeat("n", 24), api.SVar, null)))},
		{"a name of 25 bytes", false, with(plain(0, slot(strings.Repeat("n", 25), api.SVar, null)))},
		{"a string of 20000 bytes", true, with(plain(0, slot("s", api.SVar, quoted(strings.Repeat("s", 20000)))))},
		{"a string of 20001 bytes", false, with(plain(0, slot("s", api.SVar, quoted(strings.Repeat("s", 20001)))))},
		{"a number of 400 digits", true, with(plain(0, slot("n", api.SVar, large(strings.Repeat("1", 400)))))},
		{"a number of 401 digits", false, with(plain(0, slot("n", api.SVar, large(strings.Repeat("1", 401)))))},
	} {
		if judged(t, x.w) != x.valid {
			t.Errorf("%s: %v", x.what, !x.valid)
		}
	}
}
