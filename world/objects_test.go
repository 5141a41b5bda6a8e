package world_test

import (
	"slices"
	"strings"
	"testing"

	"proteus/api"
	"proteus/world"
)

// P5.1: the rows of the section Examples.
func TestExamples(t *testing.T) {
	must := func(errno api.Errno) {
		t.Helper()
		if errno != api.OK {
			t.Fatal(errno)
		}
	}
	w, n, errno := world.Make(world.Empty(), api.KPlain, slots(slot("x", api.SVar, whole(3))), nil)
	if must(errno); n != 11 {
		t.Errorf("Make: %d", n)
	}
	v, errno := world.Get(w, 11, "x")
	if must(errno); v != whole(3) {
		t.Errorf("Get: %v", v)
	}
	put, errno := world.Put(w, 11, "x", whole(4))
	must(errno)
	v, errno = world.Get(put, 11, "x")
	if must(errno); v != whole(4) {
		t.Errorf("Get of what was put: %v", v)
	}
	w, n, errno = world.Clone(w, 11)
	if must(errno); n != 12 {
		t.Errorf("Clone: %d", n)
	}
	v, errno = world.Get(w, 12, "x")
	if must(errno); v != whole(3) {
		t.Errorf("Get of the clone: %v", v)
	}
	vector, n, errno := world.Make(world.Empty(), api.KVector, nil, vals(null, whole(7)))
	if must(errno); n != 11 {
		t.Errorf("Make of a vector: %d", n)
	}
	v, errno = world.Elem(vector, 11, 1)
	if must(errno); v != whole(7) {
		t.Errorf("Elem: %v", v)
	}
	if none, errno := world.Put(w, 11, "y", whole(1)); errno != api.ErrNone || !equal(none, api.World{}) {
		t.Errorf("Put of y: %v", errno)
	}
	if none, n, errno := world.Make(world.Empty(), api.KPlain, slots(slot("x", api.SConst, ref(99))), nil); errno != api.ErrArg || n != 0 || !equal(none, api.World{}) {
		t.Errorf("Make with a reference to nothing: %v", errno)
	}
	normal, objs, acts, errno := world.Norm(w, vals(ref(12)), nil)
	must(errno)
	want := world.Empty()
	want.Objs, want.NextObj = append(want.Objs, plain(11, slot("x", api.SVar, whole(3)))), 12
	pairs := [][2]int{{1, 1}, {2, 2}, {3, 3}, {4, 4}, {5, 5}, {6, 6}, {7, 7}, {8, 8}, {9, 9}, {10, 10}, {12, 11}}
	if !equal(normal, want) || !slices.Equal(objs, pairs) || len(acts) > 0 {
		t.Errorf("Norm: %v %v\n%s", objs, acts, brief(normal))
	}
	if ok, errno := world.Has(world.Empty(), ref(3)); errno != api.OK || !ok {
		t.Errorf("Has: %v %v", ok, errno)
	}
}

// W4: values of the world, and what is none, which is no error.
func TestHas(t *testing.T) {
	w := sample(t)
	for _, x := range []struct {
		v  api.Val
		is bool
	}{
		{whole(0), true}, {whole(-1 << 63), true}, {large("9223372036854775808"), true}, {quoted(""), true}, {quoted("so"), true},
		{ref(1), true}, {ref(10), true}, {ref(11), true}, {ref(21), true},
		{ref(0), false}, {ref(-1), false}, {ref(13), false}, {ref(22), false}, {ref(30), false}, {ref(1 << 40), false}, {ref(1<<63 - 1), false},
		{api.Val{K: api.VRef, N: 11, T: "x"}, false}, {api.Val{}, false}, {meth(0), false}, {large("7"), false}, {quoted("\n"), false},
		{quoted(strings.Repeat("s", 20000)), true}, {quoted(strings.Repeat("s", 20001)), false}, {api.Val{K: 6}, false}, {api.Val{K: -1}, false},
	} {
		if is, errno := world.Has(w, x.v); errno != api.OK || is != x.is {
			t.Errorf("Has of %s: %v, %v", brief(x.v), is, errno)
		}
	}
}

// W3: any two worlds are compared, valid or not; each field counts, and a list that is nil is an empty one.
func TestSame(t *testing.T) {
	r := source()
	count := 0
	for w := range worlds(t, r, 100) {
		if !world.Same(w, emptied(w)) || !world.Same(emptied(w), w) {
			t.Fatalf("not the same as with nil:\n%s", brief(w))
		}
		for range 40 {
			v := clone(w)
			for range 1 + r.Intn(3) {
				change(r, &v)
			}
			if world.Same(w, v) != equal(w, v) || world.Same(v, w) != equal(w, v) || !world.Same(v, clone(v)) {
				t.Fatalf("%v of\n%s\nand\n%s", world.Same(w, v), brief(w), brief(v))
			}
			if equal(w, v) {
				count++
			}
		}
	}
	if count == 0 {
		t.Error("no change changed nothing")
	}
	for _, do := range []func(w *api.World){
		func(w *api.World) { w.NextObj++ }, func(w *api.World) { w.NextAct++ },
		func(w *api.World) { w.Objs = w.Objs[:15] }, func(w *api.World) { w.Acts = w.Acts[:4] }, func(w *api.World) { w.Codes = w.Codes[:4] },
		func(w *api.World) { w.Objs[11].Oid++ }, func(w *api.World) { w.Objs[11].Kind++ }, func(w *api.World) { w.Objs[11].Code++ }, func(w *api.World) { w.Objs[11].Up++ },
		func(w *api.World) { w.Objs[11].Slots[0].Name += "x" }, func(w *api.World) { w.Objs[11].Slots[0].Kind++ }, func(w *api.World) { w.Objs[11].Slots[0].V.N++ },
		func(w *api.World) { w.Objs[11].Elems[2].K++ }, func(w *api.World) { w.Objs[11].Elems[2].T += "x" },
		func(w *api.World) { w.Acts[2].Aid++ }, func(w *api.World) { w.Acts[2].Code++ }, func(w *api.World) { w.Acts[2].Self.T += "x" }, func(w *api.World) { w.Acts[2].Holder++ },
		func(w *api.World) { w.Acts[2].Up++ }, func(w *api.World) { w.Acts[2].Vars[1].T += "1" }, func(w *api.World) { w.Acts[2].Done = true },
		func(w *api.World) { w.Codes[0].Name += "x" }, func(w *api.World) { w.Codes[0].Init[0].N++ }, func(w *api.World) { w.Codes[0].Instrs[0].A++ },
	} {
		v := sample(t)
		do(&v)
		if world.Same(v, sample(t)) || world.Same(sample(t), v) {
			t.Errorf("the same as the sample:\n%s", brief(v))
		}
	}
	if !world.Same(api.World{}, api.World{Objs: []api.Obj{}, Acts: []api.Act{}, Codes: []api.Code{}}) {
		t.Error("two worlds of nothing")
	}
}

// W7: what Make makes of each kind, and what it does not make.
func TestMake(t *testing.T) {
	w := sample(t)
	for _, x := range []struct {
		what  string
		kind  int
		slots []api.Slot
		elems []api.Val
		errno api.Errno
	}{
		{"a plain object", api.KPlain, nil, nil, api.OK},
		{"an object with all kinds of slots", api.KPlain, slots(slot("a", api.SConst, null), slot("b", api.SVar, ref(21)), slot("c", api.SParent, ref(11)), slot("d", api.SParentVar, quoted("d")), slot("at:Put:", api.SConst, meth(3)), slot("x", api.SConst, meth(4))), nil, api.OK},
		{"a vector", api.KVector, nil, slices.Repeat(vals(ref(21)), 400), api.OK},
		{"a vector without elements", api.KVector, nil, nil, api.OK},
		{"a vector of too many", api.KVector, nil, slices.Repeat(vals(ref(21)), 401), api.ErrArg},
		{"a mirror", api.KMirror, slots(slot("parent", api.SParent, ref(9))), vals(ref(15)), api.OK},
		{"a mirror of nothing", api.KMirror, nil, nil, api.ErrArg},
		{"a semaphore", api.KSem, nil, vals(whole(1 << 40)), api.OK},
		{"a semaphore that counts down", api.KSem, nil, vals(whole(-1)), api.ErrArg},
		{"a block", api.KBlock, nil, nil, api.ErrArg},
		{"a block with its method", api.KBlock, slots(slot("value:", api.SConst, meth(1))), nil, api.ErrArg},
		{"the kind 0", 0, nil, nil, api.ErrArg},
		{"the kind 6", 6, nil, nil, api.ErrArg},
		{"elements of a plain object", api.KPlain, nil, vals(null), api.ErrArg},
		{"the method of a block", api.KPlain, slots(slot("value:", api.SConst, meth(1))), nil, api.ErrArg},
		{"two slots of one name", api.KPlain, slots(slot("a", api.SConst, null), slot("a", api.SVar, null)), nil, api.ErrArg},
		{"a reference to what is made", api.KPlain, slots(slot("me", api.SConst, ref(30))), nil, api.ErrArg},
		{"a reference to what is made, as an element", api.KVector, nil, vals(ref(30)), api.ErrArg},
		{"a reference to nothing", api.KVector, nil, vals(ref(13)), api.ErrArg},
	} {
		got, oid, errno := world.Make(w, x.kind, x.slots, x.elems)
		if errno != x.errno {
			t.Errorf("%s: %v", x.what, errno)
		}
		if errno != api.OK {
			if oid != 0 || !equal(got, api.World{}) {
				t.Errorf("%s: %d beside the error", x.what, oid)
			}
			continue
		}
		want := clone(w)
		want.Objs, want.NextObj = append(want.Objs, api.Obj{Oid: 30, Kind: x.kind, Slots: x.slots, Elems: x.elems}), 31
		if oid != 30 || !equal(got, want) {
			t.Errorf("%s: %d\n%s", x.what, oid, brief(got))
		}
	}
}

// limited are worlds in which there is no more room for an object, or for an activation, with a world that has just enough.
func limited(t testing.TB) (objs, acts [][2]api.World) {
	fresh := func(do func(w *api.World)) api.World {
		w := sample(t)
		do(&w)
		if !isWorld(w) {
			t.Fatal("no world")
		}
		return w
	}
	full := func(count int) api.World {
		return fresh(func(w *api.World) { w.Objs, w.NextObj = append(w.Objs, some(30, count-16)...), 4000 })
	}
	filled := func(count int) api.World {
		return fresh(func(w *api.World) {
			for n := range count - 5 {
				w.Acts = append(w.Acts, api.Act{Aid: 12 + n, Code: 4, Self: null, Holder: 1})
			}
			w.NextAct = 5000
		})
	}
	objs = [][2]api.World{
		{full(2999), full(3000)},
		{fresh(func(w *api.World) { w.NextObj = 1<<40 - 1 }), fresh(func(w *api.World) { w.NextObj = 1 << 40 })},
	}
	acts = [][2]api.World{
		{filled(3999), filled(4000)},
		{fresh(func(w *api.World) { w.NextAct = 1<<40 - 1 }), fresh(func(w *api.World) { w.NextAct = 1 << 40 })},
	}
	return objs, acts
}

// W7, W8, W14, W15: the limits, with one more, and that all other errors go ahead of ErrLimit.
func TestLimits(t *testing.T) {
	objs, acts := limited(t)
	makes := func(w api.World, oid, at int) map[string]answer {
		made, n, errno := world.Make(w, api.KPlain, slots(slot("x", api.SVar, ref(oid))), nil)
		cloned, m, errno2 := world.Clone(w, oid)
		block, k, errno3 := world.Block(w, at, 4)
		return map[string]answer{"Make": with(errno, made, n), "Clone": with(errno2, cloned, m), "Block": with(errno3, block, k)}
	}
	for i, pair := range objs {
		for name, x := range makes(pair[0], 11, 1) {
			if x.errno != api.OK || x.all[1] != pair[0].NextObj || !isWorld(x.all[0].(api.World)) {
				t.Errorf("%s with room, %d: %s", name, i, brief(x.errno))
			}
		}
		for name, x := range makes(pair[1], 11, 1) {
			if !x.same(fails(api.ErrLimit)) {
				t.Errorf("%s without room, %d: %s", name, i, brief(x.errno))
			}
		}
		for name, x := range makes(pair[1], 13, 3) {
			want := api.ErrArg
			if name == "Clone" {
				want = api.ErrNone
			}
			if !x.same(fails(want)) {
				t.Errorf("%s of nothing without room, %d: %s", name, i, brief(x.errno))
			}
		}
		if _, _, errno := world.Block(pair[1], 1, 3); errno != api.ErrNone {
			t.Errorf("Block in nothing without room: %v", errno)
		}
		if w, n, errno := world.Call(pair[1], 4, null, 1, 0, nil); errno != api.OK || n != 12 || !isWorld(w) {
			t.Errorf("Call without room for objects: %v", errno)
		}
	}
	for i, pair := range acts {
		if w, n, errno := world.Call(pair[0], 4, null, 1, 0, nil); errno != api.OK || n != pair[0].NextAct || !isWorld(w) {
			t.Errorf("Call with room, %d: %v", i, errno)
		}
		for _, x := range []struct {
			at, holder, up int
			self           api.Val
			args           []api.Val
			want           api.Errno
		}{
			{4, 1, 0, null, nil, api.ErrLimit},
			{1, 1, 4, null, vals(null), api.ErrLimit},
			{4, 13, 0, null, nil, api.ErrNone},
			{4, 1, 3, null, nil, api.ErrNone},
			{10, 1, 0, null, nil, api.ErrArg},
			{4, 1, 0, ref(13), nil, api.ErrArg},
			{4, 1, 0, null, vals(null), api.ErrArg},
			{4, 1, 4, null, nil, api.ErrArg},
		} {
			w, n, errno := world.Call(pair[1], x.at, x.self, x.holder, x.up, x.args)
			if errno != x.want || n != 0 || !equal(w, api.World{}) {
				t.Errorf("Call of %+v without room, %d: %v", x, i, errno)
			}
		}
		if _, n, errno := world.Make(pair[1], api.KPlain, nil, nil); errno != api.OK || n != 30 {
			t.Errorf("Make without room for activations: %v", errno)
		}
	}
}

// W14: calls of methods and of blocks, and those that there are none of, with the order of the errors.
func TestCall(t *testing.T) {
	w := sample(t)
	for _, x := range []struct {
		what           string
		at, holder, up int
		self           api.Val
		args, vars     []api.Val
		errno          api.Errno
	}{
		{"a method", 4, 11, 0, whole(3), nil, nil, api.OK},
		{"a method with arguments", 3, 12, 0, quoted("s"), vals(ref(21), large("-9223372036854775809")), vals(ref(21), large("-9223372036854775809")), api.OK},
		{"a method with variables", 0, 11, 0, ref(11), nil, vals(null, whole(3), quoted("a")), api.OK},
		{"a block with an argument and a variable", 1, 11, 4, null, vals(whole(8)), vals(whole(8), ref(2)), api.OK},
		{"a block in an activation of a block", 2, 11, 6, null, nil, nil, api.OK},
		{"no holder", 4, 13, 0, null, nil, nil, api.ErrNone},
		{"the holder 0", 4, 0, 0, null, nil, nil, api.ErrNone},
		{"no up", 2, 11, 7, null, nil, nil, api.ErrNone},
		{"up -1", 4, 11, -1, null, nil, nil, api.ErrNone},
		{"no holder, and much else wrong", 10, 13, 0, api.Val{}, vals(null), nil, api.ErrNone},
		{"no up, and much else wrong", 10, 11, 3, api.Val{}, vals(null), nil, api.ErrNone},
		{"no code", 10, 11, 0, null, nil, nil, api.ErrArg},
		{"the code -1", -1, 11, 0, null, nil, nil, api.ErrArg},
		{"an argument less", 3, 11, 0, null, vals(null), nil, api.ErrArg},
		{"an argument more", 4, 11, 0, null, vals(null), nil, api.ErrArg},
		{"variables as arguments", 0, 11, 0, null, vals(null, null, null), nil, api.ErrArg},
		{"self that is none", 4, 11, 0, ref(13), nil, nil, api.ErrArg},
		{"self that is a method", 4, 11, 0, meth(4), nil, nil, api.ErrArg},
		{"an argument that is none", 3, 11, 0, null, vals(null, api.Val{}), nil, api.ErrArg},
		{"a method with up", 4, 11, 4, null, nil, nil, api.ErrArg},
		{"a block without up", 1, 11, 0, null, vals(null), nil, api.ErrArg},
		{"a block with another up", 2, 11, 4, null, nil, nil, api.ErrArg},
	} {
		got, aid, errno := world.Call(w, x.at, x.self, x.holder, x.up, x.args)
		if errno != x.errno {
			t.Errorf("%s: %v", x.what, errno)
		}
		if errno != api.OK {
			if aid != 0 || !equal(got, api.World{}) {
				t.Errorf("%s: %d beside the error", x.what, aid)
			}
			continue
		}
		want := clone(w)
		want.Acts, want.NextAct = append(want.Acts, api.Act{Aid: 12, Code: x.at, Self: x.self, Holder: x.holder, Up: x.up, Vars: x.vars}), 13
		if aid != 12 || !equal(got, want) {
			t.Errorf("%s: %d\n%s", x.what, aid, brief(got))
		}
	}
}

// W15: blocks with the slots that they have, and those that there are none of.
func TestBlock(t *testing.T) {
	w := sample(t)
	w.Acts = append(w.Acts, api.Act{Aid: 10, Code: 5, Self: null, Holder: 1, Vars: vals(null)})
	for _, x := range []struct {
		at, up int
		name   string
		errno  api.Errno
	}{
		{1, 4, "value:", api.OK}, {2, 6, "value", api.OK}, {6, 10, "value:With:", api.OK},
		{1, 0, "", api.ErrNone}, {1, 3, "", api.ErrNone}, {1, -1, "", api.ErrNone}, {10, 3, "", api.ErrNone},
		{10, 4, "", api.ErrArg}, {-1, 4, "", api.ErrArg}, {0, 4, "", api.ErrArg}, {4, 2, "", api.ErrArg}, {2, 4, "", api.ErrArg}, {1, 6, "", api.ErrArg}, {1, 2, "", api.ErrArg},
	} {
		got, oid, errno := world.Block(w, x.at, x.up)
		if errno != x.errno {
			t.Errorf("%+v: %v", x, errno)
		}
		if errno != api.OK {
			if oid != 0 || !equal(got, api.World{}) {
				t.Errorf("%+v: %d beside the error", x, oid)
			}
			continue
		}
		want := clone(w)
		want.Objs = append(want.Objs, api.Obj{Oid: 30, Kind: api.KBlock, Code: x.at, Up: x.up, Slots: slots(slot("parent", api.SParent, ref(8)), slot(x.name, api.SConst, meth(x.at)))})
		want.NextObj = 31
		if oid != 30 || !equal(got, want) {
			t.Errorf("%+v: %d\n%s", x, oid, brief(got))
		}
	}
}

// W9 and W10, W11 to W13, W17 and W18: what is there, what may be written, and the order of the errors.
func TestReadingAndWritingPoints(t *testing.T) {
	w := sample(t)
	for _, x := range []struct {
		oid  int
		name string
		v    api.Val
		get  api.Errno
		put  api.Errno
	}{
		{11, "x", ref(21), api.OK, api.OK}, {11, "p", quoted("p"), api.OK, api.OK}, {15, "y", null, api.OK, api.OK},
		{11, "q", null, api.OK, api.ErrArg}, {11, "c", null, api.OK, api.ErrArg}, {11, "at:Put:", meth(3), api.OK, api.ErrArg}, {11, "at:Put:", null, api.OK, api.ErrArg},
		{11, "x", ref(13), api.OK, api.ErrArg}, {11, "x", meth(4), api.OK, api.ErrArg}, {11, "x", api.Val{}, api.OK, api.ErrArg}, {11, "x", large("1"), api.OK, api.ErrArg},
		{11, "y", ref(13), api.ErrNone, api.ErrNone}, {11, "x:", whole(1), api.ErrNone, api.ErrNone}, {11, "", whole(1), api.ErrNone, api.ErrNone},
		{13, "x", whole(1), api.ErrNone, api.ErrNone}, {0, "x", ref(13), api.ErrNone, api.ErrNone}, {30, "", whole(1), api.ErrNone, api.ErrNone}, {1, "x", whole(1), api.ErrNone, api.ErrNone},
	} {
		o, _ := objectOf(w, x.oid)
		s, _ := slotOf(o, x.name)
		if v, errno := world.Get(w, x.oid, x.name); errno != x.get || v != s.V {
			t.Errorf("Get of %d, %s: %v, %v", x.oid, x.name, v, errno)
		}
		put, errno := world.Put(w, x.oid, x.name, x.v)
		if errno != x.put || errno != api.OK && !equal(put, api.World{}) {
			t.Errorf("Put of %+v: %v", x, errno)
		}
		if v, _ := world.Get(put, x.oid, x.name); errno == api.OK && v != x.v {
			t.Errorf("Put of %+v stores %v", x, v)
		}
	}
	for _, x := range []struct {
		oid, i int
		v      api.Val
		get    api.Errno
		put    api.Errno
	}{
		{12, 0, whole(-1), api.OK, api.OK}, {12, 2, ref(21), api.OK, api.OK}, {16, 0, quoted("m"), api.OK, api.OK}, {20, 0, whole(0), api.OK, api.OK}, {20, 0, whole(1 << 40), api.OK, api.OK},
		{12, 3, whole(1), api.ErrArg, api.ErrArg}, {12, -1, whole(1), api.ErrArg, api.ErrArg}, {12, 1 << 62, ref(13), api.ErrArg, api.ErrArg}, {11, 0, whole(1), api.ErrArg, api.ErrArg}, {15, 0, whole(1), api.ErrArg, api.ErrArg}, {16, 1, whole(1), api.ErrArg, api.ErrArg},
		{12, 1, ref(13), api.OK, api.ErrArg}, {12, 1, meth(4), api.OK, api.ErrArg}, {12, 1, api.Val{}, api.OK, api.ErrArg}, {16, 0, ref(30), api.OK, api.ErrArg},
		{20, 0, whole(-1), api.OK, api.ErrArg}, {20, 0, whole(1<<40 + 1), api.OK, api.ErrArg}, {20, 0, null, api.OK, api.ErrArg}, {20, 0, quoted("1"), api.OK, api.ErrArg}, {20, 0, api.Val{K: api.VInt, N: 1, T: "x"}, api.OK, api.ErrArg},
		{13, 0, whole(1), api.ErrNone, api.ErrNone}, {0, -1, ref(13), api.ErrNone, api.ErrNone},
	} {
		o, ok := objectOf(w, x.oid)
		was := api.Val{}
		if x.get == api.OK {
			was = o.Elems[x.i]
		}
		if v, errno := world.Elem(w, x.oid, x.i); errno != x.get || v != was {
			t.Errorf("Elem of %d, %d: %v, %v", x.oid, x.i, v, errno)
		}
		if n, errno := world.Size(w, x.oid); n != len(o.Elems) || (errno == api.OK) != ok {
			t.Errorf("Size of %d: %d, %v", x.oid, n, errno)
		}
		put, errno := world.PutElem(w, x.oid, x.i, x.v)
		if errno != x.put || errno != api.OK && !equal(put, api.World{}) {
			t.Errorf("PutElem of %+v: %v", x, errno)
		}
		if v, _ := world.Elem(put, x.oid, x.i); errno == api.OK && v != x.v {
			t.Errorf("PutElem of %+v stores %v", x, v)
		}
	}
	for _, x := range []struct {
		aid, i int
		v      api.Val
		get    api.Errno
		put    api.Errno
	}{
		{4, 0, ref(21), api.OK, api.OK}, {4, 2, whole(9), api.OK, api.OK}, {6, 1, quoted("v"), api.OK, api.OK},
		{4, 3, whole(1), api.ErrArg, api.ErrArg}, {4, -1, whole(1), api.ErrArg, api.ErrArg}, {2, 0, whole(1), api.ErrArg, api.ErrArg}, {2, 1 << 62, ref(13), api.ErrArg, api.ErrArg},
		{4, 0, ref(13), api.OK, api.ErrArg}, {4, 0, meth(4), api.OK, api.ErrArg}, {4, 0, api.Val{}, api.OK, api.ErrArg},
		{3, 0, whole(1), api.ErrNone, api.ErrNone}, {0, -1, ref(13), api.ErrNone, api.ErrNone}, {12, 0, whole(1), api.ErrNone, api.ErrNone},
	} {
		a, _ := actOf(w, x.aid)
		was := api.Val{}
		if x.get == api.OK {
			was = a.Vars[x.i]
		}
		if v, errno := world.Var(w, x.aid, x.i); errno != x.get || v != was {
			t.Errorf("Var of %d, %d: %v, %v", x.aid, x.i, v, errno)
		}
		put, errno := world.PutVar(w, x.aid, x.i, x.v)
		if errno != x.put || errno != api.OK && !equal(put, api.World{}) {
			t.Errorf("PutVar of %+v: %v", x, errno)
		}
		if v, _ := world.Var(put, x.aid, x.i); errno == api.OK && v != x.v {
			t.Errorf("PutVar of %+v stores %v", x, v)
		}
	}
}
