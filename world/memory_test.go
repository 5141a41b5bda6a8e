package world_test

import (
	"slices"
	"strings"
	"testing"

	"proteus/api"
	"proteus/world"
)

// R7: no argument is changed, and no memory is shared, by a result with an argument, or within a result.
func TestMemory(t *testing.T) {
	r := source()
	for w := range worlds(t, r, 60) {
		before := clone(w)
		for range 10 {
			a := someArgs(r, w)
			was := cloneArgs(a)
			for _, f := range functions() {
				x, y := f.do(w, a), f.do(w, a)
				if !x.same(y) {
					t.Fatalf("%s answers twice, and not the same", f.name)
				}
				for _, v := range x.all {
					spoil(v)
				}
				if !equal(w, before) {
					t.Fatalf("%s: the result and the world share memory", f.name)
				}
				if !gives(a.slots, a.vals, a.aids).same(gives(was.slots, was.vals, was.aids)) {
					t.Fatalf("%s: the result and the arguments share memory", f.name)
				}
				if z := f.do(w, a); !z.same(y) {
					t.Fatalf("%s: two results share memory", f.name)
				}
			}
		}
	}
}

func cloneArgs(a args) args {
	a.slots, a.vals, a.aids = slices.Clone(a.slots), slices.Clone(a.vals), slices.Clone(a.aids)
	return a
}

// spoil changes all that a result has, and what its lists could still take up.
func spoil(x any) {
	switch x := x.(type) {
	case api.World:
		spoilWorld(x)
	case api.Obj:
		spoilObject(&x)
	case api.Act:
		spoilList(x.Vars, spoilValue)
	case []int:
		spoilList(x, func(n *int) { *n += 1000 })
	case [][2]int:
		spoilList(x, func(n *[2]int) { n[0] += 1000 })
	}
}

func spoilWorld(w api.World) {
	spoilList(w.Objs, spoilObject)
	spoilList(w.Acts, func(a *api.Act) { a.Aid += 1000; a.Done = !a.Done; spoilList(a.Vars, spoilValue) })
	spoilList(w.Codes, func(c *api.Code) {
		c.Name += "!"
		spoilList(c.Names, func(s *string) { *s += "!" })
		spoilList(c.Sels, func(s *string) { *s += "!" })
		spoilList(c.Init, spoilValue)
		spoilList(c.Lits, spoilValue)
		spoilList(c.Instrs, func(i *api.Instr) { i.A += 1000 })
	})
}

func spoilObject(o *api.Obj) {
	o.Oid += 1000
	spoilList(o.Slots, func(s *api.Slot) { s.Name += "!"; spoilValue(&s.V) })
	spoilList(o.Elems, spoilValue)
}

// spoilValue marks a value, and panics if it was marked before: then two lists of one result share memory.
func spoilValue(v *api.Val) {
	if strings.HasSuffix(v.T, "!") {
		panic("two lists of a result share memory")
	}
	v.T += "!"
}

func spoilList[T any](l []T, change func(x *T)) {
	for i := range l {
		change(&l[i])
	}
	clear(l[len(l):cap(l)])
}

// R1: whatever the world and the arguments are, functions end.
func TestAnyArguments(t *testing.T) {
	r := source()
	for w := range worlds(t, r, 100) {
		for range 10 {
			v := clone(w)
			for range r.Intn(6) {
				change(r, &v)
			}
			a := someArgs(r, w)
			for range r.Intn(6) {
				a.spoil(r, w)
			}
			for _, f := range functions() {
				if x := f.do(v, a); x.errno != api.OK && !x.same(fails(x.errno)) {
					t.Fatalf("%s of %+v: %s", f.name, a, brief(x))
				}
			}
		}
	}
	odd := api.World{NextObj: 1<<63 - 1, NextAct: 1<<63 - 1, Objs: make([]api.Obj, 1<<20), Acts: make([]api.Act, 1<<20), Codes: make([]api.Code, 1<<16)}
	wide := world.Empty()
	wide.Objs[3].Slots = slices.Repeat(slots(slot(strings.Repeat("x", 1<<20), 1<<62, quoted(strings.Repeat("s", 1<<20)))), 1<<16)
	for _, w := range []api.World{odd, wide, {Objs: slices.Repeat([]api.Obj{{Kind: -1 << 63}}, 10)}} {
		for _, f := range functions() {
			if x := f.do(w, args{oid: 4}); !x.same(fails(api.ErrWorld)) {
				t.Errorf("%s of an odd world: %v", f.name, x.errno)
			}
		}
	}
	long := args{oid: 4, kind: api.KVector, slots: wide.Objs[3].Slots, vals: make([]api.Val, 1<<20), aids: make([]int, 1<<20)}
	for _, f := range functions() {
		if x := f.do(world.Empty(), long); f.name != "Has" && x.errno != api.OK && !x.same(fails(x.errno)) {
			t.Errorf("%s of long lists: %v", f.name, x.errno)
		}
	}
}

// R1: a world in which everything leads to the next thing is gone through to its end.
func TestLongWays(t *testing.T) {
	w := world.Empty()
	w.Codes = ofText(t, "x = ( | v | [ 1 ] )")
	for n := 11; n <= 3000; n++ {
		// From block to activation, from this to the next block.
		w.Objs = append(w.Objs, api.Obj{Oid: n, Kind: api.KBlock, Code: 1, Up: n - 10})
		w.Acts = append(w.Acts, api.Act{Aid: n - 10, Self: null, Holder: 1, Vars: vals(ref(min(n+1, 3000))), Done: true})
	}
	w.NextObj, w.NextAct = 3001, 2991
	oids, aids, errno := world.Reach(w, vals(ref(11)), nil)
	if errno != api.OK || len(oids) != 3000 || len(aids) != 2990 {
		t.Errorf("Reach: %d, %d, %v", len(oids), len(aids), errno)
	}
	if n, _ := normal(t, w, vals(ref(11)), nil); !world.Same(n, w) {
		t.Error("Norm of what is in order")
	}
	// A chain of blocks, twenty deep, is dropped from its end on; circles of objects hold no activation that is done.
	text := strings.Repeat("[ ", 20) + "1" + strings.Repeat(" ]", 20)
	w = world.Empty()
	w.Codes = ofText(t, "x = ( "+text+" )")
	for n := range 21 {
		w.Acts = append(w.Acts, api.Act{Aid: n + 1, Code: n, Self: null, Holder: 1, Up: n, Done: n < 20})
	}
	w.NextAct = 22
	if v, errno := world.Drop(w, 21); errno != api.OK || len(v.Acts) != 0 || v.NextAct != 22 {
		t.Errorf("Drop of the last one: %v, %d are left", errno, len(v.Acts))
	}
	if v, errno := world.Drop(w, 1); errno != api.OK || len(v.Acts) != 21 {
		t.Errorf("Drop of the first one: %v, %d are left", errno, len(v.Acts))
	}
}
