package look_test

import (
	"math/rand"
	"slices"
	"testing"

	"proteus/api"
	"proteus/look"
	"proteus/world"
)

// P6.2 to P6.9, each by what the functions themselves return.

// lookups calls something with lookups by chance, in worlds by chance; the chance that something matches, and that it does not, is high.
func lookups(t *testing.T, count int, do func(r *rand.Rand, w api.World, v api.Val, sel string)) {
	t.Helper()
	r := source()
	for w := range worlds(t, r, count) {
		g := &grower{r, withObjects(w, plain(w.NextObj))}
		for range 8 {
			if v := g.value(); isOf(w, v) {
				do(r, w, v, oneOf(r, selectors))
			}
		}
	}
}

func looked(t *testing.T, w api.World, v api.Val, sel string) api.Found {
	t.Helper()
	f, errno := look.Look(w, v, sel)
	if errno != api.OK {
		t.Fatalf("Look of %v, %q: %v in\n%s", v, sel, errno, brief(w))
	}
	return f
}

func met(t *testing.T, w api.World, v api.Val, sel string) []int {
	t.Helper()
	l, errno := look.Met(w, v, sel)
	if errno != api.OK {
		t.Fatalf("Met of %v, %q: %v in\n%s", v, sel, errno, brief(w))
	}
	return l
}

func resent(t *testing.T, w api.World, oid int, sel string) api.Found {
	t.Helper()
	f, errno := look.Resend(w, oid, sel)
	if errno != api.OK {
		t.Fatalf("Resend from %d, %q: %v in\n%s", oid, sel, errno, brief(w))
	}
	return f
}

// alike reports whether two lookups found the same: the Kind, and with LOne the Holder and the Slot.
func alike(f, g api.Found) bool {
	return f.Kind == g.Kind && (f.Kind != api.LOne || f.Holder == g.Holder && f.Slot == g.Slot)
}

// P6.2: what Look finds is accepted with what Met returns.
func TestOwnCertificates(t *testing.T) {
	lookups(t, 600, func(r *rand.Rand, w api.World, v api.Val, sel string) {
		f, l := looked(t, w, v, sel), met(t, w, v, sel)
		if errno := look.CheckFound(w, v, sel, l, f); errno != api.OK {
			t.Fatalf("%v of %+v with %v for %v, %q in\n%s", errno, f, l, v, sel, brief(w))
		}
		if f.Kind == api.LMany {
			return
		}
		// Without one of them it is not: all that are visited are needed.
		i := r.Intn(len(l))
		if errno := look.CheckFound(w, v, sel, slices.Delete(slices.Clone(l), i, i+1), f); errno != api.ErrPath {
			t.Fatalf("%v of %+v with %v but the one at %d for %v, %q in\n%s", errno, f, l, i, v, sel, brief(w))
		}
	})
}

// P6.2: what is accepted, whoever made it, is what Look finds.
func TestForgedCertificates(t *testing.T) {
	r := source()
	accepted, refused := map[int]int{}, 0
	for w := range worlds(t, r, 800) {
		for range 30 {
			a := someArgs(t, r, w)
			f := a.f
			for range 1 + r.Intn(3) {
				a.forge(r, w)
			}
			if look.CheckFound(w, a.v, a.sel, a.l, a.f) != api.OK {
				refused++
				continue
			}
			accepted[f.Kind]++
			if !alike(f, a.f) || f.Kind == api.LOne && f.Set != a.f.Set {
				t.Fatalf("%+v with %v is accepted and not %+v, for %v, %q in\n%s", a.f, a.l, f, a.v, a.sel, brief(w))
			}
		}
	}
	if accepted[api.LNone] < 500 || accepted[api.LOne] < 500 || accepted[api.LMany] < 100 || refused < 5000 {
		t.Errorf("%v were accepted, %d refused", accepted, refused)
	}
}

// P6.3: a slot of the object itself hides what its parents have; without one the parents tell.
func TestOwnSlots(t *testing.T) {
	own, parents := 0, 0
	lookups(t, 600, func(r *rand.Rand, w api.World, v api.Val, sel string) {
		f, oid := looked(t, w, v, sel), begin(v)
		if at, isSet := slotFor(w, oid, sel); at >= 0 {
			own++
			if want := (api.Found{Kind: api.LOne, Holder: oid, Slot: at, Set: isSet}); !equal(f, want) {
				t.Fatalf("Look of %v, %q is %+v in\n%s", v, sel, f, brief(w))
			}
			return
		}
		parents++
		g := resent(t, w, oid, sel)
		if !alike(f, g) || f.Kind == api.LOne && f.Set != g.Set {
			t.Fatalf("Look of %v, %q is %+v, Resend %+v in\n%s", v, sel, f, g, brief(w))
		}
	})
	if own < 100 || parents < 1000 {
		t.Errorf("%d by an own slot, %d by parents", own, parents)
	}
}

// withSlot returns a world in which an object has a further slot behind all others.
func withSlot(w api.World, oid int, s api.Slot) api.World {
	w = clone(w)
	i := slices.IndexFunc(w.Objs, func(o api.Obj) bool { return o.Oid == oid })
	w.Objs[i].Slots = append(w.Objs[i].Slots, s)
	return w
}

// P6.4: a further way to what is visited anyway changes nothing, not even a circle.
func TestFurtherWays(t *testing.T) {
	lookups(t, 600, func(r *rand.Rand, w api.World, v api.Val, sel string) {
		f := looked(t, w, v, sel)
		to := ref(oneOf(r, met(t, w, v, sel)))
		if begin(to) == api.OInteger && r.Intn(2) == 0 {
			to = whole(9)
		}
		oid := oneOf(r, append(met(t, w, v, sel), oneOf(r, w.Objs).Oid))
		more := mustBeWorld(t, withSlot(w, oid, api.Slot{Name: "further", Kind: oneOf(r, []int{api.SParent, api.SParentVar}), V: to}))
		if g := looked(t, more, v, sel); !alike(f, g) {
			t.Fatalf("Look of %v, %q is %+v, and %+v with a way from %d to %v more in\n%s", v, sel, f, g, oid, to, brief(w))
		}
	})
}

// P6.5: a further slot that does not match changes nothing, nor does anything that is not visited.
func TestOtherSlots(t *testing.T) {
	lookups(t, 600, func(r *rand.Rand, w api.World, v api.Val, sel string) {
		f, l := looked(t, w, v, sel), met(t, w, v, sel)
		kind := oneOf(r, []int{api.SConst, api.SVar})
		more := mustBeWorld(t, withSlot(w, oneOf(r, w.Objs).Oid, api.Slot{Name: "further", Kind: kind, V: ref(oneOf(r, w.Objs).Oid)}))
		if g := looked(t, more, v, sel); !equal(f, g) {
			t.Fatalf("Look of %v, %q is %+v, and %+v with a slot more in\n%s", v, sel, f, g, brief(w))
		}
		other := clone(w)
		for i := range other.Objs {
			o := &other.Objs[i]
			if slices.Contains(l, o.Oid) {
				// Of an object that is visited contents do not count, but for those of parents.
				for at := range o.Slots {
					if s := &o.Slots[at]; s.Kind == api.SVar || s.Kind == api.SConst && s.V.K != api.VMeth {
						s.V = ref(oneOf(r, w.Objs).Oid)
					}
				}
				continue
			}
			*o = plain(o.Oid, parent("further", v), constant("x", null), variable("y", null))
		}
		if g := looked(t, mustBeWorld(t, other), v, sel); !equal(f, g) {
			t.Fatalf("Look of %v, %q is %+v, and %+v where all that is not visited is another in\n%s", v, sel, f, g, brief(w))
		}
		if m := met(t, other, v, sel); !slices.Equal(l, m) {
			t.Fatalf("Met of %v, %q is %v, and %v where all that is not visited is another in\n%s", v, sel, l, m, brief(w))
		}
	})
}

// P6.6: what Resend finds is what Directed finds, parent by parent.
func TestEachParent(t *testing.T) {
	kinds := map[int]int{}
	lookups(t, 600, func(r *rand.Rand, w api.World, v api.Val, sel string) {
		o, _ := find(w, begin(v))
		f := resent(t, w, o.Oid, sel)
		kinds[f.Kind]++
		holders := map[[2]int]bool{}
		for _, s := range o.Slots {
			g, errno := look.Directed(w, o.Oid, s.Name, sel)
			if s.Kind != api.SParent && s.Kind != api.SParentVar {
				if errno != api.ErrPath {
					t.Fatalf("Directed by %q, which is no parent: %v", s.Name, errno)
				}
				continue
			}
			if errno != api.OK {
				t.Fatalf("Directed by %q: %v", s.Name, errno)
			}
			if g.Kind != api.LNone {
				holders[[2]int{g.Holder, g.Slot}] = true
			}
			if g.Kind == api.LMany {
				holders[[2]int{g.Holder2, g.Slot2}] = true
			}
		}
		switch {
		case (f.Kind == api.LNone) != (len(holders) == 0),
			(f.Kind == api.LOne) != (len(holders) == 1),
			f.Kind == api.LOne && !holders[[2]int{f.Holder, f.Slot}]:
			t.Fatalf("Resend from %d, %q is %+v, and all of Directed %v in\n%s", o.Oid, sel, f, holders, brief(w))
		}
	})
	if kinds[api.LNone] < 100 || kinds[api.LOne] < 100 || kinds[api.LMany] < 50 {
		t.Errorf("%v were found", kinds)
	}
}

// P6.8: the activation that names a selector is the nearest one; Look from Self, if there is none.
func TestNames(t *testing.T) {
	r := source()
	named, outer, unnamed := 0, 0, 0
	for w := range worlds(t, r, 600) {
		for _, a := range w.Acts {
			sel := oneOf(r, selectors)
			n, at, f, errno := look.Implicit(w, a.Aid, sel)
			if errno != api.OK {
				t.Fatal(errno)
			}
			if n == 0 {
				unnamed++
				if g := looked(t, w, a.Self, sel); at != 0 || !equal(f, g) {
					t.Fatalf("Implicit in %d, %q is %d, %+v, and Look from Self %+v in\n%s", a.Aid, sel, at, f, g, brief(w))
				}
				continue
			}
			named++
			b, ok := act(w, n)
			name := w.Codes[b.Code].Names[at]
			isArg := at < w.Codes[b.Code].Args
			if !ok || !equal(f, api.Found{Kind: api.LOne, Set: f.Set}) || f.Set != (name+":" == sel) || !f.Set && name != sel || f.Set && isArg {
				t.Fatalf("Implicit in %d, %q is %d, %d, %+v in\n%s", a.Aid, sel, n, at, f, brief(w))
			}
			if n != a.Aid {
				// What is around answers the same, and the activation itself does not name it.
				outer++
				m, i, g, errno := look.Implicit(w, a.Up, sel)
				if errno != api.OK || m != n || i != at || !equal(f, g) {
					t.Fatalf("Implicit in %d, %q is %d, %d, but %d, %d in its Up in\n%s", a.Aid, sel, n, at, m, i, brief(w))
				}
				if slices.Contains(w.Codes[a.Code].Names, sel) {
					t.Fatalf("Implicit in %d, %q is %d, %d in\n%s", a.Aid, sel, n, at, brief(w))
				}
			}
		}
	}
	if named < 200 || outer < 50 || unnamed < 1000 {
		t.Errorf("%d were named, %d of them around, %d were not", named, outer, unnamed)
	}
}

// P6.9: where paths lead, and by what.
func TestPaths(t *testing.T) {
	lookups(t, 800, func(r *rand.Rand, w api.World, v api.Val, sel string) {
		start, errno := look.Start(w, v)
		if errno != api.OK {
			t.Fatal(errno)
		}
		leads := func(path []int, holder, at int) {
			t.Helper()
			var on []int
			for n := range len(path) + 1 {
				oid, errno := look.Follow(w, start, path[:n])
				if errno != api.OK || slices.Contains(on, oid) || n < len(path) && matches(w, oid, sel) {
					t.Fatalf("the path %v for %v, %q leads to %d, %v behind %v in\n%s", path, v, sel, oid, errno, on, brief(w))
				}
				on = append(on, oid)
			}
			if got, _ := slotFor(w, holder, sel); on[len(on)-1] != holder || got != at {
				t.Fatalf("the path %v for %v, %q leads by %v, not to %d, %d in\n%s", path, v, sel, on, holder, at, brief(w))
			}
		}
		f := looked(t, w, v, sel)
		if f.Kind != api.LNone {
			leads(f.Path, f.Holder, f.Slot)
		}
		if f.Kind == api.LMany {
			leads(f.Path2, f.Holder2, f.Slot2)
		}
	})
}

// R7: no memory of a result is that of an argument, or of another result, or twice within it.
func TestMemory(t *testing.T) {
	r := source()
	for w := range worlds(t, r, 150) {
		before := clone(w)
		for range 8 {
			a := someArgs(t, r, w)
			was := a.clone()
			for _, f := range functions() {
				x, y := f.do(w, a), f.do(w, a)
				if !x.same(y) {
					t.Fatalf("%s answers twice, and not the same", f.name)
				}
				for _, v := range x.all {
					spoilResult(v)
				}
				if !world.Same(w, before) || !gives(a.path, a.l, a.f).same(gives(was.path, was.l, was.f)) {
					t.Fatalf("%s: the result and an argument share memory", f.name)
				}
				if z := f.do(w, a); !z.same(y) {
					t.Fatalf("%s: two results share memory", f.name)
				}
			}
		}
	}
}

// spoilResult changes all that a result has, and what its lists could still take up. It panics if two lists share memory.
func spoilResult(x any) {
	switch x := x.(type) {
	case []int:
		spoilList(x)
	case api.Found:
		spoilList(x.Path)
		for _, n := range x.Path2 {
			if n >= 1000 {
				panic("two lists of a result share memory")
			}
		}
		spoilList(x.Path2)
	}
}

func spoilList(l []int) {
	for i := range l {
		l[i] += 1000
	}
	clear(l[len(l):cap(l)])
}

// chain returns a world in which each object has the next one as its parent, and the last one the first; every 40 slots of an object lead there.
func chain(t *testing.T, wide int) api.World {
	w := world.Empty()
	for n := 11; n <= 3000; n++ {
		o := plain(n)
		for i := range wide {
			o.Slots = append(o.Slots, parent("p"+string(rune('a'+i%20))+string(rune('a'+i/20)), ref((n-10)%2990+11)))
		}
		w.Objs = append(w.Objs, o)
	}
	w.NextObj = 3001
	w.Objs[2999].Slots[0] = variable("x", null)
	return mustBeWorld(t, w)
}

// R1: long ways come to an end, many ways too.
func TestLongWays(t *testing.T) {
	for _, wide := range []int{1, 40} {
		w := chain(t, wide)
		want := set(one(3000, 0, make([]int, 2989)...))
		finds(t, w, ref(11), "x:", want)
		l := met(t, w, ref(11), "foo")
		if len(l) != 2990 {
			t.Errorf("%d were visited", len(l))
		}
		if errno := look.CheckFound(w, ref(11), "x:", l, want); errno != api.OK {
			t.Errorf("CheckFound: %v", errno)
		}
		if oid, errno := look.Follow(w, 11, want.Path); errno != api.OK || oid != 3000 {
			t.Errorf("Follow: %d, %v", oid, errno)
		}
		if f := resent(t, w, 3000, "x"); wide == 40 && !equal(f, one(3000, 0, append([]int{1}, make([]int, 2989)...)...)) || wide == 1 && !equal(f, none()) {
			t.Errorf("Resend: %d steps", len(f.Path))
		}
		long := slices.Repeat([]int{0}, 1<<20)
		if oid, errno := look.Follow(w, 11, long); errno != api.ErrPath || oid != 0 {
			t.Errorf("Follow of a long path: %d, %v", oid, errno)
		}
		if errno := look.CheckFound(w, ref(11), "x:", append(slices.Repeat(l, 300), l...), api.Found{Kind: api.LMany, Holder: 3000, Path: long, Holder2: 12, Path2: long}); errno != api.ErrPath {
			t.Errorf("CheckFound of a long path: %v", errno)
		}
	}
}

// R1: whatever the world and the arguments are, functions end; a world that is none is told of first.
func TestAnyArguments(t *testing.T) {
	r := source()
	count := 0
	for w := range worlds(t, r, 200) {
		for range 10 {
			a := someArgs(t, r, w)
			for range r.Intn(6) {
				a.spoil(r, w)
			}
			v := clone(w)
			for range 1 + r.Intn(3) {
				damage(r, &v)
			}
			if world.Check(v) == api.OK {
				continue
			}
			count++
			for _, f := range functions() {
				if x := f.do(v, a); !x.same(fails(api.ErrWorld)) {
					t.Fatalf("%s of %+v in\n%s\nis %v", f.name, a, brief(v), brief(x))
				}
			}
		}
	}
	if count < 1000 {
		t.Errorf("%d worlds were none", count)
	}
}

// damage changes a world in one place, most often so that it is none.
func damage(r *rand.Rand, w *api.World) {
	o := &w.Objs[r.Intn(len(w.Objs))]
	switch r.Intn(7) {
	case 0:
		w.NextObj = number(r, w.NextObj)
	case 1:
		w.NextAct = number(r, w.NextAct)
	case 2:
		o.Oid = number(r, o.Oid)
	case 3:
		o.Slots = append(o.Slots, parent(oneOf(r, nastyTexts), oneOf(r, nastyValues)))
	case 4:
		o.Slots = append(o.Slots, api.Slot{Name: oneOf(r, selectors), Kind: r.Intn(6), V: ref(number(r, w.NextObj))})
	case 5:
		o.Kind, o.Up = number(r, o.Kind), number(r, o.Up)
	case 6:
		if len(w.Acts) > 0 {
			a := &w.Acts[r.Intn(len(w.Acts))]
			a.Aid, a.Up = number(r, a.Aid), number(r, a.Up)
		}
	}
}
