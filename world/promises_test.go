package world_test

import (
	"math/rand"
	"slices"
	"testing"

	"proteus/api"
	"proteus/world"
)

// place is where something is written: a slot, an element, or a variable.
type place struct {
	kind string // put, elem, var
	n, i int    // the number of an object or an activation, and an index
	name string
}

// placesOf returns all places of a world, and the values that are there.
func placesOf(w api.World) map[place]api.Val {
	all := map[place]api.Val{}
	for _, o := range w.Objs {
		for _, s := range o.Slots {
			all[place{"put", o.Oid, 0, s.Name}] = s.V
		}
		for i, v := range o.Elems {
			all[place{"elem", o.Oid, i, ""}] = v
		}
	}
	for _, a := range w.Acts {
		for i, v := range a.Vars {
			all[place{"var", a.Aid, i, ""}] = v
		}
	}
	return all
}

func (p place) read(w api.World) (api.Val, api.Errno) {
	switch p.kind {
	case "put":
		return world.Get(w, p.n, p.name)
	case "elem":
		return world.Elem(w, p.n, p.i)
	}
	return world.Var(w, p.n, p.i)
}

func (p place) write(w api.World, v api.Val) (api.World, api.Errno) {
	switch p.kind {
	case "put":
		return world.Put(w, p.n, p.name, v)
	case "elem":
		return world.PutElem(w, p.n, p.i, v)
	}
	return world.PutVar(w, p.n, p.i, v)
}

// moved returns the place in a world with other numbers.
func (p place) moved(news map[thing]int) place {
	p.n = news[thing{p.kind == "var", p.n}]
	return p
}

// somePlace returns a place by chance, in an order that does not depend on that of a map.
func somePlace(r *rand.Rand, w api.World) (place, bool) {
	var l []place
	for _, o := range w.Objs {
		for _, s := range o.Slots {
			l = append(l, place{"put", o.Oid, 0, s.Name})
		}
		for i := range o.Elems {
			l = append(l, place{"elem", o.Oid, i, ""})
		}
	}
	for _, a := range w.Acts {
		for i := range a.Vars {
			l = append(l, place{"var", a.Aid, i, ""})
		}
	}
	if len(l) == 0 {
		return place{}, false
	}
	return oneOf(r, l), true
}

// P5.3: what is written is read, everything else is as it was, and writes to different places commute.
func TestReadingAndWriting(t *testing.T) {
	r := source()
	count, commuted := 0, 0
	for w := range worlds(t, r, 300) {
		g := &grower{r, w}
		for range 20 {
			p, ok := somePlace(r, w)
			if !ok {
				break
			}
			v := g.value()
			written, errno := p.write(w, v)
			if errno != api.OK {
				continue
			}
			count++
			judged(t, written)
			for q, was := range placesOf(w) {
				if p == q {
					was = v
				}
				if now, errno := q.read(written); errno != api.OK || now != was {
					t.Fatalf("%v behind the write of %v to %v is %v and not %v (%v)", q, v, p, now, was, errno)
				}
			}
			if len(placesOf(written)) != len(placesOf(w)) {
				t.Fatal("there are other places")
			}
			q, _ := somePlace(r, w)
			x := g.value()
			ways, errno := q.write(written, x)
			if other, errno2 := q.write(w, x); p != q && errno2 == api.OK {
				other, errno3 := p.write(other, v)
				if errno != api.OK || errno3 != api.OK || !world.Same(ways, other) {
					t.Fatalf("the writes to %v and %v do not commute (%v, %v)", p, q, errno, errno3)
				}
				commuted++
			}
		}
	}
	if count < 1000 || commuted < 500 {
		t.Errorf("%d writes, %d of them with another one", count, commuted)
	}
}

// P5.2: worlds stay valid on any way, and no object goes, so values stay values.
func TestValidity(t *testing.T) {
	r := source()
	changed := 0
	for w := range worlds(t, r, 60) {
		for range 60 {
			a := someArgs(r, w)
			if r.Intn(4) == 0 {
				a.spoil(r, w)
			}
			f := oneOf(r, functions())
			x := f.do(w, a)
			if len(x.all) == 0 || x.errno != api.OK {
				continue
			}
			v, ok := x.all[0].(api.World)
			if !ok {
				continue
			}
			if !judged(t, v) {
				t.Fatalf("%s of %+v makes what is no world:\n%s", f.name, a, brief(v))
			}
			if f.name == "Norm" {
				continue
			}
			changed++
			for _, o := range w.Objs {
				if ok, errno := world.Has(v, ref(o.Oid)); errno != api.OK || !ok {
					t.Fatalf("%s of %+v takes the object %d away", f.name, a, o.Oid)
				}
			}
			w = v
		}
	}
	if changed < 500 {
		t.Errorf("%d changes", changed)
	}
}

// P5.4: numbers are fresh; a clone has the contents of its original, and both go their own ways.
func TestIdentity(t *testing.T) {
	r := source()
	apart := 0
	for w := range worlds(t, r, 200) {
		numbers := map[bool]map[int]bool{false: {}, true: {}}
		for range 12 {
			for _, f := range makers() {
				x := f.do(w, someArgs(r, w))
				if x.errno != api.OK {
					continue
				}
				v, n := x.all[0].(api.World), x.all[1].(int)
				_, was := objectOf(w, n)
				_, is := objectOf(v, n)
				if f.name == "Call" {
					_, was = actOf(w, n)
					_, is = actOf(v, n)
				}
				if was || !is || numbers[f.name == "Call"][n] {
					t.Fatalf("%s: the number %d was there already, or is not there", f.name, n)
				}
				numbers[f.name == "Call"][n] = true
				w = v
			}
		}
		o := oneOf(r, w.Objs)
		w, n, errno := world.Clone(w, o.Oid)
		if errno != api.OK {
			t.Fatal(errno)
		}
		copied, _ := objectOf(w, n)
		copied.Oid = o.Oid
		if !gives(copied).same(gives(o)) {
			t.Fatalf("%+v is the clone of %+v", copied, o)
		}
		for p := range placesOf(w) {
			if p.kind == "var" || p.n != o.Oid && p.n != n {
				continue
			}
			other := p
			other.n = o.Oid + n - p.n
			v, errno := p.write(w, whole(77))
			if errno != api.OK {
				continue
			}
			apart++
			was, _ := other.read(w)
			if now, errno := other.read(v); errno != api.OK || now != was {
				t.Fatalf("a write to %v changes %v", p, other)
			}
		}
	}
	if apart < 50 {
		t.Errorf("%d writes to a clone, or its original", apart)
	}
}

// someRoots returns roots by chance.
func someRoots(r *rand.Rand, w api.World) ([]api.Val, []int) {
	g := &grower{r, w}
	var acts []int
	for range r.Intn(3) {
		if len(w.Acts) > 0 {
			acts = append(acts, oneOf(r, w.Acts).Aid)
		}
	}
	return g.values(r.Intn(4)), acts
}

// P5.5: what is reachable has the roots, is closed, and has nothing that is not reached from them.
func TestReachability(t *testing.T) {
	r := source()
	part, partly := 0, 0
	for w := range worlds(t, r, 500) {
		roots, acts := someRoots(r, w)
		oids, aids, errno := world.Reach(w, roots, acts)
		if errno != api.OK {
			t.Fatal(errno)
		}
		set := map[thing]bool{}
		for _, l := range []struct {
			act bool
			ns  []int
		}{{false, oids}, {true, aids}} {
			if !increase(l.ns, 1<<40) {
				t.Fatalf("%v do not increase", l.ns)
			}
			for _, n := range l.ns {
				set[thing{l.act, n}] = true
			}
		}
		// The least set is made step by step: everything that one of it leads to.
		least := map[thing]bool{}
		for _, x := range rootsOf(w, roots, acts) {
			least[x] = true
		}
		for size := -1; size < len(least); {
			size = len(least)
			for _, o := range w.Objs {
				grow(w, least, thing{false, o.Oid})
			}
			for _, a := range w.Acts {
				grow(w, least, thing{true, a.Aid})
			}
		}
		if len(set) != len(least) {
			t.Fatalf("%d, %d are reachable, not %d, in\n%s", len(oids), len(aids), len(least), brief(w))
		}
		for x := range least {
			if !set[x] {
				t.Fatalf("%v is not reachable in\n%s", x, brief(w))
			}
		}
		if len(oids) < len(w.Objs) {
			part++
		}
		if len(aids) > 0 && len(aids) < len(w.Acts) {
			partly++
		}
	}
	if part < 100 || partly < 20 {
		t.Errorf("%d worlds had objects that were not reached, %d such activations", part, partly)
	}
}

func grow(w api.World, set map[thing]bool, x thing) {
	if !set[x] {
		return
	}
	for _, y := range leads(w, x) {
		set[y] = true
	}
}

// numbersOf turns pairs around into a map of new numbers.
func numbersOf(objs, acts [][2]int) map[thing]int {
	news := map[thing]int{}
	for _, x := range objs {
		news[thing{false, x[0]}] = x[1]
	}
	for _, x := range acts {
		news[thing{true, x[0]}] = x[1]
	}
	return news
}

func movedRoots(roots []api.Val, acts []int, news map[thing]int) ([]api.Val, []int) {
	roots, acts = slices.Clone(roots), slices.Clone(acts)
	for i, v := range roots {
		if v.K == api.VRef {
			roots[i].N = news[thing{false, v.N}]
		}
	}
	for i, n := range acts {
		acts[i] = news[thing{true, n}]
	}
	return roots, acts
}

// normal returns the normal form, and the new numbers, and fails if there is an error.
func normal(t testing.TB, w api.World, roots []api.Val, acts []int) (api.World, map[thing]int) {
	t.Helper()
	n, objs, aids, errno := world.Norm(w, roots, acts)
	if errno != api.OK {
		t.Fatal(errno)
	}
	return n, numbersOf(objs, aids)
}

// P5.6: the normal form of the normal form is itself; it is valid; the pairs are one-to-one, and tell each content.
func TestNormalForm(t *testing.T) {
	r := source()
	for w := range worlds(t, r, 500) {
		roots, acts := someRoots(r, w)
		n, news := normal(t, w, roots, acts)
		if !judged(t, n) {
			t.Fatalf("the normal form is not valid:\n%s", brief(n))
		}
		if n.NextObj != len(n.Objs)+1 || n.NextAct != len(n.Acts)+1 {
			t.Fatalf("the next numbers are %d, %d of\n%s", n.NextObj, n.NextAct, brief(n))
		}
		images := map[thing]bool{}
		for x, to := range news {
			y := thing{x.act, to}
			if images[y] {
				t.Fatalf("two things become %v", y)
			}
			images[y] = true
		}
		if len(images) != len(n.Objs)+len(n.Acts) {
			t.Fatalf("%d pairs, %d things", len(images), len(n.Objs)+len(n.Acts))
		}
		for p, v := range placesOf(w) {
			if news[thing{p.kind == "var", p.n}] == 0 {
				continue
			}
			image, _ := movedRoots(vals(v), nil, news)
			if got, errno := p.moved(news).read(n); errno != api.OK || got != image[0] {
				t.Fatalf("%v is %v, its image %v (%v)", p, v, got, errno)
			}
		}
		roots, acts = movedRoots(roots, acts, news)
		again, same := normal(t, n, roots, acts)
		if !world.Same(again, n) {
			t.Fatalf("the normal form of\n%s\nis\n%s", brief(n), brief(again))
		}
		for x, to := range same {
			if x.n != to {
				t.Fatalf("%v becomes %d in the normal form of the normal form", x, to)
			}
		}
	}
}

// otherNumbers returns new numbers by chance for everything but the roots.
func otherNumbers(r *rand.Rand, w api.World) map[thing]int {
	news := map[thing]int{}
	var objs, acts []thing
	for _, o := range w.Objs {
		if o.Oid <= 10 {
			news[thing{false, o.Oid}] = o.Oid
		} else {
			objs = append(objs, thing{false, o.Oid})
		}
	}
	for _, a := range w.Acts {
		acts = append(acts, thing{true, a.Aid})
	}
	for _, l := range [][]thing{objs, acts} {
		next := 11
		if len(l) > 0 && l[0].act {
			next = 1
		}
		r.Shuffle(len(l), func(i, j int) { l[i], l[j] = l[j], l[i] })
		for _, x := range l {
			next += r.Intn(2) * r.Intn(4)
			news[x] = next
			next++
		}
	}
	return news
}

// P5.7: with other numbers, and with more that is not reachable, the normal form is the same.
func TestNumbersDoNotMatter(t *testing.T) {
	r := source()
	for w := range worlds(t, r, 400) {
		roots, acts := someRoots(r, w)
		n, _ := normal(t, w, roots, acts)
		news := otherNumbers(r, w)
		v := renumbered(w, news)
		v.NextObj, v.NextAct = 500, 500
		if !isWorld(v) {
			t.Fatalf("with other numbers no world:\n%s", brief(v))
		}
		moved, movedActs := movedRoots(roots, acts, news)
		if m, _ := normal(t, v, moved, movedActs); !world.Same(n, m) {
			t.Fatalf("the normal forms of\n%s\nand\n%s\ndiffer", brief(w), brief(v))
		}
		// What nothing reachable leads to may come and go.
		g := &grower{r, clone(v)}
		for range 3 {
			o := api.Obj{Oid: g.NextObj}
			g.object(&o)
			g.Objs = append(g.Objs, o)
			g.NextObj++
		}
		if len(g.Acts) > 0 {
			a := oneOf(r, g.Acts)
			a.Aid, a.Self = g.NextAct, ref(g.NextObj-1)
			g.Acts = append(g.Acts, a)
			g.NextAct++
		}
		if !isWorld(g.World) {
			t.Fatalf("with more no world:\n%s", brief(g.World))
		}
		if m, _ := normal(t, g.World, moved, movedActs); !world.Same(n, m) {
			t.Fatalf("the normal forms of\n%s\nand\n%s\ndiffer", brief(v), brief(g.World))
		}
	}
}

// P5.6: the order of visits, in a world in which everything is led to in several ways, and in circles.
func TestOrderOfNumbers(t *testing.T) {
	w := world.Empty()
	w.Codes = ofText(t, "a = ( | v <- 900031 | [ 900030 ]. 900032 )", "b = ( 900001. 900033 )")
	w.Objs[0].Slots = slots(slot("x", api.SVar, ref(5)), slot("y", api.SVar, ref(60)))
	w.Objs[4].Slots = slots(slot("x", api.SVar, ref(59)))
	w.Objs[6].Elems = vals(ref(58), ref(59), ref(1))
	for _, n := range []int{20, 21, 30, 31, 32, 33, 40, 41, 50, 51, 57, 58, 59, 60} {
		w.Objs = append(w.Objs, plain(n))
	}
	obj := func(oid int) *api.Obj {
		return &w.Objs[slices.IndexFunc(w.Objs, func(o api.Obj) bool { return o.Oid == oid })]
	}
	*obj(33) = api.Obj{Oid: 33, Kind: api.KVector, Slots: slots(slot("x", api.SVar, ref(33)), slot("y", api.SVar, ref(57))), Elems: vals(ref(51), quoted("s"), ref(30))}
	*obj(40) = api.Obj{Oid: 40, Kind: api.KBlock, Code: 1, Up: 7, Slots: slots(slot("x", api.SVar, ref(50)))}
	obj(50).Slots = slots(slot("x", api.SVar, ref(40)), slot("y", api.SParent, ref(50)))
	w.Acts = []api.Act{
		{Aid: 3, Code: 1, Self: ref(41), Holder: 20, Up: 7},
		{Aid: 5, Code: 2, Self: ref(41), Holder: 41},
		{Aid: 7, Code: 0, Self: whole(3), Holder: 4, Vars: vals(ref(21)), Done: true},
		{Aid: 8, Code: 2, Self: ref(50), Holder: 50},
	}
	w.NextObj, w.NextAct = 100, 100
	_, news := normal(t, w, vals(ref(50), whole(3), ref(40)), []int{3, 3, 8})
	want := map[thing]int{}
	for n := 1; n <= 10; n++ {
		want[thing{false, n}] = n
	}
	// 5 leads to 59, 1 to 60, 7 to 58; code: 32, 31, 30, then 33 with 57, 51; 50 with 40, the activation 7 with 21; the activation 3 with 41, 20.
	for i, n := range []int{59, 60, 58, 32, 31, 30, 33, 57, 51, 50, 40, 21, 41, 20} {
		want[thing{false, n}] = 11 + i
	}
	for i, n := range []int{7, 3, 8} {
		want[thing{true, n}] = 1 + i
	}
	for x, n := range want {
		if news[x] != n {
			t.Errorf("%v becomes %d, not %d", x, news[x], n)
		}
	}
	if len(news) != len(want) {
		t.Errorf("%d numbers, not %d", len(news), len(want))
	}
}

// P5.8: Drop takes nothing away but activations that are done and to which nothing leads, and no object changes.
func TestDrop(t *testing.T) {
	r := source()
	gone := map[int]int{}
	for w := range worlds(t, r, 500) {
		for len(w.Acts) > 0 {
			aid := oneOf(r, w.Acts).Aid
			v, errno := world.Drop(w, aid)
			if errno != api.OK || !judged(t, v) {
				t.Fatalf("Drop of %d: %v", aid, errno)
			}
			for _, a := range v.Acts {
				was, ok := actOf(w, a.Aid)
				was.Done = was.Done || a.Aid == aid
				if !ok || !gives(was).same(gives(a)) {
					t.Fatalf("Drop of %d makes %+v of %+v", aid, a, was)
				}
				if a.Done && !isUp(v, a.Aid) {
					t.Fatalf("Drop of %d leaves %d", aid, a.Aid)
				}
			}
			left := clone(v)
			left.Acts = w.Acts
			if !equal(left, w) {
				t.Fatalf("Drop of %d changes more than activations", aid)
			}
			if !equal(v, dropped(w, aid)) {
				t.Fatalf("Drop of %d in\n%s\nmakes\n%s", aid, brief(w), brief(v))
			}
			gone[min(len(w.Acts)-len(v.Acts), 3)]++
			w = v
			if r.Intn(3) == 0 {
				break
			}
		}
	}
	for n := range 4 {
		if gone[n] < 10 {
			t.Errorf("%d times %d activations went", gone[n], n)
		}
	}
}

// P5.8: chains of activations of blocks, which go one after the other, and what holds them.
func TestDropPoints(t *testing.T) {
	aids := func(w api.World) []int {
		var l []int
		for _, a := range w.Acts {
			l = append(l, a.Aid)
		}
		return l
	}
	for _, x := range []struct {
		what string
		do   func(w *api.World)
		aid  int
		left []int
	}{
		{"one that is not done, and one that was", func(w *api.World) {}, 5, []int{4, 6, 9}},
		{"one that is done", func(w *api.World) {}, 2, []int{4, 5, 6, 9}},
		{"the end of a chain, which a block holds", func(w *api.World) {}, 9, []int{4, 5, 6}},
		{"the middle of a chain", func(w *api.World) {}, 6, []int{4, 5, 6, 9}},
		{"the beginning of a chain", func(w *api.World) {}, 4, []int{4, 5, 6, 9}},
		{"the whole chain", func(w *api.World) { w.Objs = w.Objs[:12]; w.Acts[3].Done = true; cut(w) }, 9, []int{5}},
		{"a chain that is not done ahead", func(w *api.World) { w.Objs = w.Objs[:12]; cut(w) }, 9, []int{4, 5, 6}},
		{"a chain, which a block holds", func(w *api.World) { w.Acts[3].Done = true }, 9, []int{4, 5, 6}},
		{"a chain in another order", func(w *api.World) {
			w.Objs = w.Objs[:12]
			cut(w)
			w.Acts[3].Done = true
			w.Acts[1], w.Acts[4] = w.Acts[4], w.Acts[1]
			w.Acts[1].Aid, w.Acts[4].Aid, w.Acts[3].Up = 4, 9, 9
		}, 4, []int{5}},
	} {
		w := sample(t)
		x.do(&w)
		if !isWorld(w) {
			t.Fatalf("%s: no world", x.what)
		}
		got, errno := world.Drop(w, x.aid)
		if errno != api.OK || !slices.Equal(aids(got), x.left) {
			t.Errorf("%s: %v, %v", x.what, aids(got), errno)
		}
	}
	for _, aid := range []int{-1 << 63, -1, 0, 1, 3, 12, 1 << 62} {
		if w, errno := world.Drop(sample(t), aid); errno != api.ErrNone || !equal(w, api.World{}) {
			t.Errorf("Drop of %d: %v", aid, errno)
		}
	}
	w := sample(t)
	w.Acts = append(w.Acts, api.Act{Aid: 10, Code: 4, Self: null, Holder: 1, Done: true}, api.Act{Aid: 11, Code: 6, Self: null, Holder: 1, Up: 10, Vars: vals(null, null)})
	w.Acts[5].Code, w.Acts[5].Vars = 5, vals(null)
	if v, errno := world.Drop(w, 11); errno != api.OK || !slices.Equal(aids(v), []int{4, 5, 6, 9}) {
		t.Errorf("Drop of 11: %v", aids(v))
	}
}

// cut puts nil in the place of references to objects that there are none of any more.
func cut(w *api.World) {
	for _, a := range w.Acts {
		for i, v := range a.Vars {
			if !isOf(*w, v) {
				a.Vars[i] = null
			}
		}
	}
	for i := range w.Acts {
		if !isOf(*w, w.Acts[i].Self) {
			w.Acts[i].Self = null
		}
	}
}

// P5.9: writes to what is reachable commute with Norm.
func TestIndependence(t *testing.T) {
	r := source()
	count := 0
	for w := range worlds(t, r, 400) {
		roots, acts := someRoots(r, w)
		oids, aids, _ := world.Reach(w, roots, acts)
		n, news := normal(t, w, roots, acts)
		moved, movedActs := movedRoots(roots, acts, news)
		for range 8 {
			p, ok := somePlace(r, w)
			if !ok || news[thing{p.kind == "var", p.n}] == 0 {
				continue
			}
			v := oneOf(r, []api.Val{ref(oneOf(r, oids)), whole(r.Intn(9))})
			image, _ := movedRoots(vals(v), nil, news)
			written, errno := p.write(w, v)
			other, errno2 := p.moved(news).write(n, image[0])
			if errno != errno2 {
				t.Fatalf("a write of %v to %v: %v and %v", v, p, errno, errno2)
			}
			if errno != api.OK {
				continue
			}
			count++
			one, _ := normal(t, written, roots, acts)
			two, _ := normal(t, other, moved, movedActs)
			if !world.Same(one, two) {
				t.Fatalf("a write of %v to %v, and the normal form, make\n%s\nand the other way round\n%s", v, p, brief(one), brief(two))
			}
		}
		if len(aids) > 0 {
			aid := oneOf(r, aids)
			var left []int // the roots that are left
			one, errno := world.Drop(w, aid)
			two, errno2 := world.Drop(n, news[thing{true, aid}])
			for _, a := range acts {
				_, ok := actOf(one, a)
				if _, is := actOf(two, news[thing{true, a}]); ok && is {
					left = append(left, a)
				}
			}
			_, leftMoved := movedRoots(nil, left, news)
			oneForm, _ := normal(t, one, roots, left)
			twoForm, _ := normal(t, two, moved, leftMoved)
			if errno != api.OK || errno2 != api.OK || !world.Same(oneForm, twoForm) {
				t.Fatalf("Drop of %d, and the normal form, make\n%s\nand the other way round\n%s", aid, brief(oneForm), brief(twoForm))
			}
		}
	}
	if count < 500 {
		t.Errorf("%d writes", count)
	}
}
