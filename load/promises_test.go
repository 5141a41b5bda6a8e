package load_test

import (
	"math/rand"
	"slices"
	"testing"

	"proteus/api"
	"proteus/code"
	"proteus/copies"
	"proteus/lex"
	"proteus/load"
	"proteus/parse"
	"proteus/world"
)

// P7.2 to P7.8, each by what the functions themselves return.

// programs calls something with programs by chance, for an object of a world by chance.
func programs(t *testing.T, count int, how oddly, do func(r *rand.Rand, w api.World, oid int, n api.Node)) {
	t.Helper()
	r := source()
	for w := range worlds(t, r, count) {
		for range 6 {
			oid := oneOf(r, w.Objs).Oid
			if r.Intn(2) == 0 {
				oid = api.OLobby
			}
			do(r, w, oid, program(r, w, how))
		}
	}
}

// grownFrom fails unless a world is another one with more objects and code behind, and further slots of an object (of none, if it is 0).
func grownFrom(t *testing.T, w, v api.World, oid int) {
	t.Helper()
	mustBeWorld(t, v)
	if len(v.Objs) < len(w.Objs) || len(v.Codes) < len(w.Codes) {
		t.Fatalf("there are %d objects of %d, %d pieces of code of %d", len(v.Objs), len(w.Objs), len(v.Codes), len(w.Codes))
	}
	old := copies.World(v)
	old.Objs, old.Codes, old.NextObj = old.Objs[:len(w.Objs)], old.Codes[:len(w.Codes)], w.NextObj
	if oid != 0 {
		o := find(old, oid)
		o.Slots = o.Slots[:min(len(o.Slots), len(find(w, oid).Slots))]
	}
	if !world.Same(old, w) {
		t.Fatalf("what was there is\n%s\nand was\n%s", brief(old), brief(w))
	}
	for i, o := range v.Objs[len(w.Objs):] {
		if o.Oid != w.NextObj+i || o.Kind != api.KPlain {
			t.Fatalf("%d is new", o.Oid)
		}
	}
	if v.NextObj != w.NextObj+len(v.Objs)-len(w.Objs) {
		t.Fatalf("NextObj is %d", v.NextObj)
	}
}

// P7.2: worlds are valid, what was there is as it was, and slots stand behind those that were there.
func TestValid(t *testing.T) {
	added, made := 0, 0
	programs(t, 150, 30, func(r *rand.Rand, w api.World, oid int, n api.Node) {
		v, errno, _ := load.Add(w, oid, n)
		if errno == api.OK {
			added++
			grownFrom(t, w, v, oid)
			slots := find(v, oid).Slots[len(find(w, oid).Slots):]
			if !slices.EqualFunc(slots, n.Subs, func(s api.Slot, x api.Node) bool { return s.Name == x.Text && s.Kind == x.Num }) {
				t.Fatalf("the slots of %s are %+v", brief(n), slots)
			}
		}
		for _, s := range n.Subs {
			text, errno := parse.Print(s)
			if errno != api.OK || len(s.Subs) == 0 {
				continue
			}
			if v, at, errno, _ := load.Method(w, text); errno == api.OK {
				made++
				grownFrom(t, w, v, 0)
				if c := v.Codes[at]; c.Name != s.Text || c.Block {
					t.Fatalf("the code of %s is %+v", text, c)
				}
			}
			if s.Subs[0].Kind == api.NMethod {
				continue
			}
			if v, x, errno, _ := load.Value(w, s.Subs[0]); errno == api.OK {
				made++
				grownFrom(t, w, v, 0)
				if ok, errno := world.Has(v, x); !ok || errno != api.OK {
					t.Fatalf("%v is no value", x)
				}
			}
		}
	})
	if added < 300 || made < 800 {
		t.Errorf("%d programs were added, %d other things were made", added, made)
	}
}

// P7.3: two texts, one after the other, are both of them with a dot between. So is what is wrong with them.
func TestTwoTexts(t *testing.T) {
	right, wrong := 0, 0
	programs(t, 250, 60, func(r *rand.Rand, w api.World, oid int, n api.Node) {
		m := program(r, w, 60)
		first, errno := listed(n)
		second, errnoOf := listed(m)
		if errno != api.OK || errnoOf != api.OK || len(n.Subs) == 0 {
			return
		}
		both, errno, name := load.Into(w, oid, first+oneOf(r, []string{" . ", "\n.\n", " .", " \"a.b\" ."})+second)
		v, errnoOf, nameOf := load.Into(w, oid, first)
		if errnoOf == api.OK {
			v, errnoOf, nameOf = load.Into(v, oid, second)
		}
		if errno != errnoOf || name != nameOf || !world.Same(both, v) {
			t.Fatalf("%q and %q into %d are %v, %q and, one after the other, %v, %q in\n%s", first, second, oid, errno, name, errnoOf, nameOf, brief(w))
		}
		if errno == api.OK {
			right++
		} else {
			wrong++
		}
	})
	if right < 100 || wrong < 100 {
		t.Errorf("%d were right, %d wrong", right, wrong)
	}
}

// P7.4: names lead to their object, none shorter do; what a text names it refers to.
func TestNamed(t *testing.T) {
	r := source()
	named, unnamed, paths := 0, 0, 0
	for w := range worlds(t, r, 300) {
		// By how many own slots each object is reached.
		length := map[int]int{}
		level := []int{api.OLobby}
		for n := 1; len(level) > 0; n++ {
			var next []int
			for _, oid := range level {
				for _, s := range find(w, oid).Slots {
					if s.V.K == api.VRef && length[s.V.N] == 0 {
						length[s.V.N] = n
						next = append(next, s.V.N)
					}
				}
			}
			level = next
		}
		for _, o := range w.Objs {
			l, errno := load.Names(w, o.Oid)
			if length[o.Oid] == 0 {
				unnamed++
				if errno != api.ErrName {
					t.Fatalf("%d is not named: %q, %v in\n%s", o.Oid, l, errno, brief(w))
				}
				continue
			}
			named++
			if v, e, name := load.Named(w, l); errno != api.OK || len(l) != length[o.Oid] || e != api.OK || v != ref(o.Oid) || name != "" {
				t.Fatalf("%d has the names %q, %v, which mean %v, %v in\n%s", o.Oid, l, errno, v, e, brief(w))
			}
		}
		for range 6 {
			l := someWay(r, w)
			v, errno, name := load.Named(w, l)
			oid := oneOf(r, w.Objs).Oid
			u, e, nameOf := load.Add(w, oid, object(variable("further", path(l...))))
			if e != errno || name != nameOf {
				t.Fatalf("%q is %v, %q, and %v, %q in a text", l, errno, name, e, nameOf)
			}
			if errno != api.OK {
				continue
			}
			paths++
			if s := find(u, oid).Slots; s[len(s)-1].V != v {
				t.Fatalf("%q is %v, and %v in a text", l, v, s[len(s)-1].V)
			}
		}
	}
	if named < 2000 || unnamed < 300 || paths < 1000 {
		t.Errorf("%d objects were named, %d not; %d paths had values", named, unnamed, paths)
	}
}

// pairing compares what was read with what was written.
type pairing struct {
	was, is api.World
	named   map[int][]int
	objects int // how many were compared that are not named
	pieces  int
}

func (p *pairing) value(a, b api.Val) bool {
	if a.K == api.VRef && p.named[a.N] == nil {
		return p.literal(a, b)
	}
	return a == b
}

// literal compares objects that a text has. Nil, named or not, is what comes where nothing is written.
func (p *pairing) literal(a, b api.Val) bool {
	if a.K != api.VRef || a == null && b == null {
		return a == b
	}
	p.objects++
	return b.K == api.VRef && b.N >= p.was.NextObj && find(p.is, b.N).Kind == find(p.was, a.N).Kind && p.slots(find(p.was, a.N).Slots, find(p.is, b.N).Slots)
}

func (p *pairing) slots(l, m []api.Slot) bool {
	return slices.EqualFunc(l, m, func(a, b api.Slot) bool {
		if a.Name != b.Name || a.Kind != b.Kind {
			return false
		}
		if a.V.K == api.VMeth {
			return b.V.K == api.VMeth && p.code(a.V.N, b.V.N)
		}
		return p.value(a.V, b.V)
	})
}

// code compares the units of methods, as they stand by themselves.
func (p *pairing) code(at, bt int) bool {
	l, errno := code.Take(p.was.Codes, at, 0)
	m, errnoOf := code.Take(p.is.Codes, bt, 0)
	if errno != api.OK || errnoOf != api.OK || len(l) != len(m) {
		return false
	}
	for i := range l {
		p.pieces++
		if !slices.EqualFunc(l[i].Lits, m[i].Lits, p.literal) || !slices.EqualFunc(l[i].Init, m[i].Init, p.value) {
			return false
		}
		l[i].Lits, l[i].Init, m[i].Lits, m[i].Init = nil, nil, nil, nil
	}
	return code.Same(l, m)
}

// P7.5: the listing of an object, added to a new one, makes slots that are alike.
func TestWrittenAndRead(t *testing.T) {
	r := source()
	written, objects, pieces := 0, 0, 0
	for w := range worlds(t, r, 300) {
		for _, o := range w.Objs {
			text, errno := load.Listing(w, o.Oid)
			if errno != api.OK {
				continue
			}
			v, oid, errno := world.Make(w, api.KPlain, nil, nil)
			if errno != api.OK {
				t.Fatal(errno)
			}
			u, errno, name := load.Into(v, oid, text)
			if errno != api.OK {
				t.Fatalf("%q of %d is %v, %q in\n%s", text, o.Oid, errno, name, brief(w))
			}
			p := &pairing{was: v, is: u, named: least(w)}
			if !p.slots(o.Slots, find(u, oid).Slots) {
				t.Fatalf("%q of %d in\n%s\nmakes\n%s", text, o.Oid, brief(w), brief(u))
			}
			if again, errno := load.Listing(u, oid); errno != api.OK || again != text {
				t.Fatalf("%q of %d is listed as %q, %v when it was read", text, o.Oid, again, errno)
			}
			if len(o.Slots) > 0 {
				written++
			}
			objects += p.objects
			pieces += p.pieces
		}
	}
	if written < 500 || objects < 300 || pieces < 300 {
		t.Errorf("%d objects were written, with %d within them and %d pieces of code", written, objects, pieces)
	}
}

// P7.6: the code of Method is that of the slot, Expr puts one unit at the end.
func TestCodeOfMethods(t *testing.T) {
	r := source()
	methods, exprs := 0, 0
	for w := range worlds(t, r, 200) {
		for range 6 {
			n := program(r, w, 0)
			oid := oneOf(r, w.Objs).Oid
			for _, s := range n.Subs {
				if len(s.Subs) == 0 || s.Subs[0].Kind != api.NMethod {
					continue
				}
				text := mustPrint(t, s)
				v, errno, _ := load.Into(w, oid, text)
				u, at, errnoOf, name := load.Method(w, text)
				if errno == api.ErrTwice && errnoOf == api.OK {
					continue
				}
				if errno != errnoOf {
					t.Fatalf("%q is %v, and %v by Method, %q", text, errno, errnoOf, name)
				}
				if errno != api.OK {
					continue
				}
				methods++
				o := find(v, oid)
				last := len(o.Slots) - 1
				got := o.Slots[last].V
				o.Slots = o.Slots[:last]
				if got != meth(at) || !world.Same(u, v) {
					t.Fatalf("%q is %v, and %d by Method", text, got, at)
				}
				if len(s.Subs[0].Subs) > 0 && s.Subs[0].Subs[0].Kind == api.NSlot && s.Subs[0].Subs[0].Num == api.SArg {
					continue
				}
				exprs++
				body := mustPrint(t, s.Subs[0])
				x, at, errno, name := load.Expr(w, body)
				if errno != api.OK {
					t.Fatalf("%q: %v, %q", body, errno, name)
				}
				grownFrom(t, w, x, 0)
				unit, errno := code.Unit(x.Codes, at)
				if errno != api.OK || unit[0] != at || unit[len(unit)-1] != len(x.Codes)-1 || len(unit) != len(x.Codes)-at {
					t.Fatalf("the unit of %q is %v, %v of %d pieces", body, unit, errno, len(x.Codes))
				}
				x.Codes[at].Name = s.Text
				if !world.Same(x, u) {
					t.Fatalf("%q is\n%s\nnot\n%s", body, brief(x), brief(u))
				}
			}
		}
	}
	if methods < 500 || exprs < 300 {
		t.Errorf("%d methods, %d bodies", methods, exprs)
	}
}

// P7.7: each literal makes an object of its own.
func TestNothingShared(t *testing.T) {
	r := source()
	news := 0
	for w := range worlds(t, r, 200) {
		for range 4 {
			// Paths lead to one object alone, which does not count.
			to, errno, _ := load.Named(w, []string{"nil"})
			if errno != api.OK || to.K != api.VRef {
				continue
			}
			n := (&grower{r, 0, [][]string{{"nil"}}, 20}).object()
			v, errno, _ := load.Add(w, api.ONil, n)
			if errno != api.OK {
				continue
			}
			used := map[int]int{}
			count := func(l ...api.Val) {
				for _, v := range l {
					if v.K == api.VRef {
						used[v.N]++
					}
				}
			}
			for i, o := range v.Objs {
				for j, s := range o.Slots {
					if i >= len(w.Objs) || o.Oid == api.ONil && j >= len(find(w, api.ONil).Slots) {
						count(s.V)
					}
				}
			}
			for _, c := range v.Codes[len(w.Codes):] {
				count(c.Lits...)
				count(c.Init...)
			}
			delete(used, api.ONil)
			delete(used, to.N)
			for oid, n := range used {
				if n != 1 || oid < w.NextObj {
					t.Fatalf("%d is used %d times in\n%s", oid, n, brief(v))
				}
			}
			if got := len(v.Objs) - len(w.Objs); len(used) != got || got != literals(n)-1 {
				t.Fatalf("%s makes %d objects, %d are used", brief(n), got, len(used))
			}
			news += len(used)
		}
	}
	if news < 1000 {
		t.Errorf("%d objects were made", news)
	}
}

// literals returns how many NObjects a tree has.
func literals(n api.Node) int {
	count := 0
	if n.Kind == api.NObject {
		count = 1
	}
	for _, s := range n.Subs {
		count += literals(s)
	}
	return count
}

// P7.8: Into of a text is Add of its tree; trees are valid, and their texts are theirs.
func TestTextsAndTrees(t *testing.T) {
	right, wrong := 0, 0
	programs(t, 150, 30, func(r *rand.Rand, w api.World, oid int, n api.Node) {
		text, errno := listed(n)
		if errno != api.OK {
			return
		}
		v, errno, name := load.Into(w, oid, text)
		u, errnoOf, nameOf := load.Add(w, oid, n)
		if errno != errnoOf || name != nameOf || !world.Same(v, u) {
			t.Fatalf("Into of %q is %v, %q, Add %v, %q in\n%s", text, errno, name, errnoOf, nameOf, brief(w))
		}
		if errno == api.OK {
			right++
		} else {
			wrong++
		}
		if f, errno, name := load.File(w, text); oid == api.OLobby && (errno != errnoOf || name != nameOf || !world.Same(f, u)) {
			t.Fatalf("File of %q is %v, %q, Add %v, %q in\n%s", text, errno, name, errnoOf, nameOf, brief(w))
		}
	})
	if right < 300 || wrong < 150 {
		t.Errorf("%d were right, %d wrong", right, wrong)
	}
	r := source()
	trees := 0
	for w := range worlds(t, r, 200) {
		for _, o := range w.Objs {
			n, errno := load.Tree(w, o.Oid)
			if errno != api.OK {
				continue
			}
			trees++
			if errno := parse.Check(n); errno != api.OK || n.Kind != api.NObject {
				t.Fatalf("%v of the tree of %d in\n%s", errno, o.Oid, brief(w))
			}
			text, errno := load.Print(w, o.Oid)
			want, errnoOf := parse.Print(n)
			if errno != errnoOf || text != want {
				t.Fatalf("Print of %d is %q, %v, not %q, %v", o.Oid, text, errno, want, errnoOf)
			}
			list, errno := load.Listing(w, o.Oid)
			l, errnoOf := parse.Listing(n)
			want, _ = lex.Print(l)
			if errno != errnoOf || list != want {
				t.Fatalf("Listing of %d is %q, %v, not %q, %v", o.Oid, list, errno, want, errnoOf)
			}
		}
	}
	if trees < 2000 {
		t.Errorf("there were %d trees", trees)
	}
}

// R7: no memory of a result is that of an argument, or of another result, or twice within it.
func TestMemory(t *testing.T) {
	r := source()
	for w := range worlds(t, r, 60) {
		before := copies.World(w)
		for range 4 {
			a := someArgs(t, r, w)
			names, n := slices.Clone(a.names), cloneTree(a.n)
			for _, f := range functions() {
				x, y := f.do(w, a), f.do(w, a)
				if !x.same(y) {
					t.Fatalf("%s answers twice, and not the same", f.name)
				}
				for _, v := range x.all {
					spoil(t, v)
				}
				if !world.Same(w, before) || !slices.Equal(names, a.names) || !parse.Same(n, a.n) {
					t.Fatalf("%s: the result and an argument share memory", f.name)
				}
				if z := f.do(w, a); !z.same(y) {
					t.Fatalf("%s: two results share memory", f.name)
				}
			}
		}
	}
}

// far is what is added to the numbers of a result that is spoilt. What shared memory would be as far twice.
const far = 1 << 50

func spoil(t *testing.T, x any) {
	t.Helper()
	switch x := x.(type) {
	case []string:
		for i := range x {
			x[i] += "!"
		}
	case api.Node:
		spoilTree(&x)
		for n := range nodes(&x) {
			if n.Kind >= 2*far {
				t.Fatal("two lists of a tree share memory")
			}
		}
	case api.World:
		spoilWorld(x)
		checkSpoilt(t, x)
	}
}

func spoilTree(n *api.Node) {
	for i := range n.Subs {
		n.Subs[i].Kind += far
		spoilTree(&n.Subs[i])
	}
	clear(n.Subs[len(n.Subs):cap(n.Subs)])
}

func nodes(n *api.Node) func(yield func(n *api.Node) bool) {
	return func(yield func(n *api.Node) bool) {
		if !yield(n) {
			return
		}
		for i := range n.Subs {
			nodes(&n.Subs[i])(yield)
		}
	}
}

// lists calls something with all lists of values, and one with all other lists, of a world.
func lists(w api.World, vals func(l []api.Val), slots func(l []api.Slot), codes func(c *api.Code)) {
	for i := range w.Objs {
		slots(w.Objs[i].Slots)
		vals(w.Objs[i].Elems)
	}
	for i := range w.Acts {
		vals(w.Acts[i].Vars)
	}
	for i := range w.Codes {
		vals(w.Codes[i].Init)
		vals(w.Codes[i].Lits)
		codes(&w.Codes[i])
	}
}

func spoilWorld(w api.World) {
	clear(w.Objs[len(w.Objs):cap(w.Objs)])
	clear(w.Acts[len(w.Acts):cap(w.Acts)])
	clear(w.Codes[len(w.Codes):cap(w.Codes)])
	lists(w, func(l []api.Val) {
		for i := range l {
			l[i].N += far
		}
		clear(l[len(l):cap(l)])
	}, func(l []api.Slot) {
		for i := range l {
			l[i].V.N += far
		}
		clear(l[len(l):cap(l)])
	}, func(c *api.Code) {
		for i := range c.Names {
			c.Names[i] += "!"
		}
		for i := range c.Sels {
			c.Sels[i] += "!"
		}
		for i := range c.Instrs {
			c.Instrs[i].A += far
		}
	})
	for i := range w.Objs {
		w.Objs[i].Oid += far
	}
	for i := range w.Acts {
		w.Acts[i].Aid += far
	}
	for i := range w.Codes {
		w.Codes[i].Args += far
	}
}

func checkSpoilt(t *testing.T, w api.World) {
	t.Helper()
	once := func(n int) {
		t.Helper()
		if n >= 2*far || n == 0 {
			t.Fatal("two lists of a world share memory")
		}
	}
	lists(w, func(l []api.Val) {
		for _, v := range l {
			if v.K != api.VInt {
				once(v.N)
			}
		}
	}, func(l []api.Slot) {
		for _, s := range l {
			if s.V.K != api.VInt {
				once(s.V.N)
			}
		}
	}, func(c *api.Code) {
		for _, i := range c.Instrs {
			once(i.A)
		}
	})
	for _, o := range w.Objs {
		once(o.Oid)
	}
	for _, a := range w.Acts {
		once(a.Aid)
	}
	for _, c := range w.Codes {
		once(c.Args)
	}
}

// R1: a world that is none is told of first, whatever else is handed over.
func TestAnyWorld(t *testing.T) {
	r := source()
	count := 0
	for w := range worlds(t, r, 80) {
		for range 8 {
			a := someArgs(t, r, w)
			for range r.Intn(4) {
				a.spoil(r, w)
			}
			v := copies.World(w)
			damage(r, &v)
			if world.Check(v) == api.OK {
				continue
			}
			count++
			for _, f := range functions() {
				if x := f.do(v, a); !x.same(fails(api.ErrWorld)) {
					t.Fatalf("%s in\n%s\nis %s", f.name, brief(v), shown(x))
				}
			}
		}
	}
	if count < 300 {
		t.Errorf("%d worlds were none", count)
	}
}

// damage changes a world in one place, most often so that it is none.
func damage(r *rand.Rand, w *api.World) {
	o := &w.Objs[r.Intn(len(w.Objs))]
	n := oneOf(r, []int{0, -1, 1 << 40, 1<<63 - 1, -1 << 63, 3})
	switch r.Intn(6) {
	case 0:
		w.NextObj = n
	case 1:
		w.NextAct = -n
	case 2:
		o.Oid = n
	case 3:
		o.Slots = append(o.Slots, slotOf(oneOf(r, nastyTexts), r.Intn(7), ref(n)))
	case 4:
		o.Kind = n
	case 5:
		if len(w.Codes) > 0 {
			c := &w.Codes[r.Intn(len(w.Codes))]
			c.Outer, c.Args = n, n
		}
	}
}
