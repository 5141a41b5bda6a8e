package load_test

import (
	"slices"
	"strconv"
	"strings"
	"testing"

	"proteus/api"
	"proteus/load"
	"proteus/parse"
	"proteus/world"
)

// Each limit, and one more: of the world, of code, of trees.

// limited fails unless a tree can be added to an object, or cannot for a limit.
func limited(t testing.TB, w api.World, oid int, n api.Node, ok bool) api.World {
	t.Helper()
	v, errno, name := load.Add(w, oid, n)
	if ok {
		if errno != api.OK {
			t.Errorf("Add is %v", errno)
			return w
		}
		return mustBeWorld(t, v)
	}
	if errno != api.ErrLimit || name != "" || !isEmpty(v) {
		t.Errorf("Add is %v, %q, not ErrLimit", errno, name)
	}
	return v
}

// wide returns so many empty objects, within one another as far as there is room.
func wide(count int) api.Node {
	n := object()
	for i := 0; count > 1; i++ {
		some := (count - 1) / (api.MaxSlots - i)
		if (count-1)%(api.MaxSlots-i) > 0 {
			some++
		}
		n.Subs = append(n.Subs, constant("a"+strconv.Itoa(i), wide(some)))
		count -= some
	}
	return n
}

// crowded returns a world with so many objects.
func crowded(t testing.TB, count int) api.World {
	w := load.Basic()
	for oid := 11; oid <= count; oid++ {
		w.Objs = append(w.Objs, plain(oid))
	}
	w.NextObj = count + 1
	return mustBeWorld(t, w)
}

func TestManyObjects(t *testing.T) {
	for _, news := range []int{1, 2, 7, 100} {
		n := object(constant("a", wide(news)))
		w := limited(t, crowded(t, api.MaxObjs-news), api.OLobby, n, true)
		if len(w.Objs) != api.MaxObjs {
			t.Errorf("there are %d objects", len(w.Objs))
		}
		limited(t, crowded(t, api.MaxObjs-news+1), api.OLobby, n, false)
		limited(t, w, api.OLobby, object(constant("b", object())), false)
		limited(t, w, api.OLobby, object(constant("b", num("3"))), true)
		limited(t, w, 9, object(constant("f", method(0, object()))), false)
	}
	// Numbers come to an end, too.
	for _, x := range []struct {
		next int
		text string
		ok   bool
	}{
		{api.MaxNumber - 1, "a = (| |)", true}, {api.MaxNumber, "a = (| |)", false}, {api.MaxNumber, "a = 3", true}, {api.MaxNumber - 1, "a = (| b = (| |) |)", false}, {api.MaxNumber - 2, "a = (| |). f = ( (| |) )", true}, {api.MaxNumber - 2, "a = (| |). f = ( (| |). (| |) )", false},
	} {
		w := load.Basic()
		w.NextObj = x.next
		v := limited(t, w, api.OLobby, tree(t, x.text, parse.Program), x.ok)
		if x.ok && v.NextObj != x.next+strings.Count(x.text, "(|") {
			t.Errorf("%q: NextObj is %d", x.text, v.NextObj)
		}
	}
	// Two slots with one name are told ahead of that.
	refuses(t, crowded(t, api.MaxObjs), "x = (| a. a |)", api.ErrTwice, "a")
	refuses(t, crowded(t, api.MaxObjs), "x = (| a = none |)", api.ErrName, "none")
	refuses(t, crowded(t, api.MaxObjs), "nil = (| |)", api.ErrLimit, "")
}

func TestManySlots(t *testing.T) {
	var l []string
	for i := range api.MaxSlots {
		l = append(l, "s"+strconv.Itoa(i))
	}
	for _, had := range []int{0, 1, 39, 40} {
		w, errno, _ := load.Into(load.Basic(), api.ONil, strings.Join(l[:had], ". "))
		if errno != api.OK {
			t.Fatal(errno)
		}
		rest := tree(t, strings.Join(l[had:], ". "), parse.Program)
		v := limited(t, w, api.ONil, rest, true)
		if n := len(find(v, api.ONil).Slots); n != api.MaxSlots {
			t.Errorf("there are %d slots", n)
		}
		limited(t, v, api.ONil, object(), true)
		limited(t, v, api.ONil, object(variable("more")), false)
		if _, errno, name := load.Add(v, api.ONil, object(variable("s39"))); errno != api.ErrTwice || name != "s39" {
			t.Errorf("one that is there: %v, %q", errno, name)
		}
		if _, errno, name := load.Add(v, api.ONil, object(variable("more", path("none")))); errno != api.ErrName || name != "none" {
			t.Errorf("one without a value: %v, %q", errno, name)
		}
	}
	v := limited(t, load.Basic(), api.ONil, object(constant("x", tree(t, strings.Join(l, ". "), parse.Program))), true)
	if n := len(find(v, 11).Slots); n != api.MaxSlots {
		t.Errorf("there are %d slots", n)
	}
}

func TestMuchCode(t *testing.T) {
	w := load.Basic()
	for i := range 30 {
		n := object()
		for j := range 20 {
			n.Subs = append(n.Subs, constant("f"+strconv.Itoa(j), method(0, num("3"))))
		}
		w = limited(t, w, api.OLobby, object(constant("a"+strconv.Itoa(i), n)), true)
	}
	// 600 of 800; now blocks, 20 of them within a method, and one more.
	blocks := num("3")
	for range 19 {
		blocks = block(0, blocks)
	}
	for i := range 10 {
		v, errno, name := load.Into(w, api.ONil, "f"+strconv.Itoa(i)+" = ( "+mustPrint(t, blocks)+" )")
		if errno != api.OK || name != "" || len(v.Codes) != 620+20*i {
			t.Fatalf("%v, %d pieces", errno, len(v.Codes))
		}
		w = mustBeWorld(t, v)
	}
	for _, text := range []string{"g = ( 3 )", "g = ( [ ] )"} {
		n := tree(t, text, parse.Slot)
		limited(t, w, api.OString, object(n), false)
		if _, _, errno, _ := load.Method(w, text); errno != api.ErrLimit {
			t.Errorf("Method: %v", errno)
		}
	}
	if _, _, errno, _ := load.Expr(w, "3"); errno != api.ErrLimit {
		t.Errorf("Expr: %v", errno)
	}
	limited(t, w, api.OString, object(constant("x", object())), true)
	// Two pieces where one has room.
	last := w
	last.Codes = slices.Concat(w.Codes[:780], w.Codes[:19])
	find(last, api.ONil).Slots = find(last, api.ONil).Slots[:9]
	mustBeWorld(t, last)
	limited(t, last, api.OString, object(constant("g", method(0, num("3")))), true)
	limited(t, last, api.OString, object(constant("g", method(0, block(0)))), false)
	if _, errno, name := load.Into(last, api.OString, "g = ( (| h = ( 3 ) |) )"); errno != api.ErrLimit || name != "" {
		t.Errorf("a method within another one: %v", errno)
	}
	// Limits of one piece.
	many := slices.Repeat([]api.Node{num("3")}, 200)
	limited(t, load.Basic(), api.OLobby, object(constant("f", method(0, many...))), true)
	limited(t, load.Basic(), api.OLobby, object(constant("f", method(0, append(many, num("3"))...))), false)
	deep := num("3")
	for range 20 {
		deep = block(0, deep)
	}
	limited(t, load.Basic(), api.OLobby, object(constant("f", method(0, deep))), true)
	limited(t, load.Basic(), api.OLobby, object(constant("f", method(0, block(0, deep)))), false)
}

func mustPrint(t testing.TB, n api.Node) string {
	t.Helper()
	text, errno := parse.Print(n)
	if errno != api.OK {
		t.Fatal(errno)
	}
	return text
}

// treeLimited fails unless an object has a tree of so many nodes, or none for a limit.
func treeLimited(t testing.TB, w api.World, oid int, size, depth int, want api.Errno) {
	t.Helper()
	n, errno := load.Tree(w, oid)
	if errno != want || errno != api.OK && !isEmpty(n.Subs) {
		t.Errorf("Tree of %d: %v, not %v", oid, errno, want)
		return
	}
	if errno == api.OK && (parse.Size(n) != size || parse.Depth(n) != depth || parse.Check(n) != api.OK) {
		t.Errorf("Tree of %d: %d nodes, %d deep, not %d, %d", oid, parse.Size(n), parse.Depth(n), size, depth)
	}
	if m, errno := told(w, oid); errno != want || !parse.Same(m, n) {
		t.Errorf("what is told of %d: %v, not %v", oid, errno, want)
	}
}

// full returns an object with so many slots, which hold one content.
func full(oid, count int, v api.Val) api.Obj {
	o := plain(oid)
	for i := range count {
		o.Slots = append(o.Slots, slotOf("a"+strconv.Itoa(i), api.SConst, v))
	}
	return o
}

// sized returns a world with an object 15 whose tree has so many nodes, about 12000, and then a slot.
func sized(t testing.TB, count int, last api.Slot) api.World {
	// 12 has 11 in 40 slots, and 14 in 26 of them, and 11 has 40 numbers: 81 nodes, with a slot 82. What is left are variables, each of one node.
	o := full(15, 3, ref(12))
	o.Slots = append(o.Slots, slotOf("b", api.SConst, ref(14)))
	for i := range count - 1 - 3*(2+40*82) - (2 + 26*82) {
		o.Slots = append(o.Slots, slotOf("c"+strconv.Itoa(i), api.SVar, null))
	}
	o.Slots = append(o.Slots, last)
	w := filed(t, load.Basic(), "f0 = ( )", "f1 = ( x size )", "f2 = ( | a <- 900024. b. c <- 'so' | [ | :d | d ]. ^ a )", "f3 = ( 900020 )", "f4 = ( 900021. 800000 )", "f5 = ( 900021. 900020. 900020 )", "f6 = ( | a <- 3. b <- 900026 | a )", "f7 = ( x foo: 900024 )")
	w = withObjects(t, w, full(11, 40, whole(1)), full(12, 40, ref(11)), full(14, 26, ref(11)), o,
		plain(20), plain(21, slotOf("w", api.SVar, null)), plain(22, slotOf("w", api.SVar, whole(-1))), plain(23, slotOf("z", api.SVar, ref(24)), slotOf("y", api.SVar, ref(25))), plain(24), api.Obj{Oid: 25, Kind: api.KVector}, api.Obj{Oid: 26, Kind: api.KVector})
	return put(t, leading(t, w, "p", 23))
}

func TestManyNodes(t *testing.T) {
	for _, x := range []struct {
		last  api.Slot
		size  int       // of the slot with what it holds, up to where there is an error
		errno api.Errno // what there is then
	}{
		{slotOf("d", api.SVar, null), 1, api.OK}, {slotOf("d", api.SConst, null), 2, api.OK}, {slotOf("d", api.SParentVar, null), 2, api.OK}, {slotOf("d", api.SVar, whole(3)), 2, api.OK}, {slotOf("d", api.SVar, quoted("")), 2, api.OK}, {slotOf("d", api.SVar, large("9223372036854775808")), 2, api.OK},
		{slotOf("d", api.SVar, whole(-1)), 1, api.ErrName}, {slotOf("d", api.SVar, large("-9223372036854775809")), 1, api.ErrName}, {slotOf("d", api.SVar, ref(15)), 1, api.ErrName}, {slotOf("d", api.SVar, ref(26)), 1, api.ErrName},
		{slotOf("d", api.SVar, ref(20)), 2, api.OK}, {slotOf("d", api.SVar, ref(21)), 3, api.OK}, {slotOf("d", api.SVar, ref(22)), 3, api.ErrName},
		{slotOf("d", api.SVar, ref(23)), 2, api.OK}, {slotOf("d", api.SVar, ref(24)), 3, api.OK}, {slotOf("d", api.SVar, ref(25)), 3, api.OK},
		{slotOf("d", api.SConst, meth(0)), 2, api.OK}, {slotOf("d", api.SConst, meth(1)), 4, api.OK}, {slotOf("d", api.SConst, meth(2)), 12, api.OK}, {slotOf("d", api.SConst, meth(4)), 3, api.OK}, {slotOf("d", api.SConst, meth(5)), 4, api.ErrName}, {slotOf("d", api.SConst, meth(6)), 4, api.ErrName}, {slotOf("d", api.SConst, meth(7)), 5, api.ErrName}, {slotOf("d", api.SConst, meth(8)), 5, api.OK},
	} {
		for more := -1; more < x.size+2; more++ {
			w := sized(t, api.MaxNodes-x.size+more, x.last)
			want := x.errno
			if more > 0 {
				want = api.ErrLimit
			}
			treeLimited(t, w, 15, api.MaxNodes+more, 7, want)
		}
	}
}

func TestDeepTrees(t *testing.T) {
	// A chain of objects, each within the next one: two nodes deeper each.
	w := load.Basic()
	w.Objs = append(w.Objs, plain(11))
	for oid := 12; oid <= 120; oid++ {
		w.Objs = append(w.Objs, plain(oid, slotOf("a", api.SConst, ref(oid-1))))
	}
	w.NextObj = 121
	mustBeWorld(t, w)
	for oid, want := range map[int]api.Errno{11: api.OK, 12: api.OK, 109: api.OK, 110: api.OK, 111: api.ErrLimit, 120: api.ErrLimit} {
		treeLimited(t, w, oid, 2*(oid-10)-1, 2*(oid-10)-1, want)
	}
	for _, x := range []struct {
		s     api.Slot
		depth int // of the slot with what it holds
		errno api.Errno
	}{
		{slotOf("b", api.SVar, null), 1, api.OK}, {slotOf("b", api.SConst, null), 2, api.OK}, {slotOf("b", api.SConst, whole(1)), 2, api.OK}, {slotOf("b", api.SConst, quoted("")), 2, api.OK},
		{slotOf("b", api.SConst, ref(200)), 3, api.OK}, {slotOf("b", api.SConst, ref(201)), 4, api.OK}, {slotOf("b", api.SConst, meth(0)), 4, api.OK}, {slotOf("b", api.SConst, meth(1)), 4, api.OK}, {slotOf("b", api.SConst, meth(3)), 5, api.OK},
		{slotOf("b", api.SConst, whole(-1)), 2, api.ErrName}, {slotOf("b", api.SConst, ref(7)), 2, api.OK}, {slotOf("b", api.SConst, ref(203)), 2, api.ErrName},
	} {
		v := withObjects(t, w, plain(199, slotOf("z", api.SVar, ref(200))), plain(200), plain(201), plain(202, slotOf("w", api.SVar, ref(201)), slotOf("z", api.SVar, ref(200))), api.Obj{Oid: 203, Kind: api.KVector})
		v = leading(t, v, "p", 199)
		find(v, 199).Slots = append(find(v, 199).Slots, slotOf("y", api.SVar, ref(202)))
		find(v, api.OLobby).Slots[6] = slotOf("vector", api.SConst, ref(7))
		v = filed(t, v, "f = ( x size )", "g = ( [ x ] )", "h = ( | a <- p z | a )")
		o := find(v, 11)
		o.Slots = append(o.Slots, x.s)
		mustBeWorld(t, v)
		for oid := 105; oid <= 112; oid++ {
			depth := 2*(oid-10) - 1 + x.depth
			want := api.OK
			switch {
			case x.errno != api.OK && depth-1 <= api.MaxDepth:
				want = x.errno
			case depth > api.MaxDepth:
				want = api.ErrLimit
			}
			n, errno := load.Tree(v, oid)
			if errno != want || errno == api.OK && parse.Depth(n) != depth {
				t.Errorf("Tree of %d with %+v: %v, %d deep, not %v, %d", oid, x.s, errno, parse.Depth(n), want, depth)
			}
			if _, errno := told(v, oid); errno != want {
				t.Errorf("what is told of %d with %+v: %v, not %v", oid, x.s, errno, want)
			}
		}
	}
}

// longer returns a world in which the first piece of code has so many sends more, behind the value that it puts down last.
func longer(t testing.TB, w api.World, more int) api.World {
	w = withObjects(t, w)
	c := &w.Codes[0]
	last := len(c.Instrs) - 1
	c.Instrs = slices.Insert(c.Instrs, last, slices.Repeat(c.Instrs[last-1:last], more)...)
	return mustBeWorld(t, w)
}

// What code.Tree does not return is told ahead of what stands within it.
func TestLargeMethods(t *testing.T) {
	for sends, want := range map[int][3]api.Errno{ // of a number; of a value without a tree; of a number behind such a value
		10: {api.OK, api.ErrName, api.ErrName}, 195: {api.OK, api.ErrName, api.ErrName}, 196: {api.OK, api.ErrName, api.ErrName},
		197: {api.ErrLimit, api.ErrName, api.ErrName}, 198: {api.ErrLimit, api.ErrLimit, api.ErrName}, 199: {api.ErrLimit, api.ErrLimit, api.ErrLimit},
	} {
		for i, text := range []string{"p = (| f = ( 3 x ) |)", "p = (| f = ( 800000 x ) |)", "p = (| f = ( 800000. 3 x ) |)"} {
			w := longer(t, put(t, filed(t, load.Basic(), text)), sends-1)
			treeLimited(t, w, 11, sends+4, sends+4, want[i])
		}
	}
}

// R1: deep trees, long paths and many lookups in a large world come to an end soon.
func TestLongWays(t *testing.T) {
	w := load.Basic()
	for oid := 11; oid <= 2990; oid++ {
		o := plain(oid)
		for i := range 40 {
			o.Slots = append(o.Slots, slotOf("s"+strconv.Itoa(i), api.SVar, ref(11+(oid+i)%2980)))
		}
		w.Objs = append(w.Objs, o)
	}
	w.NextObj = 2991
	w = leading(t, w, "p", 11)
	v := filed(t, w, "x = ( | a <- p"+strings.Repeat(" s0 s1", 20)+". b <- p "+strings.Repeat("s0 s1 ", 20)+". c <- "+strings.Repeat("lobby ", 190)+" | a )")
	if len(v.Codes[0].Init) != 3 || v.Codes[0].Init[0] != v.Codes[0].Init[1] || v.Codes[0].Init[2] != ref(4) {
		t.Errorf("the values are %v", v.Codes[0].Init)
	}
	names := slices.Repeat([]string{"lobby"}, 1<<20)
	if x, errno, _ := load.Named(w, names); errno != api.OK || x != ref(4) {
		t.Errorf("Named: %v, %v", x, errno)
	}
	if _, errno := load.Tree(w, 11); errno != api.OK {
		t.Errorf("Tree: %v", errno)
	}
	deep := num("3")
	for range 1 << 18 {
		deep = send("x", deep)
	}
	if _, _, errno, _ := load.Value(w, deep); errno != api.ErrTree {
		t.Errorf("Value: %v", errno)
	}
	if _, errno, _ := load.Add(w, 11, object(constant("x", deep))); errno != api.ErrTree {
		t.Errorf("Add: %v", errno)
	}
	// The root is at most as deep as may be, though the slot around it would be too deep.
	deepest := slices.Repeat([]string{"lobby"}, 200)
	if _, x, errno, _ := load.Value(load.Basic(), path(deepest...)); errno != api.OK || x != ref(4) {
		t.Errorf("Value of the deepest path: %v", errno)
	}
	if _, _, errno, _ := load.Value(load.Basic(), path(append(deepest, "lobby")...)); errno != api.ErrTree {
		t.Errorf("Value of a deeper path: %v", errno)
	}
	if world.Check(w) != api.OK {
		t.Error("the world has changed")
	}
}
