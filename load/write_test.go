package load_test

import (
	"slices"
	"strconv"
	"strings"
	"testing"

	"proteus/api"
	"proteus/code"
	"proteus/copies"
	"proteus/load"
	"proteus/parse"
	"proteus/world"
)

// withObjects returns a world with further objects.
func withObjects(t testing.TB, w api.World, l ...api.Obj) api.World {
	t.Helper()
	w = copies.World(w)
	w.Objs = append(w.Objs, l...)
	w.NextObj = w.Objs[len(w.Objs)-1].Oid + 1
	return mustBeWorld(t, w)
}

// leading returns a world whose lobby has further slots, with references.
func leading(t testing.TB, w api.World, names string, to ...int) api.World {
	t.Helper()
	w = copies.World(w)
	for i, name := range strings.Fields(names) {
		o := find(w, api.OLobby)
		o.Slots = append(o.Slots, slotOf(name, api.SVar, ref(to[i])))
	}
	return mustBeWorld(t, w)
}

// The names of an object: by the shortest way, and by the first one.
func TestNames(t *testing.T) {
	w := withObjects(t, load.Basic(),
		plain(11, slotOf("a", api.SVar, ref(13)), slotOf("b", api.SConst, ref(4)), slotOf("me", api.SVar, ref(11))),
		plain(12, slotOf("c", api.SParent, ref(13)), slotOf("d", api.SParentVar, ref(14)), slotOf("n", api.SConst, whole(15)), slotOf("s", api.SVar, quoted("x"))),
		plain(13, slotOf("e", api.SConst, ref(15))),
		plain(14, slotOf("e", api.SConst, ref(15)), slotOf("f", api.SConst, ref(16))),
		plain(15), plain(16), plain(17, slotOf("g", api.SVar, ref(18))), plain(18, slotOf("h", api.SVar, ref(17))),
		api.Obj{Oid: 20, Kind: api.KVector, Slots: []api.Slot{slotOf("v", api.SConst, ref(22))}, Elems: []api.Val{ref(21)}},
		plain(21), plain(22),
	)
	w = leading(t, w, "q p again z", 12, 11, 11, 20)
	for oid, names := range map[int]string{4: "lobby", 11: "p", 12: "q", 13: "q c", 14: "q d", 15: "q c e", 16: "q d f", 17: "", 18: "", 20: "z", 21: "", 22: "z v", 1: "nil"} {
		isNamed(t, w, oid, strings.Fields(names)...)
	}
	// The lobby has names only where something leads to it; those of others do not begin with them.
	e := world.Empty()
	for oid := 1; oid <= 10; oid++ {
		isNamed(t, e, oid)
	}
	e = leading(t, withObjects(t, e, plain(11, slotOf("up", api.SParent, ref(4)), slotOf("it", api.SConst, ref(1)))), "x y", 11, 2)
	for oid, names := range map[int]string{1: "x it", 2: "y", 3: "", 4: "x up", 11: "x"} {
		isNamed(t, e, oid, strings.Fields(names)...)
	}
	e = leading(t, world.Empty(), "me x", 4, 1)
	isNamed(t, e, 4, "me")
	isNamed(t, e, 1, "x")
	// A slot that holds a method leads nowhere, whatever its index is.
	m := filed(t, load.Basic(), "f = ( 3 ). g = ( 4 )")
	m.Codes = slices.Concat(m.Codes, m.Codes, m.Codes, m.Codes, m.Codes, m.Codes)
	find(m, api.OLobby).Slots[10].V.N = 11
	m = withObjects(t, m, plain(11))
	isNamed(t, m, 11)
	// A long way.
	long := load.Basic()
	for oid := 11; oid <= 1000; oid++ {
		long.Objs = append(long.Objs, plain(oid, slotOf("n", api.SVar, ref(oid%1000+1))))
	}
	long.NextObj = 1001
	long = leading(t, long, "p", 11)
	l, errno := load.Names(long, 1000)
	if errno != api.OK || len(l) != 990 || l[0] != "p" || l[989] != "n" {
		t.Errorf("Names of the last one: %d, %v", len(l), errno)
	}
	if v, errno, name := load.Named(long, l); errno != api.OK || v != ref(1000) || name != "" {
		t.Errorf("Named of them: %v, %v, %q", v, errno, name)
	}
}

// The tree of an object: its slots, by their kinds, and values.
func TestTrees(t *testing.T) {
	w := withObjects(t, load.Basic(),
		plain(11, slotOf("a", api.SVar, null), slotOf("b", api.SConst, null), slotOf("c", api.SParentVar, null), slotOf("d", api.SParent, ref(4)), slotOf("e", api.SVar, ref(12)), slotOf("f", api.SConst, whole(0)), slotOf("g", api.SVar, large("9223372036854775808")), slotOf("h", api.SConst, quoted("it's")), slotOf("i", api.SVar, quoted(""))),
		plain(12, slotOf("a", api.SVar, ref(13)), slotOf("b", api.SVar, ref(13)), slotOf("v", api.SConst, ref(7))),
		plain(13),
		plain(14, slotOf("n", api.SVar, whole(-1))),
		plain(15, slotOf("n", api.SVar, large("-9223372036854775809"))),
		plain(16, slotOf("n", api.SVar, ref(16))),
		plain(17, slotOf("n", api.SVar, ref(18))),
		plain(18, slotOf("a", api.SConst, whole(1)), slotOf("m", api.SVar, ref(17))),
		api.Obj{Oid: 19, Kind: api.KVector},
		plain(20, slotOf("v", api.SConst, ref(19))),
		plain(21, slotOf("a", api.SConst, ref(18))), // 18 has 17, which has 18
	)
	prints(t, w, 11, "( | a . b = nil . c * <- nil . d * = lobby . e <- ( | a <- ( | | ) . b <- ( | | ) . v = vector | ) . f = 0 . g <- 9223372036854775808 . h = 'it''s' . i <- '' | )", api.OK)
	prints(t, w, 13, "( | | )", api.OK)
	for _, oid := range []int{14, 15, 16, 17, 18, 20, 21} {
		prints(t, w, oid, "", api.ErrName)
	}
	for _, oid := range []int{7, 19} {
		prints(t, w, oid, "", api.ErrArg)
	}
	// With names they are paths, even within themselves; but an object that is asked for is written.
	v := leading(t, w, "self2 b s k", 16, 12, 17, 19)
	prints(t, v, 16, "( | n <- self2 | )", api.OK)
	prints(t, v, 17, "( | n <- s n | )", api.OK)
	prints(t, v, 18, "( | a = 1 . m <- s | )", api.OK)
	prints(t, v, 20, "( | v = k | )", api.OK)
	prints(t, v, 21, "( | a = s n | )", api.OK)
	prints(t, v, 11, "( | a . b = nil . c * <- nil . d * = lobby . e <- b . f = 0 . g <- 9223372036854775808 . h = 'it''s' . i <- '' | )", api.OK)
	// Without names nil is an object as others are, but a variable that holds it is one.
	e := withObjects(t, world.Empty(), plain(11, slotOf("a", api.SVar, null), slotOf("b", api.SConst, null), slotOf("c", api.SParentVar, ref(7))), plain(12, slotOf("b", api.SConst, null)))
	prints(t, e, 11, "", api.ErrName)
	prints(t, e, 12, "( | b = ( | | ) | )", api.OK)
	prints(t, load.Basic(), 4, "( | nil = nil . true = true . false = false . lobby = lobby . integer = integer . string = string . vector = vector . block = block . mirror = mirror . semaphore = semaphore | )", api.OK)
}

// put returns a world in which values stand for some that a text has: numbers from 900000 on for references.
func put(t testing.TB, w api.World) api.World {
	t.Helper()
	w = copies.World(w)
	swap := func(v *api.Val) {
		switch {
		case v.K == api.VInt && v.N > 900000:
			*v = ref(v.N - 900000)
		case v.K == api.VInt && v.N == 800000:
			*v = whole(-5)
		}
	}
	for i := range w.Codes {
		for j := range w.Codes[i].Lits {
			swap(&w.Codes[i].Lits[j])
		}
		for j := range w.Codes[i].Init {
			swap(&w.Codes[i].Init[j])
		}
	}
	for i := range w.Objs {
		for j := range w.Objs[i].Slots {
			swap(&w.Objs[i].Slots[j].V)
		}
	}
	return mustBeWorld(t, w)
}

// The tree of a method: objects that stand in it, with names or without, within themselves, twice.
func TestTreesOfMethods(t *testing.T) {
	base := withObjects(t, load.Basic(), plain(11, slotOf("n", api.SVar, whole(1))), plain(12, slotOf("m", api.SConst, ref(11))), api.Obj{Oid: 13, Kind: api.KVector}, api.Obj{Oid: 14, Kind: api.KVector}, plain(15))
	base = leading(t, base, "it vec", 12, 13)
	for _, x := range []struct {
		method string
		want   string // empty: it has none
	}{
		{"f = ( x )", "f = ( x )"},
		{"at: x Put: y = ( | a. b <- 3. c <- 'so' | ^ y )", "at: x Put: y = ( | a . b <- 3 . c <- 'so' | y )"},
		{"f = ( self )", "f = ( )"},
		{"f = ( )", "f = ( )"},
		// initial values: paths, objects without names, each as often as it stands there
		{"f = ( | a <- 900012. b <- 900011. c <- 900015. d <- 900015. e <- 900001 | a )", "f = ( | a <- it . b <- it m . c <- ( | | ) . d <- ( | | ) . e | a )"},
		{"f = ( | a <- 900013 | a )", "f = ( | a <- vec | a )"},
		{"f = ( | a <- 900014 | a )", ""},
		{"f = ( | a <- 800000 | a )", ""},
		{"f = ( [ | :k. a <- 900012. b <- 900015 | a ] )", "f = ( [ | : k . a <- it . b <- ( | | ) | a ] )"},
		{"f = ( [ | a <- 900014 | a ] )", ""},
		// statements: literals, with names or without
		{"f = ( 900011 )", "f = ( ( | n <- 1 | ) )"},
		{"f = ( 900012 )", "f = ( ( | m = it m | ) )"},
		{"f = ( 900015. 900011 foo: 900012 )", "f = ( ( | | ) . ( | n <- 1 | ) foo: ( | m = it m | ) )"},
		{"f = ( ^ 900001 )", "f = ( ( | | ) )"},
		{"f = ( 800000 )", ""}, {"f = ( 900013 )", ""}, {"f = ( 900014 )", ""}, {"f = ( x foo: 800000 )", ""},
		{"f = ( [ 900013 ] )", ""},
		// twice in the statements of a scope, or in others
		{"f = ( 900015. 900015 )", ""}, {"f = ( 900011 at: x Put: 900011 )", ""}, {"f = ( [ 900015. 900015 ] )", ""}, {"f = ( [ x ] value: 900015 With: [ 900015 ] At: 900015 )", ""},
		{"f = ( 900015. [ 900015 ] )", "f = ( ( | | ) . [ ( | | ) ] )"},
		{"f = ( [ 900015 ]. [ 900015. [ 900015 ] ]. 900015 )", "f = ( [ ( | | ) ] . [ ( | | ) . [ ( | | ) ] ] . ( | | ) )"},
		{"f = ( | a <- 900015. b <- 900015 | 900015 )", "f = ( | a <- ( | | ) . b <- ( | | ) | ( | | ) )"},
		{"f = ( [ | a <- 900015 | 900015 ]. 900015 )", "f = ( [ | a <- ( | | ) | ( | | ) ] . ( | | ) )"},
		{"f = ( 3. 3. 'so'. 'so' )", "f = ( 3 . 3 . 'so' . 'so' )"},
		// the object itself, which is 16 or has a way to it
		{"f = ( 900016 )", ""}, {"f = ( | a <- 900016 | a )", ""}, {"f = ( [ 900016 ] )", ""},
		{"f = ( x foo: [ :y. ^ y ] Bar: ( x _At: 3 IfFail: [ resend.x ] ) )", "-"},
		{"f = ( x foo: [ | :y | ^ y ] Bar: ( x _At: 3 IfFail: [ p.x: 3 ] ) )", "f = ( x foo: [ | : y | ^ y ] Bar: ( x _At: 3 IfFail: [ p.x: 3 ] ) )"},
	} {
		w := withObjects(t, base, plain(16))
		w, errno, _ := load.Into(w, 16, x.method)
		if x.want == "-" {
			if errno != api.ErrSyntax {
				t.Errorf("%q: %v", x.method, errno)
			}
			continue
		}
		if errno != api.OK {
			t.Errorf("%q: %v", x.method, errno)
			continue
		}
		w = put(t, w)
		errno = api.OK
		if x.want == "" {
			errno = api.ErrName
			prints(t, w, 16, "", errno)
			continue
		}
		prints(t, w, 16, "( | "+x.want+" | )", errno)
	}
}

// An object with a name that stands in a method of its own, or in one of an object within it.
func TestTreesWithin(t *testing.T) {
	w := put(t, filed(t, load.Basic(), "p = (| n = 1. f = ( 900011 ) |)"))
	prints(t, w, 11, "", api.ErrName)
	w = put(t, filed(t, load.Basic(), "p = (| n = 1. f = ( | a <- 900011 | a ) |)"))
	prints(t, w, 11, "( | n = 1 . f = ( | a <- p | a ) | )", api.OK)
	w = put(t, filed(t, load.Basic(), "p = (| n = (| f = ( 900012 ) |). m = 900012 |). q = (| f = ( 900012 ) |)"))
	prints(t, w, 12, "( | n = p n . m = p | )", api.OK)
	prints(t, w, 11, "( | f = ( ( | n = p n . m = p | ) ) | )", api.OK)
	prints(t, w, 13, "( | f = ( ( | n = p n . m = p | ) ) | )", api.OK)
	w = put(t, filed(t, load.Basic(), "q = (| f = ( (| g = ( 900011 ) |) ) |). r = (| f = ( (| g = ( 900012 ) |) ) |)"))
	prints(t, w, 12, "", api.ErrName) // 11 within itself
	prints(t, w, 14, "", api.ErrName)
}

// E11, E12: what a tree has no text for.
func TestTexts(t *testing.T) {
	w := filed(t, load.Basic(), "p = (| f = ( x: 3 ) |)", "q = (| f = ( | a | 3 ). |)", "r = (| f: x = ( | a | 3 ) |)", "s = (| f = ( | a | 3 ) |)", "t = (| f = ( [ | :b | 3 ] ) |)")
	w = copies.World(w)
	w.Codes[0].Sels[0] = "+" // a message to nobody
	for at := 1; at <= 3; at++ {
		w.Codes[at].Lits, w.Codes[at].Instrs = nil, []api.Instr{{Op: api.OpSelf}, {Op: api.OpRet}}
	}
	w.Codes[5].Lits[0] = null
	mustBeWorld(t, w)
	for oid, want := range map[int]string{11: "", 12: "", 13: "( | f: x = ( | a | ) | )", 14: "", 15: "( | f = ( [ | : b | ] ) | )"} {
		n, errno := load.Tree(w, oid)
		if errno != api.OK || parse.Check(n) != api.OK {
			t.Errorf("Tree of %d: %v", oid, errno)
		}
		if want == "" {
			prints(t, w, oid, "", api.ErrTree)
		} else {
			prints(t, w, oid, want, api.OK)
		}
	}
	// More than a text may have.
	text := strings.Repeat("s", api.MaxText-20)
	v := withObjects(t, load.Basic(), plain(11, slotOf("a", api.SConst, quoted(text))), plain(12, slotOf("a", api.SConst, quoted(strings.Repeat("s", api.MaxText)))))
	prints(t, v, 11, "( | a = '"+text+"' | )", api.OK)
	prints(t, v, 12, "", api.ErrLimit)
	if n, errno := load.Tree(v, 12); errno != api.OK || len(n.Subs[0].Subs[0].Text) != api.MaxText {
		t.Errorf("Tree of 12: %v", errno)
	}
	// A listing may be short enough where the text of the object is not, as it has no brackets.
	v = withObjects(t, load.Basic(), plain(11, slotOf("a", api.SConst, quoted(strings.Repeat("s", api.MaxText-6)))))
	if s, errno := load.Print(v, 11); errno != api.ErrLimit || s != "" {
		t.Errorf("Print: %v", errno)
	}
	if s, errno := load.Listing(v, 11); errno != api.OK || len(s) != api.MaxText {
		t.Errorf("Listing: %v, %d", errno, len(s))
	}
	// More tokens than there may be.
	o := plain(12)
	for i := range 40 {
		o.Slots = append(o.Slots, slotOf("a"+strconv.Itoa(i), api.SConst, ref(11)))
	}
	p := plain(11)
	for i := range 37 {
		p.Slots = append(p.Slots, slotOf("b"+strconv.Itoa(i), api.SVar, ref(4)))
	}
	v = withObjects(t, load.Basic(), p, o)
	prints(t, v, 12, "", api.ErrLimit)
	if n, errno := load.Tree(v, 12); errno != api.OK || parse.Size(n) != 1+40*(2+37*2) {
		t.Errorf("Tree of 12: %v", errno)
	}
}

// code.Tree refers to values by NValues; they are the values of the piece that is told, wherever it stands.
func TestTreesOfPieces(t *testing.T) {
	w := filed(t, load.Basic(), "p = (| f = ( (| a = 1 |). [ (| b = 2 |) ] ). g = ( [ (| c = 3 |) ]. (| d = 4 |) ) |)", "q = (| h = ( 3 ) |)")
	prints(t, w, 15, "( | f = ( ( | a = 1 | ) . [ ( | b = 2 | ) ] ) . g = ( [ ( | c = 3 | ) ] . ( | d = 4 | ) ) | )", api.OK)
	// A slot may hold the code of a method with another name; its own one is written.
	o := find(w, 16)
	o.Slots = append(o.Slots, slotOf("other", api.SConst, meth(2)))
	mustBeWorld(t, w)
	if w.Codes[2].Name != "g" {
		t.Fatalf("the code is\n%s", brief(w))
	}
	prints(t, w, 16, "( | h = ( 3 ) . other = ( [ ( | c = 3 | ) ] . ( | d = 4 | ) ) | )", api.OK)
	if n, vals, errno := code.Tree(w.Codes, 2); errno != api.OK || len(vals) != 2 || parse.Size(n) != 4 {
		t.Errorf("code.Tree: %v, %v", vals, errno)
	}
}
