package load_test

import (
	"slices"
	"strconv"
	"strings"
	"testing"

	"proteus/api"
	"proteus/code"
	"proteus/load"
	"proteus/parse"
	"proteus/world"
)

// lobby returns the slots of the lobby behind the ten that it has in Basic.
func lobby(w api.World) []api.Slot { return find(w, api.OLobby).Slots[10:] }

// files fails unless File of a text is a world in whose lobby there are some slots behind those that were there.
func files(t testing.TB, w api.World, text string, want ...api.Slot) api.World {
	t.Helper()
	had := len(lobby(w))
	v := filed(t, w, text)
	if got := lobby(v)[had:]; !slices.Equal(got, want) {
		t.Errorf("%q makes %+v, not %+v", text, got, want)
	}
	return v
}

// refuses fails unless File of a text is an error, with a name or without one.
func refuses(t testing.TB, w api.World, text string, want api.Errno, name string) {
	t.Helper()
	v, errno, got := load.File(w, text)
	if errno != want || got != name || !isEmpty(v) {
		t.Errorf("File of %q is %v, %q, not %v, %q; %v", brief(text), errno, got, want, name, isEmpty(v))
	}
}

// isNamed fails unless an object has some names.
func isNamed(t testing.TB, w api.World, oid int, want ...string) {
	t.Helper()
	errno := api.OK
	if len(want) == 0 {
		errno = api.ErrName
	}
	if l, e := load.Names(w, oid); e != errno || !slices.Equal(l, want) {
		t.Errorf("Names of %d are %q, %v, not %q", oid, l, e, want)
	}
}

// prints fails unless an object has a text, or there is an error.
func prints(t testing.TB, w api.World, oid int, want string, errno api.Errno) {
	t.Helper()
	if s, e := load.Print(w, oid); e != errno || s != want {
		t.Errorf("Print of %d is %q, %v, not %q, %v", oid, brief(s), e, brief(want), errno)
	}
	if errno == api.OK {
		want = strings.TrimSuffix(strings.TrimPrefix(want, "( | "), " | )")
		if want == "| )" {
			want = ""
		}
	}
	if s, e := load.Listing(w, oid); e != errno || s != want {
		t.Errorf("Listing of %d is %q, %v, not %q, %v", oid, brief(s), e, brief(want), errno)
	}
}

// E1.
func TestBasic(t *testing.T) {
	w := mustBeWorld(t, load.Basic())
	want := world.Empty()
	for i, name := range []string{"nil", "true", "false", "lobby", "integer", "string", "vector", "block", "mirror", "semaphore"} {
		want.Objs[3].Slots = append(want.Objs[3].Slots, slotOf(name, api.SConst, ref(i+1)))
	}
	if !world.Same(w, want) {
		t.Errorf("Basic is\n%s", brief(w))
	}
	for name, oid := range map[string]int{"nil": api.ONil, "true": api.OTrue, "false": api.OFalse, "lobby": api.OLobby, "integer": api.OInteger, "string": api.OString, "vector": api.OVector, "block": api.OBlock, "mirror": api.OMirror, "semaphore": api.OSem} {
		if v, errno, _ := load.Named(w, []string{name}); errno != api.OK || v != ref(oid) {
			t.Errorf("%s is %v, %v", name, v, errno)
		}
		isNamed(t, w, oid, name)
	}
	w.Objs[3].Slots[0].Name = "spoilt"
	if !world.Same(load.Basic(), want) {
		t.Error("two worlds of Basic share memory")
	}
}

// P7.1: the rows of the section Examples.
func TestExamples(t *testing.T) {
	w := load.Basic()
	files(t, w, "x = 3. y <- x", slotOf("x", api.SConst, whole(3)), slotOf("y", api.SVar, whole(3)))
	v := files(t, w, "p = (| a. b = 'so' |). q = p b", slotOf("p", api.SConst, ref(11)), slotOf("q", api.SConst, quoted("so")))
	if o := find(v, 11); !slices.Equal(o.Slots, []api.Slot{slotOf("a", api.SVar, null), slotOf("b", api.SConst, quoted("so"))}) {
		t.Errorf("p is %+v", o)
	}
	if f := files(t, w, "f = ( 3 )", slotOf("f", api.SConst, meth(0))); len(f.Codes) != 1 || f.Codes[0].Name != "f" {
		t.Errorf("f is %+v", f.Codes)
	}
	refuses(t, w, "x = z", api.ErrName, "z")
	refuses(t, w, "x = 1. x = 2", api.ErrTwice, "x")
	refuses(t, w, "x = lobby nil y", api.ErrName, "y")
	isNamed(t, v, 4, "lobby")
	isNamed(t, v, 1, "nil")
	prints(t, v, 11, "( | a . b = 'so' | )", api.OK)
}

// Values of trees: initial values, and the kinds of slots.
func TestValues(t *testing.T) {
	w := load.Basic()
	long := strings.Repeat("7", 400)
	files(t, w, "a = 0. b = 9223372036854775807. c = 9223372036854775808. d = "+long, slotOf("a", api.SConst, whole(0)), slotOf("b", api.SConst, whole(1<<63-1)), slotOf("c", api.SConst, large("9223372036854775808")), slotOf("d", api.SConst, large(long)))
	files(t, w, "a = ''. b <- 'it''s'", slotOf("a", api.SConst, quoted("")), slotOf("b", api.SVar, quoted("it's")))
	files(t, w, "a. b* = lobby. c* <- true. d* = 3. e* <- 'so'. f <- nil", slotOf("a", api.SVar, null), slotOf("b", api.SParent, ref(4)), slotOf("c", api.SParentVar, ref(2)), slotOf("d", api.SParent, whole(3)), slotOf("e", api.SParentVar, quoted("so")), slotOf("f", api.SVar, null))
	files(t, w, "")
	files(t, w, " \"nothing\" ")
	v := files(t, w, "a = (| |). b <- (| c* = (| d |). e = (| |) |). f* = (| |)", slotOf("a", api.SConst, ref(11)), slotOf("b", api.SVar, ref(14)), slotOf("f", api.SParent, ref(15)))
	// What is within an object is made ahead of it.
	for oid, want := range map[int][]api.Slot{11: nil, 12: {slotOf("d", api.SVar, null)}, 13: nil, 14: {slotOf("c", api.SParent, ref(12)), slotOf("e", api.SConst, ref(13))}, 15: nil} {
		if o := find(v, oid); o.Kind != api.KPlain || !slices.Equal(o.Slots, want) {
			t.Errorf("%d is %+v", oid, o)
		}
	}
	for _, x := range []struct {
		n    api.Node
		want api.Val
		news int // how many objects are made
	}{
		{num("0"), whole(0), 0}, {num("9223372036854775808"), large("9223372036854775808"), 0}, {str(""), quoted(""), 0}, {str("'"), quoted("'"), 0},
		{path("lobby"), ref(4), 0}, {path("lobby", "lobby", "nil"), null, 0}, {object(), ref(11), 1}, {object(constant("a", object())), ref(12), 2},
		{str(strings.Repeat("s", api.MaxText)), quoted(strings.Repeat("s", api.MaxText)), 0},
	} {
		v, got, errno, name := load.Value(w, x.n)
		if errno != api.OK || got != x.want || name != "" || len(v.Objs) != 10+x.news || v.NextObj != 11+x.news {
			t.Errorf("Value of %s is %v, %v, %q in\n%s", brief(x.n), got, errno, name, brief(v))
		}
		mustBeWorld(t, v)
	}
}

// The value of a path: by own slots, by parents, by numbers and strings; and where it ends.
func TestPaths(t *testing.T) {
	w := filed(t, load.Basic(),
		"p = (| n = 7. s = 'so'. f = ( 3 ). v <- 'var'. at: x Put: y = ( x ) |)",
		"q = (| up* = p. n = 8. r* <- lobby. self2 = (| n* = lobby |) |)",
		"two = (| a* = p. b* = q |)",
		"h = (| a* = p. b* = (| up* = p |) |)",
	)
	w, errno, _ := load.Into(w, api.OInteger, "parent* = lobby p. one = 1")
	if errno != api.OK {
		t.Fatal(errno)
	}
	w, errno, _ = load.Into(w, api.OString, "parent* = integer. size = 2")
	if errno != api.OK {
		t.Fatal(errno)
	}
	for _, x := range []struct {
		path string
		want api.Val
		name string // at which it ends, if it has no value
	}{
		{"p", ref(11), ""}, {"p n", whole(7), ""}, {"lobby p", ref(11), ""}, {"lobby lobby lobby p v", quoted("var"), ""},
		{"q n", whole(8), ""}, {"q s", quoted("so"), ""}, {"q lobby", ref(4), ""}, {"q q lobby q p n", whole(7), ""}, {"q self2 q v", quoted("var"), ""},
		{"two s", quoted("so"), ""}, {"two n", api.Val{}, "n"}, {"two n one", api.Val{}, "n"}, {"h n", whole(7), ""}, // by two ways to one slot; by two to several
		{"p n one", whole(1), ""}, {"p n n n one", whole(1), ""}, {"p n s", quoted("so"), ""}, {"p s size", whole(2), ""}, {"p s one", whole(1), ""}, {"p s size size", api.Val{}, "size"},
		{"p f", api.Val{}, "f"}, {"q f", api.Val{}, "f"}, {"p none", api.Val{}, "none"}, {"none", api.Val{}, "none"}, {"none p", api.Val{}, "none"}, {"nil n", api.Val{}, "n"},
		{"p at", api.Val{}, "at"}, {"vector n", api.Val{}, "n"},
	} {
		names := strings.Fields(x.path)
		errno := api.OK
		if x.name != "" {
			errno = api.ErrName
		}
		if v, e, name := load.Named(w, names); e != errno || v != x.want || name != x.name {
			t.Errorf("Named of %s is %v, %v, %q", x.path, v, e, name)
		}
		if v, got, e, name := load.Value(w, path(names...)); e != errno || got != x.want || name != x.name || e == api.OK && !world.Same(v, w) {
			t.Errorf("Value of %s is %v, %v, %q", x.path, got, e, name)
		}
		v, e, name := load.File(w, "here = "+x.path)
		if e != errno || name != x.name || e == api.OK && lobby(v)[len(lobby(v))-1] != slotOf("here", api.SConst, x.want) {
			t.Errorf("File of %s is %v, %q", x.path, e, name)
		}
		// It stands where a scope's variable gets it, but a message where a statement does.
		v, at, e, name := load.Expr(w, "| here <- "+x.path+" | "+x.path)
		if e != errno || name != x.name || e == api.OK && (v.Codes[at].Init[0] != x.want || len(v.Codes[at].Lits) != 0 || !slices.Equal(v.Codes[at].Sels, unique(names))) {
			t.Errorf("Expr of %s is %v, %q", x.path, e, name)
		}
	}
}

func unique(l []string) []string {
	var m []string
	for _, s := range l {
		if !slices.Contains(m, s) {
			m = append(m, s)
		}
	}
	return m
}

// To add slots: what was added can be named by what follows, if a lookup finds it, and not ahead of that.
func TestOneByOne(t *testing.T) {
	w := load.Basic()
	v := files(t, w, "a = (| b = (| c = 5 |) |). d = a b. e = d c", slotOf("a", api.SConst, ref(12)), slotOf("d", api.SConst, ref(11)), slotOf("e", api.SConst, whole(5)))
	refuses(t, w, "d = a. a = 3", api.ErrName, "a")
	refuses(t, w, "a = a", api.ErrName, "a")
	refuses(t, w, "a = (| b = 3. c = b |)", api.ErrName, "b")
	refuses(t, w, "a = (| b = a |)", api.ErrName, "a")
	// A further slot may hide what a path found ahead of it, lead on, or make it one of several.
	files(t, v, "x = a. k = (| e = 6. up* = lobby |). y = k e. z = k k d", slotOf("x", api.SConst, ref(12)), slotOf("k", api.SConst, ref(13)), slotOf("y", api.SConst, whole(6)), slotOf("z", api.SConst, ref(11)))
	u := filed(t, w, "p* = (| g = 1 |). x = g. q = (| g = 2 |)")
	files(t, u, "y = g. g = 3. z = g", slotOf("y", api.SConst, whole(1)), slotOf("g", api.SConst, whole(3)), slotOf("z", api.SConst, whole(3)))
	refuses(t, u, "y = g. r* = q. z = g", api.ErrName, "g")
	files(t, u, "y = x. s* = p. z = g", slotOf("y", api.SConst, whole(1)), slotOf("s", api.SParent, ref(11)), slotOf("z", api.SConst, whole(1)))
	refuses(t, u, "y = g. g = ( 3 ). z = g", api.ErrName, "g")
	// Slots of another object are named from the lobby only as a lookup finds them.
	if _, errno, name := load.Into(w, api.OTrue, "a = 3. b = a"); errno != api.ErrName || name != "a" {
		t.Errorf("Into of true: %v, %q", errno, name)
	}
	k, errno, _ := load.Into(w, api.OTrue, "a = 3. b = true a")
	if errno != api.OK || !slices.Equal(k.Objs[api.OTrue-1].Slots, []api.Slot{slotOf("a", api.SConst, whole(3)), slotOf("b", api.SConst, whole(3))}) {
		t.Errorf("Into of true: %v", errno)
	}
	// Objects of any kind take up slots.
	k, errno, _ = load.Into(w, api.OVector, "parent* = lobby. at: i = ( i )")
	if errno != api.OK || k.Objs[api.OVector-1].Kind != api.KVector || len(k.Objs[api.OVector-1].Slots) != 2 {
		t.Errorf("Into of vector: %v", errno)
	}
	mustBeWorld(t, k)
}

// What is replaced in a method, and what is not; the order in which values and code are made.
func TestMethods(t *testing.T) {
	w := filed(t, load.Basic(), "p = (| q = 5. r <- 'so' |)")
	text := "at: i Put: p = ( | a <- p q. b <- (| c = ( (| |) ) |). d <- 3. e | i p q. (| f <- p r. g = ( | h <- p | h ) |) foo: [ | :j. k <- p. l <- (| |) | (| m = 'm' |). ^ p q ]. ^ (| |) )"
	v := files(t, w, text, slotOf("at:Put:", api.SConst, meth(2)))
	// 12 within c of 13; 14 in the first statement; 15 and 16 in the block; 17 at last
	for oid, want := range map[int][]api.Slot{12: nil, 13: {slotOf("c", api.SConst, meth(0))}, 14: {slotOf("f", api.SVar, quoted("so")), slotOf("g", api.SConst, meth(1))}, 15: nil, 16: {slotOf("m", api.SConst, quoted("m"))}, 17: nil} {
		if o := find(v, oid); !slices.Equal(o.Slots, want) {
			t.Errorf("%d is %+v, not %+v", oid, o.Slots, want)
		}
	}
	if len(v.Objs) != 17 || len(v.Codes) != 4 {
		t.Fatalf("there are %d objects, %d pieces of code", len(v.Objs), len(v.Codes))
	}
	want := []api.Code{
		{Name: "c", Outer: -1, Lits: []api.Val{ref(12)}, Instrs: []api.Instr{{Op: api.OpConst}, {Op: api.OpRet}}},
		{Name: "g", Outer: -1, Names: []string{"h"}, Init: []api.Val{ref(11)}, Sels: []string{"h"}, Instrs: []api.Instr{{Op: api.OpImp}, {Op: api.OpRet}}},
		{Name: "at:Put:", Outer: -1, Args: 2, Names: []string{"i", "p", "a", "b", "d", "e"}, Init: []api.Val{whole(5), ref(13), whole(3), null}, Lits: []api.Val{ref(14), ref(17)}, Sels: []string{"i", "p", "q", "foo:"}, Instrs: []api.Instr{
			{Op: api.OpImp}, {Op: api.OpSend, A: 1}, {Op: api.OpSend, A: 2}, {Op: api.OpPop},
			{Op: api.OpConst}, {Op: api.OpBlock, A: 3}, {Op: api.OpSend, A: 3, B: 1}, {Op: api.OpPop},
			{Op: api.OpConst, A: 1}, {Op: api.OpRet}}},
		{Name: "value:", Block: true, Outer: 2, Args: 1, Names: []string{"j", "k", "l"}, Init: []api.Val{ref(11), ref(15)}, Lits: []api.Val{ref(16)}, Sels: []string{"p", "q"}, Instrs: []api.Instr{
			{Op: api.OpConst}, {Op: api.OpPop}, {Op: api.OpImp}, {Op: api.OpSend, A: 1}, {Op: api.OpLeave}}},
	}
	if !code.Same(v.Codes, want) {
		t.Errorf("the code is\n%s", brief(v))
	}
	u, at, errno, name := load.Method(w, text)
	if errno != api.OK || name != "" || at != 2 || !code.Same(u.Codes, want) || !slices.Equal(lobby(u), lobby(w)) {
		t.Errorf("Method is %d, %v, %q", at, errno, name)
	}
	u, at, errno, name = load.Expr(v, "| x <- p. y | (| z = ( 3 ) |)")
	if errno != api.OK || name != "" || at != 5 || len(u.Objs) != 18 || u.Codes[4].Name != "z" || u.Codes[5].Name != "doIt" || u.Codes[5].Args != 0 || !slices.Equal(u.Codes[5].Init, []api.Val{ref(11), null}) || !slices.Equal(u.Codes[5].Lits, []api.Val{ref(18)}) {
		t.Errorf("Expr is %d, %v, %q\n%s", at, errno, name, brief(u))
	}
	// Paths are those of the lobby, whatever the method's own names are, and wherever it is put.
	u, errno, _ = load.Into(w, api.ONil, "m: p = ( | q. a <- p. b <- p q | a )")
	if errno != api.OK || !slices.Equal(u.Codes[0].Init, []api.Val{null, ref(11), whole(5)}) {
		t.Errorf("m: is %v, %v", u.Codes, errno)
	}
	// A slot whose code is in the making is not there yet.
	refuses(t, w, "m = ( | a <- m | a )", api.ErrName, "m")
	refuses(t, w, "m = ( | a <- p. b <- p none q | a )", api.ErrName, "none")
	refuses(t, w, "m = ( [ | b <- none | b ] )", api.ErrName, "none")
	refuses(t, w, "m = ( [ (| b = none |) ] )", api.ErrName, "none")
	refuses(t, w, "m = ( [ [ foo: (| b. c. b |) ] ] )", api.ErrTwice, "b")
}

// The section Errors: those of making come in the order in which values are made.
func TestOrderOfErrors(t *testing.T) {
	w := load.Basic()
	many := "a1 = ( " + strings.Repeat("0. ", 200) + "0 )" // more instructions than there may be
	for _, x := range []struct {
		text  string
		errno api.Errno
		name  string
	}{
		// one after the other
		{"x = none. y = none2", api.ErrName, "none"}, {"x = 1. x = 2. y = none", api.ErrTwice, "x"}, {"x = 1. y = none. x = 2", api.ErrName, "none"},
		{"nil = 3", api.ErrTwice, "nil"}, {"nil = none", api.ErrName, "none"}, // its content is made first
		{many, api.ErrLimit, ""}, {many + ". x = none", api.ErrLimit, ""}, {"x = none. " + many, api.ErrName, "none"},
		// an object when its values are made: the first slot that has the name of another
		{"x = (| a. b. a. b = none |)", api.ErrName, "none"}, {"x = (| a. b. c. b. a |)", api.ErrTwice, "b"}, {"x = (| a. b. c. a. b |)", api.ErrTwice, "a"}, {"x = (| a. b. b. b. a. a |)", api.ErrTwice, "b"}, {"x = (| a = (| b. b |). c. c. d = none |)", api.ErrTwice, "b"}, {"x = (| c. c. a = (| b. b |) |)", api.ErrTwice, "b"},
		{"x = (| a. a. f = ( | u. u | 3 ) |)", api.ErrPlace, ""}, {"x = (| a. a |). f = ( | u. u | 3 )", api.ErrTwice, "a"},
		// two slots of a scope with one name are told when code is made, behind its values
		{"f = ( | u. u | 3 )", api.ErrPlace, ""}, {"f = ( [ | :u. u | 3 ] )", api.ErrPlace, ""}, {"f: u = ( | u | 3 )", api.ErrPlace, ""}, {"f = ( | u. u | (| a = none |) )", api.ErrName, "none"}, {"f = ( | u. u. v <- none | 3 )", api.ErrName, "none"}, {"f = ( | u. u | (| a. a |) )", api.ErrTwice, "a"},
		{"f = ( | u. u | " + strings.Repeat("0. ", 400) + "0 )", api.ErrPlace, ""},
		{"f = ( " + strings.Repeat("0. ", 200) + "(| a = none |) )", api.ErrName, "none"}, {"f = ( " + strings.Repeat("0. ", 200) + "0 ). f = ( 1 )", api.ErrLimit, ""},
		{"f = ( 1 ). f = ( " + strings.Repeat("0. ", 200) + "0 )", api.ErrLimit, ""}, {"f = ( 1 ). f = ( 2 )", api.ErrTwice, "f"}, {"at: x = ( x ). at: y = ( 2 )", api.ErrTwice, "at:"},
		// a node ahead of its Subs, these in order
		{"f = ( | a <- one. b <- two | (| c = three |) )", api.ErrName, "one"}, {"f = ( | a. b <- (| d = two |) | (| c = three |) )", api.ErrName, "two"}, {"f = ( [ | a <- one | (| b = two |) ] foo: (| c = three |) )", api.ErrName, "one"}, {"f = ( (| c = three |) foo: [ | a <- one | 0 ] )", api.ErrName, "three"},
		{"f = ( (| g = ( | x <- one | x ). h = two |) foo: (| c = three |) )", api.ErrName, "one"}, {"f = ( ^ (| a = one |) )", api.ErrName, "one"}, {"f = ( x _At: (| a = one |) IfFail: (| a = two |) )", api.ErrName, "one"}, {"f = ( resend.at: (| a = one |) )", api.ErrName, "one"},
	} {
		refuses(t, w, x.text, x.errno, x.name)
	}
}

// What stands in no text, in the same order.
func TestOrderOfErrorsInTrees(t *testing.T) {
	w := load.Basic()
	for _, x := range []struct {
		n     api.Node
		errno api.Errno
		name  string
	}{
		{object(constant("x", meaning(0))), api.ErrPlace, ""},
		{object(variable("x", meaning(0)), constant("y", path("none"))), api.ErrPlace, ""},
		{object(constant("y", path("none")), parent("x", meaning(0))), api.ErrName, "none"},
		{object(constant("f", method(0, meaning(0)))), api.ErrPlace, ""},
		{object(constant("f", method(0, meaning(0), object(constant("a", path("none")))))), api.ErrPlace, ""},
		{object(constant("f", method(0, object(constant("a", path("none"))), meaning(0)))), api.ErrName, "none"},
		{object(constant("f", method(0, object(), meaning(0)))), api.ErrPlace, ""}, // though there is a value with this index then
		{object(constant("f", method(1, variable("u", path("lobby")), ret(meaning(0))))), api.ErrPlace, ""},
		{object(constant("f", method(1, variable("u", meaning(0)), imp("u")))), api.ErrPlace, ""},
		{object(constant("f", method(2, variable("v", path("none")), variable("u", meaning(0)), imp("u")))), api.ErrName, "none"},
		{object(constant("f", method(2, variable("u", meaning(0)), variable("v", path("none")), imp("u")))), api.ErrPlace, ""},
		{object(constant("f", method(0, send("at:", block(1, variable("u", meaning(0))), object(constant("a", path("none"))))))), api.ErrPlace, ""},
		{object(constant("x", object(constant("a", num("1")), constant("a", meaning(0))))), api.ErrPlace, ""},
		{object(constant("x", object(constant("a", num("1")), constant("a", num("1")))), constant("y", meaning(0))), api.ErrTwice, "a"},
		{object(constant("x", str(strings.Repeat("s", api.MaxText+1)))), api.ErrLimit, ""},
		{object(constant("x", object(variable("y"), variable("y"), variable("x", str(strings.Repeat("s", api.MaxText+1)))))), api.ErrLimit, ""},
		{object(constant("f", method(1, variable("u", str(strings.Repeat("s", api.MaxText+1))), object(constant("a", path("none")))))), api.ErrName, "none"}, // no value of its own
		{object(constant("f", method(1, variable("u", str(strings.Repeat("s", api.MaxText+1))), object(constant("a", num("1")))))), api.ErrLimit, ""},
		{object(constant("f", method(0, str(strings.Repeat("s", api.MaxText+1))))), api.ErrLimit, ""},
	} {
		if v, errno, name := load.Add(w, api.OLobby, x.n); errno != x.errno || name != x.name || !isEmpty(v) {
			t.Errorf("Add of %s is %v, %q, not %v, %q", brief(x.n), errno, name, x.errno, x.name)
		}
	}
}

// asks fails unless some functions answer an error, and ErrWorld ahead of it.
func asks(t *testing.T, what string, a args, want api.Errno, of ...string) {
	t.Helper()
	w := sample(t)
	bad := w
	bad.NextObj = 12
	bad2 := w
	bad2.Objs = w.Objs[1:]
	for _, f := range functions() {
		if !slices.Contains(of, f.name) {
			continue
		}
		for _, v := range []api.World{{}, bad, bad2} {
			if x := f.do(v, a); !x.same(fails(api.ErrWorld)) {
				t.Errorf("%s of %s in no world: %s", f.name, what, shown(x))
			}
		}
		if x := f.do(w, a); !x.same(fails(want)) {
			t.Errorf("%s of %s: %s, not %v", f.name, what, shown(x), want)
		}
	}
}

// The section Errors: numbers of objects, and their kinds.
func TestErrorsOfObjects(t *testing.T) {
	for _, oid := range []int{99, 0, -1, sample(t).NextObj, 1 << 40, -1 << 63, 1<<63 - 1} {
		a := args{oid: oid, text: "#", n: node(99, "", 0)}
		asks(t, "nothing", a, api.ErrNone, "Into", "Add", "Names", "Tree", "Print", "Listing")
	}
	w := sample(t)
	v, _, errno := world.Make(w, api.KVector, nil, nil)
	if errno != api.OK {
		t.Fatal(errno)
	}
	v = filed(t, v, "x5 = vector")
	for _, oid := range []int{api.OVector, v.NextObj - 1} {
		if n, errno := load.Tree(v, oid); errno != api.ErrArg || !isEmpty(n.Subs) {
			t.Errorf("Tree of a vector: %v", errno)
		}
		prints(t, v, oid, "", api.ErrArg)
	}
}

// The section Errors: texts that cannot be divided or parsed.
func TestErrorsOfTexts(t *testing.T) {
	for _, x := range []struct {
		text  string
		errno api.Errno
	}{
		{"x = #", api.ErrByte}, {"x = 'a", api.ErrOpen}, {"x = 007", api.ErrWord}, {"Self", api.ErrWord}, {strings.Repeat(" ", api.MaxText+1), api.ErrLimit}, {strings.Repeat("x ", api.MaxTokens+1), api.ErrLimit},
		{"x = = 3", api.ErrSyntax}, {"|", api.ErrSyntax}, {"x: 3 Y", api.ErrWord}, {"none = )", api.ErrSyntax},
	} {
		asks(t, brief(x.text), args{oid: 11, text: x.text}, x.errno, "Into", "File", "Method", "Expr")
	}
	a := args{oid: 11, text: strings.Repeat("[", 201) + strings.Repeat("]", 201)}
	asks(t, "deep blocks", a, api.ErrLimit, "Expr")
	asks(t, "deep blocks", a, api.ErrSyntax, "Into", "File", "Method")
	for _, text := range []string{"x = 3", "x = (| f = ( 3 ) |)", "x", "x <- none", "x* = lobby"} {
		asks(t, text, args{text: text}, api.ErrPlace, "Method")
	}
}

// The section Errors: trees that are not valid, or stand for something else.
func TestErrorsOfTrees(t *testing.T) {
	within, large := object(), object() // too deep, too many nodes
	for i := range 100 {
		within = object(constant("a", within))
		if i < 40 {
			large.Subs = append(large.Subs, constant("a"+strconv.Itoa(i), num("3")))
		}
	}
	for range 2 {
		l := object()
		for i := range 14 {
			l.Subs = append(l.Subs, constant("a"+strconv.Itoa(i), large))
		}
		large = l
	}
	for _, n := range []api.Node{within, large} {
		if parse.Check(n) != api.ErrLimit {
			t.Fatalf("%d nodes, %d deep: %v", parse.Size(n), parse.Depth(n), parse.Check(n))
		}
		asks(t, "too much", args{oid: 11, n: n}, api.ErrTree, "Add", "Value")
	}
	deep := num("3")
	for range 300 {
		deep = send("x", deep)
	}
	for _, n := range []api.Node{{}, node(99, "", 0), node(api.NObject, "x", 0), object(num("3")), object(constant("x", path("a b"))), object(constant("f", method(0, deep))), node(-1, "", 0, deep)} {
		asks(t, brief(n), args{oid: 11, n: n}, api.ErrTree, "Add", "Value")
	}
	for _, n := range []api.Node{num("3"), path("lobby"), constant("x", num("3")), method(0), block(0), self(), meaning(0), ret(num("3")), arg("x")} {
		asks(t, brief(n), args{oid: 11, n: n}, api.ErrTree, "Add")
	}
	for _, n := range []api.Node{constant("x", num("3")), method(0), method(0, num("3")), block(0), self(), meaning(0), ret(num("3")), arg("x"), variable("x"), imp("x:", num("3")), imp("+", num("3")), send("x", num("3")), send("x", self()), send("+", path("x"), path("x")), send("x", send("+", path("x"), path("x"))), node(api.NResend, "x", 0), node(api.NPrim, "_X", 0, self())} {
		asks(t, brief(n), args{n: n}, api.ErrPlace, "Value")
	}
}

// E8: what is no path.
func TestErrorsOfNames(t *testing.T) {
	for _, l := range [][]string{nil, {}, {""}, {"none", ""}, {"none", "self"}, {"resend"}, {"none", "a:"}, {"a b"}, {"+"}, {"A"}, {"_A"}, {"3"}, {"lobby", strings.Repeat("x", 25)}, {" x"}, {"at:Put:"}} {
		asks(t, strings.Join(l, ","), args{names: l}, api.ErrArg, "Named")
	}
}
