package look_test

import (
	"reflect"
	"slices"
	"strings"
	"testing"

	"proteus/api"
	"proteus/look"
	"proteus/world"
)

func none() api.Found { return api.Found{} }
func one(holder, at int, path ...int) api.Found {
	return api.Found{Kind: api.LOne, Holder: holder, Slot: at, Path: path}
}
func set(f api.Found) api.Found { f.Set = true; return f }
func many(f, g api.Found) api.Found {
	f.Kind, f.Holder2, f.Slot2, f.Path2 = api.LMany, g.Holder, g.Slot, g.Path
	return f
}

func equal(f, g api.Found) bool { return reflect.DeepEqual(flat(f), flat(g)) }

// finds fails unless a lookup finds what it should.
func finds(t testing.TB, w api.World, v api.Val, sel string, want api.Found) {
	t.Helper()
	if f, errno := look.Look(w, v, sel); errno != api.OK || !equal(f, want) {
		t.Errorf("Look of %v, %q is %+v, %v, not %+v", v, sel, f, errno, want)
	}
}

// P6.1: the rows of the section Examples.
func TestExamples(t *testing.T) {
	w := example()
	finds(t, w, ref(11), "x", one(11, 0))
	finds(t, w, ref(11), "y", many(one(12, 0, 1), one(13, 0, 2)))
	finds(t, w, ref(11), "y:", set(one(12, 0, 1)))
	z := one(14, 0, 1, 1)
	finds(t, w, ref(11), "z", z)
	finds(t, w, ref(12), "x", one(11, 0, 1, 1))
	finds(t, w, ref(11), "foo", none())
	if l, errno := look.Met(w, ref(11), "foo"); errno != api.OK || !slices.Equal(l, []int{11, 12, 14, 13}) {
		t.Errorf("Met: %v, %v", l, errno)
	}
	if f, errno := look.Resend(w, 11, "x"); errno != api.OK || !equal(f, one(11, 0, 1, 1, 1)) {
		t.Errorf("Resend: %+v, %v", f, errno)
	}
	if f, errno := look.Directed(w, 11, "q", "y"); errno != api.OK || !equal(f, one(13, 0, 2)) {
		t.Errorf("Directed: %+v, %v", f, errno)
	}
	if f, errno := look.Directed(w, 11, "x", "y"); errno != api.ErrPath || !equal(f, none()) {
		t.Errorf("Directed by x: %+v, %v", f, errno)
	}
	if errno := look.CheckFound(w, ref(11), "z", []int{11, 12, 13, 14}, z); errno != api.OK {
		t.Errorf("CheckFound: %v", errno)
	}
	if errno := look.CheckFound(w, ref(11), "z", []int{11, 12, 14}, z); errno != api.ErrPath {
		t.Errorf("CheckFound without 13: %v", errno)
	}
}

// The section Terms: with which slot an object matches.
func TestMatching(t *testing.T) {
	long := strings.Repeat("n", 24)
	longest := long + ":" + strings.Repeat("N"+long[1:]+":", 2) + "Nnnn:"
	w := world.Empty()
	w.Codes = ofText(t, "y: x = ( x )", "+ y = ( y )", "size = ( 1 )", "at: x Put: y = ( x )", longest[:25]+" a "+longest[25:50]+" b "+longest[50:75]+" c "+longest[75:]+" d = ( 1 )")
	w = withObjects(w,
		plain(11, variable("y", null), constant("y:", meth(0))),                                                 // the slot of this name, wherever it stands
		plain(12, constant("y:", meth(0)), variable("y", null)),                                                 //
		plain(13, constant("y", null), parent("z", null), changing("p", ref(1)), variable(long, null)),          // constant slots are not set
		plain(14, constant("+", meth(1)), constant("size", meth(2)), constant("at:Put:", meth(3))),              // methods
		plain(15, variable("at", null), variable("value", null), variable("a", null), variable("aa", null)),     // names that begin as others
		plain(16, constant("y", null), parent("up", ref(15)), parent("down", ref(11)), variable("self2", null)), // what does not match here is looked for there
		plain(17, constant(longest, meth(4))),
	)
	mustBeWorld(t, w)
	for _, x := range []struct {
		oid  int
		sel  string
		want api.Found
	}{
		{11, "y", one(11, 0)}, {11, "y:", one(11, 1)}, {12, "y", one(12, 1)}, {12, "y:", one(12, 0)},
		{13, "y", one(13, 0)}, {13, "y:", none()}, {13, "z", one(13, 1)}, {13, "z:", none()}, {13, "p", one(13, 2)}, {13, "p:", set(one(13, 2))},
		{13, long, one(13, 3)}, {13, long + ":", set(one(13, 3))}, {13, long[1:], none()}, {13, long[1:] + ":", none()},
		{14, "+", one(14, 0)}, {14, "-", none()}, {14, "size", one(14, 1)}, {14, "size:", none()}, {14, "at:Put:", one(14, 2)}, {14, "at:", none()}, {14, "at", none()}, {14, "at:Put:With:", none()},
		{15, "at:", set(one(15, 0))}, {15, "at:Put:", none()}, {15, "value:With:", none()}, {15, "a:", set(one(15, 2))}, {15, "aa:", set(one(15, 3))}, {15, "aaa:", none()},
		{16, "y:", one(11, 1, 2)}, {16, "y", one(16, 0)}, {16, "at:", set(one(15, 0, 1))}, {16, "self2:", set(one(16, 3))},
		{17, longest, one(17, 0)}, {17, longest[:25], none()},
	} {
		finds(t, w, ref(x.oid), x.sel, x.want)
	}
	if len(longest) != 80 {
		t.Errorf("the longest selector has %d bytes", len(longest))
	}
}

// Lookups that several ways lead to one object, that go in circles, and that meet what matches on the way.
func TestWaysOfLookups(t *testing.T) {
	w := withObjects(world.Empty(),
		plain(11, parent("a", ref(12)), parent("b", ref(13)), parent("c", ref(14))),                      // by two ways to 15
		plain(12, parent("a", ref(15))),                                                                  //
		plain(13, variable("v", ref(16)), changing("a", ref(15)), parent("b", ref(16))),                  //
		plain(14, parent("a", ref(14)), parent("b", ref(11)), constant("m", null), parent("c", ref(17))), // in circles
		plain(15, constant("x", null)),
		plain(16, constant("k", null), variable("x", null), parent("a", ref(17))), // hides 17
		plain(17, constant("x", null), constant("k", null), constant("l", null)),
		plain(18, parent("a", ref(18))),
		plain(19, parent("a", ref(20)), parent("b", ref(15))),
		plain(20, changing("a", ref(19))),
		plain(21, parent("a", ref(15)), parent("b", ref(15)), parent("c", ref(15))),
	)
	mustBeWorld(t, w)
	for _, x := range []struct {
		oid  int
		sel  string
		want api.Found
		met  []int
	}{
		{11, "x", many(one(15, 0, 0, 0), one(16, 1, 1, 2)), []int{11, 12, 15, 13, 16, 14, 17}},
		{11, "x:", set(one(16, 1, 1, 2)), []int{11, 12, 15, 13, 16, 14, 17}},
		{11, "k", many(one(16, 0, 1, 2), one(17, 1, 2, 3)), []int{11, 12, 15, 13, 16, 14, 17}},
		{11, "l", one(17, 2, 1, 2, 2), []int{11, 12, 15, 13, 16, 17, 14}},
		{11, "m", one(14, 2, 2), []int{11, 12, 15, 13, 16, 17, 14}},
		{13, "k", one(16, 0, 2), []int{13, 15, 16}},
		{13, "l", one(17, 2, 2, 2), []int{13, 15, 16, 17}},
		{13, "m", none(), []int{13, 15, 16, 17}},
		{14, "a", one(14, 0), []int{14}},
		{14, "x", many(one(15, 0, 1, 0, 0), one(16, 1, 1, 1, 2)), []int{14, 11, 12, 15, 13, 16, 17}},
		{18, "x", none(), []int{18}},
		{19, "x", one(15, 0, 1), []int{19, 20, 15}},
		{20, "x", one(15, 0, 0, 1), []int{20, 19, 15}},
		{20, "b", one(19, 1, 0), []int{20, 19}},
		{21, "x", one(15, 0, 0), []int{21, 15}},
		{1, "x", none(), []int{1}},
	} {
		finds(t, w, ref(x.oid), x.sel, x.want)
		if l, errno := look.Met(w, ref(x.oid), x.sel); errno != api.OK || !slices.Equal(l, x.met) {
			t.Errorf("Met of %d, %q is %v, %v, not %v", x.oid, x.sel, l, errno, x.met)
		}
	}
	for _, x := range []struct {
		oid  int
		sel  string
		want api.Found
	}{
		{11, "x", many(one(15, 0, 0, 0), one(16, 1, 1, 2))},
		{11, "a", many(one(12, 0, 0), one(13, 1, 1))}, // 14 is the third one
		{14, "m", one(14, 2, 0)},                      // reached by itself
		{14, "c", many(one(14, 3, 0), one(11, 2, 1))},
		{18, "a", one(18, 0, 0)},
		{18, "x", none()},
		{19, "b", one(19, 1, 0, 0)},
		{21, "x", one(15, 0, 0)},
		{15, "x", none()}, // it has no parents
	} {
		if f, errno := look.Resend(w, x.oid, x.sel); errno != api.OK || !equal(f, x.want) {
			t.Errorf("Resend from %d, %q is %+v, %v, not %+v", x.oid, x.sel, f, errno, x.want)
		}
	}
	for _, x := range []struct {
		oid       int
		name, sel string
		want      api.Found
		errno     api.Errno
	}{
		{11, "a", "x", one(15, 0, 0, 0), api.OK},
		{11, "b", "x", many(one(15, 0, 1, 1), one(16, 1, 1, 2)), api.OK},
		{11, "b", "m", none(), api.OK},
		{14, "a", "m", one(14, 2, 0), api.OK},
		{14, "b", "m", one(14, 2, 1, 2), api.OK},
		{13, "a", "x", one(15, 0, 1), api.OK}, // SParentVar
		{13, "v", "x", none(), api.ErrPath},   // a variable is no parent
		{13, "c", "x", none(), api.ErrPath},
		{13, "", "x", none(), api.ErrPath},
		{13, "A", "x", none(), api.ErrPath},
		{13, "a:", "x", none(), api.ErrPath},
		{21, "c", "x", one(15, 0, 2), api.OK},
	} {
		if f, errno := look.Directed(w, x.oid, x.name, x.sel); errno != x.errno || !equal(f, x.want) {
			t.Errorf("Directed from %d by %q, %q is %+v, %v, not %+v, %v", x.oid, x.name, x.sel, f, errno, x.want, x.errno)
		}
	}
}

// P6.7: numbers and strings are looked up as OInteger and OString, at the beginning and on the way.
func TestValues(t *testing.T) {
	w := sample(t)
	integers := []api.Val{whole(0), whole(-1 << 63), whole(1<<63 - 1), large("9223372036854775808"), large("-9223372036854775809")}
	strs := []api.Val{quoted(""), quoted("a"), quoted("0"), quoted(strings.Repeat("s", 20000))}
	check := func(l []api.Val, oid int) {
		t.Helper()
		for _, v := range l {
			if n, errno := look.Start(w, v); errno != api.OK || n != oid {
				t.Errorf("Start of %s is %d, %v", brief(v), n, errno)
			}
			for _, sel := range selectors {
				want, errno := look.Look(w, ref(oid), sel)
				met, errno2 := look.Met(w, ref(oid), sel)
				if errno != api.OK || errno2 != api.OK {
					t.Fatalf("%v, %v", errno, errno2)
				}
				finds(t, w, v, sel, want)
				if l, errno := look.Met(w, v, sel); errno != api.OK || !slices.Equal(l, met) {
					t.Errorf("Met of %s, %q is %v, %v, not %v", brief(v), sel, l, errno, met)
				}
				if errno := look.CheckFound(w, v, sel, met, want); errno != api.OK {
					t.Errorf("CheckFound of %s, %q is %v", brief(v), sel, errno)
				}
			}
		}
	}
	check(integers, api.OInteger)
	check(strs, api.OString)
	for _, o := range w.Objs {
		check([]api.Val{ref(o.Oid)}, o.Oid)
	}
	finds(t, w, whole(7), "+", one(api.OInteger, 1))
	finds(t, w, quoted("a"), "+", one(api.OInteger, 1, 1))
	finds(t, w, quoted("a"), "i:", set(one(api.OString, 0)))
	finds(t, w, ref(20), "i", many(one(api.OInteger, 0, 0), one(api.OString, 0, 1)))
	finds(t, w, ref(20), "+", one(api.OInteger, 1, 0))
	for _, x := range []struct{ at, oid int }{{0, api.OInteger}, {1, api.OString}, {2, api.OInteger}} {
		if n, errno := look.Follow(w, 20, []int{x.at}); errno != api.OK || n != x.oid {
			t.Errorf("Follow of %d is %d, %v", x.at, n, errno)
		}
	}
	if f, errno := look.Directed(w, 20, "b", "i"); errno != api.OK || !equal(f, one(api.OInteger, 0, 2)) {
		t.Errorf("Directed by a number: %+v, %v", f, errno)
	}
}

// K5, P6.8: activations within one another: what the inner one names hides what those around it name, and this what Self has.
func TestActivations(t *testing.T) {
	w := sample(t)
	for _, x := range []struct {
		aid  int
		sel  string
		act  int
		at   int
		want api.Found
	}{
		{2, "x", 2, 0, api.Found{Kind: api.LOne}}, {2, "x:", 2, 0, set(api.Found{Kind: api.LOne})},
		{2, "n", 2, 1, api.Found{Kind: api.LOne}}, {2, "y:", 2, 2, set(api.Found{Kind: api.LOne})},
		{2, "z", 0, 0, one(14, 0, 1, 1)}, {2, "foo", 0, 0, none()},
		// an argument hides what is around it, but it is not assigned, and does not hide what is
		{3, "x", 3, 0, api.Found{Kind: api.LOne}}, {3, "x:", 2, 0, set(api.Found{Kind: api.LOne})},
		{3, "z:", 3, 1, set(api.Found{Kind: api.LOne})}, {3, "n", 2, 1, api.Found{Kind: api.LOne}},
		{7, "n", 7, 0, api.Found{Kind: api.LOne}}, {7, "n:", 2, 1, set(api.Found{Kind: api.LOne})},
		{7, "y", 7, 1, api.Found{Kind: api.LOne}}, {7, "y:", 7, 1, set(api.Found{Kind: api.LOne})},
		{7, "x", 3, 0, api.Found{Kind: api.LOne}}, {7, "x:", 2, 0, set(api.Found{Kind: api.LOne})}, {7, "z", 3, 1, api.Found{Kind: api.LOne}},
		// Self is that of the activation itself, not of one around it, and not the Holder
		{7, "at:Put:", 0, 0, one(20, 3, 3)}, {7, "i", 0, 0, many(one(api.OInteger, 0, 3, 0), one(api.OString, 0, 3, 1))},
		{3, "i", 0, 0, one(api.OInteger, 0)}, {3, "+", 0, 0, one(api.OInteger, 1)}, {8, "i:", 0, 0, set(one(api.OString, 0))},
		{8, "x", 0, 0, none()}, {9, "y", 9, 0, api.Found{Kind: api.LOne}}, {9, "y:", 0, 0, none()}, {9, "i", 0, 0, one(api.OInteger, 0)},
	} {
		n, at, f, errno := look.Implicit(w, x.aid, x.sel)
		if errno != api.OK || n != x.act || at != x.at || !equal(f, x.want) {
			t.Errorf("Implicit in %d of %q is %d, %d, %+v, %v, not %d, %d, %+v", x.aid, x.sel, n, at, f, errno, x.act, x.at, x.want)
		}
	}
}

// K7: paths, and what is none.
func TestFollow(t *testing.T) {
	w := example()
	for _, x := range []struct {
		oid   int
		path  []int
		to    int
		errno api.Errno
	}{
		{11, nil, 11, api.OK}, {11, []int{}, 11, api.OK}, {11, []int{1}, 12, api.OK}, {11, []int{2}, 13, api.OK}, {11, []int{2, 1, 1}, 11, api.OK},
		{11, []int{1, 1, 1, 1, 1, 1, 2}, 13, api.OK}, {1, nil, 1, api.OK},
		{11, []int{0}, 0, api.ErrPath}, {11, []int{3}, 0, api.ErrPath}, {11, []int{-1}, 0, api.ErrPath}, {11, []int{1<<63 - 1}, 0, api.ErrPath}, {11, []int{-1 << 63}, 0, api.ErrPath},
		{11, []int{1, 1, 0}, 0, api.ErrPath}, {11, []int{0, 1}, 0, api.ErrPath}, {12, []int{0}, 0, api.ErrPath}, {1, []int{0}, 0, api.ErrPath},
		{0, nil, 0, api.ErrNone}, {15, nil, 0, api.ErrNone}, {-1, []int{9}, 0, api.ErrNone}, {1 << 40, nil, 0, api.ErrNone},
	} {
		if to, errno := look.Follow(w, x.oid, x.path); errno != x.errno || to != x.to {
			t.Errorf("Follow from %d by %v is %d, %v, not %d, %v", x.oid, x.path, to, errno, x.to, x.errno)
		}
	}
}

// K8, P6.2: certificates, clause by clause.
func TestCertificates(t *testing.T) {
	w := withObjects(example(),
		plain(15, constant("y", null)),
		plain(16, constant("z", null), parent("p", ref(13)), parent("q", ref(12))),
		plain(17, parent("a", ref(18)), parent("b", ref(12))),
		plain(18, parent("a", ref(17)), parent("b", whole(3)), variable("y", null), parent("c", ref(18))),
		plain(19, parent("a", ref(19)), parent("b", ref(15))),
	)
	mustBeWorld(t, w)
	all := []int{11, 12, 13, 14}
	y := many(one(12, 0, 1), one(13, 0, 2))
	turned := many(one(13, 0, 2), one(12, 0, 1))
	for _, x := range []struct {
		what string
		oid  int
		sel  string
		l    []int
		f    api.Found
		ok   bool
	}{
		{"nothing", 11, "foo", all, none(), true},
		{"in another order", 11, "foo", []int{14, 13, 12, 11}, none(), true},
		{"objects twice", 11, "foo", []int{14, 13, 12, 11, 14, 11, 11}, none(), true},
		{"objects that are not visited", 11, "foo", []int{11, 12, 13, 14, 15, 1}, none(), true},
		{"no objects", 11, "foo", nil, none(), false},
		{"not that of the value", 11, "foo", []int{15}, none(), false},
		{"not a parent", 11, "foo", []int{11, 12, 13}, none(), false},
		{"not a parent of one that is not visited", 11, "foo", []int{11, 12, 13, 14, 17}, none(), false},
		{"numbers of nothing", 11, "foo", []int{11, 12, 13, 14, 99}, none(), false},
		{"the number 0", 11, "foo", []int{0, 11, 12, 13, 14}, none(), false},
		{"a number below 0", 11, "foo", []int{11, 12, 13, 14, -1}, none(), false},
		{"a great number", 11, "foo", []int{11, 12, 13, 14, 1<<63 - 1}, none(), false},
		{"one that matches, and nothing", 11, "z", all, none(), false},
		{"one that matches and is not visited, and nothing", 1, "y", []int{1, 15}, none(), false},
		{"nothing with a holder", 11, "foo", all, api.Found{Holder: 11}, false},
		{"nothing with a slot", 11, "foo", all, api.Found{Slot: 1}, false},
		{"nothing with a path", 11, "foo", all, api.Found{Path: []int{1}}, false},
		{"nothing that is set", 11, "foo", all, api.Found{Set: true}, false},
		{"nothing with a second holder", 11, "foo", all, api.Found{Holder2: 11}, false},
		{"nothing with a second slot", 11, "foo", all, api.Found{Slot2: 1}, false},
		{"nothing with a second path", 11, "foo", all, api.Found{Path2: []int{1}}, false},
		{"empty paths", 11, "foo", all, api.Found{Path: []int{}, Path2: []int{}}, true},
		{"of no kind", 11, "foo", all, api.Found{Kind: 3}, false},
		{"of a kind below 0", 11, "foo", all, api.Found{Kind: -1}, false},

		{"one", 11, "z", all, one(14, 0, 1, 1), true},
		{"one, by the other way", 11, "z", all, one(14, 0, 2, 1), true},
		{"one, in a circle", 12, "x", all, one(11, 0, 1, 1), true},
		{"one, by a path in a circle", 17, "z", []int{17, 18, 12, 14, api.OInteger}, one(14, 0, 0, 0, 0, 3, 0, 1, 1), true},
		{"one itself", 14, "z", []int{14}, one(14, 0), true},
		{"one itself, with others", 14, "z", all, one(14, 0), true},
		{"one itself, by a circle", 14, "z", all, one(14, 0, 1, 1, 1), false},
		{"one itself, without others", 11, "x", []int{11}, one(11, 0), true},
		{"one without the object of the value", 11, "z", []int{12, 13, 14}, one(14, 0, 1, 1), false},
		{"one without an object of the path", 11, "z", []int{11, 12, 14}, one(14, 0, 1, 1), false},
		{"one without itself", 11, "z", []int{11, 12, 13}, one(14, 0, 1, 1), false},
		{"one with another that matches and is not visited", 11, "z", []int{11, 12, 13, 14, 16}, one(14, 0, 1, 1), false},
		{"one twice", 11, "z", []int{11, 12, 13, 14, 14}, one(14, 0, 1, 1), true},
		{"another holder", 11, "z", all, one(13, 0, 1, 1), false},
		{"another slot", 11, "z", all, one(14, 1, 1, 1), false},
		{"a slot below 0", 11, "z", all, one(14, -1, 1, 1), false},
		{"no slot", 11, "z", all, one(14, 2, 1, 1), false},
		{"no path", 11, "z", all, one(14, 0), false},
		{"a path to another object", 11, "z", all, one(14, 0, 1), false},
		{"a path to another object, of which the holder tells", 11, "z", all, one(12, 0, 1), false},
		{"a path by a slot that is no parent", 11, "z", all, one(14, 0, 0, 1, 1), false},
		{"a path by no slot", 11, "z", all, one(14, 0, 1, 1, 7), false},
		{"a path below 0", 11, "z", all, one(14, 0, -1, 1), false},
		{"one that is set and is not", 11, "z", all, set(one(14, 0, 1, 1)), false},
		{"one with a second holder", 11, "z", all, api.Found{Kind: api.LOne, Holder: 14, Path: []int{1, 1}, Holder2: 14}, false},
		{"one with a second slot", 11, "z", all, api.Found{Kind: api.LOne, Holder: 14, Path: []int{1, 1}, Slot2: 1}, false},
		{"one with a second path", 11, "z", all, api.Found{Kind: api.LOne, Holder: 14, Path: []int{1, 1}, Path2: []int{1}}, false},
		{"one that is set", 11, "y:", all, set(one(12, 0, 1)), true},
		{"one that is set, and is not", 11, "y:", all, one(12, 0, 1), false},
		{"one of several", 11, "y", all, one(12, 0, 1), false},
		{"one of several, without the other", 11, "y", []int{11, 12, 14}, one(12, 0, 1), false},
		{"one, where none is", 11, "foo", all, one(14, 0, 1, 1), false},
		{"one, where none is, and no slot", 11, "foo", all, one(14, -1, 1, 1), false},
		{"a number on the way", 18, "y:", []int{18}, set(one(18, 2)), true},
		{"a number on the way that is not there", 17, "z", []int{17, 18, 12, 14}, one(14, 0, 1, 1), false},

		{"several", 11, "y", all, y, true},
		{"several without what is behind them", 11, "y", []int{11, 12, 13}, y, true},
		{"several without one of them", 11, "y", []int{11, 12}, y, false},
		{"several, of which one is no object of the list", 11, "y", []int{11, 13}, y, false},
		{"several, turned", 11, "y", all, turned, true},
		{"several, and a third one", 11, "y", []int{11, 12, 13, 15}, y, true},
		{"several that are one", 11, "y", all, many(one(12, 0, 1), one(12, 0, 1)), false},
		{"several that are one, by two ways", 11, "z", all, many(one(14, 0, 1, 1), one(14, 0, 2, 1)), false},
		{"several, as one that is set", 11, "y", all, set(y), false},
		{"several, where one is", 11, "z", all, y, false},
		{"several, where none is", 11, "foo", all, y, false},
		{"several without the second one", 11, "y", all, many(one(12, 0, 1), none()), false},
		{"several without the first one", 11, "y", all, many(none(), one(13, 0, 2)), false},
		{"another second slot", 11, "y", all, many(one(12, 0, 1), one(13, 1, 2)), false},
		{"another second path", 11, "y", all, many(one(12, 0, 1), one(13, 0, 1)), false},
		{"another second holder", 11, "y", all, many(one(12, 0, 1), one(14, 0, 2)), false},
		{"another first slot", 11, "y", all, many(one(12, 1, 1), one(13, 0, 2)), false},
		{"another first path", 11, "y", all, many(one(12, 0, 2), one(13, 0, 2)), false},
		{"a path by one that matches", 17, "y", []int{17, 18, 12, api.OInteger}, many(one(18, 2, 0), one(12, 0, 0, 0, 1)), false},
		{"one itself, that is its own parent", 19, "b", []int{19}, one(19, 1), true},
		{"one itself, by itself", 19, "b", []int{19}, one(19, 1, 0), false},
		{"one that is not visited, as the second one", 11, "y", []int{11, 12, 13, 14, 15}, many(one(12, 0, 1), one(15, 0, 1, 0)), false},
	} {
		want := api.ErrPath
		if x.ok {
			want = api.OK
		}
		if errno := look.CheckFound(w, ref(x.oid), x.sel, x.l, x.f); errno != want {
			t.Errorf("%s: %v, not %v", x.what, errno, want)
		}
	}
}

// The section Errors: which error comes first.
func TestErrors(t *testing.T) {
	w := sample(t)
	bad := w
	bad.NextObj = 20
	bad2 := w
	bad2.Objs = w.Objs[1:]
	value, nothing, text := ref(11), ref(99), "no selector"
	check := func(what string, f func(w api.World) (api.Errno, bool), want api.Errno) {
		t.Helper()
		for _, v := range []api.World{{}, bad, bad2} {
			if errno, empty := f(v); errno != api.ErrWorld || !empty {
				t.Errorf("%s of no world: %v, %v", what, errno, empty)
			}
		}
		if errno, empty := f(w); errno != want || !empty {
			t.Errorf("%s: %v, not %v; %v", what, errno, want, empty)
		}
	}
	for _, v := range []api.Val{nothing, ref(0), ref(-1), ref(13 + 1<<40), {}, meth(0), {K: 6}, large("5"), quoted("\n"), {K: api.VRef, N: 11, T: "x"}} {
		check("Start", func(w api.World) (api.Errno, bool) { n, e := look.Start(w, v); return e, n == 0 }, api.ErrArg)
		for _, sel := range []string{"x", text} {
			check("Look", func(w api.World) (api.Errno, bool) { f, e := look.Look(w, v, sel); return e, equal(f, none()) }, api.ErrArg)
			check("Met", func(w api.World) (api.Errno, bool) { l, e := look.Met(w, v, sel); return e, len(l) == 0 }, api.ErrArg)
			check("CheckFound", func(w api.World) (api.Errno, bool) {
				return look.CheckFound(w, v, sel, []int{99}, api.Found{Kind: 7}), true
			}, api.ErrArg)
		}
	}
	for _, sel := range slices.Concat(nastyTexts, []string{text, strings.Repeat("n", 24) + ":" + strings.Repeat("N"+strings.Repeat("n", 23)+":", 2) + "Nnnnn:"}) {
		check("Look", func(w api.World) (api.Errno, bool) { f, e := look.Look(w, value, sel); return e, equal(f, none()) }, api.ErrArg)
		check("Met", func(w api.World) (api.Errno, bool) { l, e := look.Met(w, value, sel); return e, len(l) == 0 }, api.ErrArg)
		check("Resend", func(w api.World) (api.Errno, bool) { f, e := look.Resend(w, 11, sel); return e, equal(f, none()) }, api.ErrArg)
		check("Resend from nothing", func(w api.World) (api.Errno, bool) { f, e := look.Resend(w, 99, sel); return e, equal(f, none()) }, api.ErrNone)
		for _, name := range []string{"p", "x", "none", "", "No"} {
			check("Directed", func(w api.World) (api.Errno, bool) {
				f, e := look.Directed(w, 11, name, sel)
				return e, equal(f, none())
			}, api.ErrArg)
			check("Directed from nothing", func(w api.World) (api.Errno, bool) {
				f, e := look.Directed(w, 0, name, sel)
				return e, equal(f, none())
			}, api.ErrNone)
		}
		check("Implicit", func(w api.World) (api.Errno, bool) {
			n, i, f, e := look.Implicit(w, 2, sel)
			return e, n == 0 && i == 0 && equal(f, none())
		}, api.ErrArg)
		for _, aid := range []int{0, 1, -1, 4, 12, 1 << 40, -1 << 63, 1<<63 - 1} {
			check("Implicit in nothing", func(w api.World) (api.Errno, bool) {
				n, i, f, e := look.Implicit(w, aid, sel)
				return e, n == 0 && i == 0 && equal(f, none())
			}, api.ErrNone)
		}
		check("CheckFound", func(w api.World) (api.Errno, bool) {
			return look.CheckFound(w, value, sel, []int{99}, api.Found{Kind: 7}), true
		}, api.ErrArg)
	}
	for _, oid := range []int{0, -1, 15, 30, 99, 1 << 40, -1 << 63, 1<<63 - 1} {
		check("Resend from nothing", func(w api.World) (api.Errno, bool) { f, e := look.Resend(w, oid, "x"); return e, equal(f, none()) }, api.ErrNone)
		check("Directed from nothing", func(w api.World) (api.Errno, bool) {
			f, e := look.Directed(w, oid, "p", "x")
			return e, equal(f, none())
		}, api.ErrNone)
		check("Follow from nothing", func(w api.World) (api.Errno, bool) { n, e := look.Follow(w, oid, []int{-1}); return e, n == 0 }, api.ErrNone)
	}
	check("Follow", func(w api.World) (api.Errno, bool) { n, e := look.Follow(w, 11, []int{1, -1}); return e, n == 0 }, api.ErrPath)
	check("Directed", func(w api.World) (api.Errno, bool) {
		f, e := look.Directed(w, 11, "none", "x")
		return e, equal(f, none())
	}, api.ErrPath)
	check("CheckFound", func(w api.World) (api.Errno, bool) {
		return look.CheckFound(w, value, "x", []int{11, 99}, one(11, 0)), true
	}, api.ErrPath)
}
