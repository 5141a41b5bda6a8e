package look_test

import (
	"fmt"
	"math/rand"
	"reflect"
	"slices"
	"strings"
	"testing"

	"proteus/api"
	"proteus/code"
	"proteus/look"
	"proteus/world"
)

// P6.1, K1 to K8: what each function returns, and a second way to it, for any arguments.

// args are those of all functions.
type args struct {
	oid, aid  int
	v         api.Val
	sel, name string
	path, l   []int
	f         api.Found
}

func (a args) clone() args {
	a.path, a.l, a.f.Path, a.f.Path2 = slices.Clone(a.path), slices.Clone(a.l), slices.Clone(a.f.Path), slices.Clone(a.f.Path2)
	return a
}

// answer is what a function returned: its error, and all else.
type answer struct {
	errno api.Errno
	all   []any
}

// function is one of the chapter, and what it returns by the chapter for a valid world; nothing beside an error.
type function struct {
	name   string
	do     func(w api.World, a args) answer
	should func(w api.World, a args) answer
}

func gives(all ...any) answer           { return answer{api.OK, all} }
func fails(errno api.Errno) answer      { return answer{errno, nil} }
func with(e api.Errno, l ...any) answer { return answer{e, l} }

// same reports whether two answers are the same; beside an error all must be empty, or 0.
func (x answer) same(y answer) bool {
	if x.errno != y.errno {
		return false
	}
	if y.errno != api.OK {
		for _, v := range flattened(x.all) {
			if !reflect.ValueOf(v).IsZero() {
				return false
			}
		}
		return true
	}
	return reflect.DeepEqual(flattened(x.all), flattened(y.all))
}

// flattened puts nil in the place of empty lists.
func flattened(l []any) []any {
	l = slices.Clone(l)
	for i := range l {
		switch x := l[i].(type) {
		case []int:
			l[i] = orNil(x)
		case api.Found:
			l[i] = flat(x)
		}
	}
	return l
}

func flat(f api.Found) api.Found {
	f.Path, f.Path2 = orNil(f.Path), orNil(f.Path2)
	return f
}

func orNil(l []int) []int {
	if len(l) == 0 {
		return nil
	}
	return l
}

func functions() []function {
	return []function{
		{"Start", func(w api.World, a args) answer { n, e := look.Start(w, a.v); return with(e, n) }, func(w api.World, a args) answer {
			if !isOf(w, a.v) {
				return fails(api.ErrArg)
			}
			return gives(begin(a.v))
		}},
		{"Look", func(w api.World, a args) answer { f, e := look.Look(w, a.v, a.sel); return with(e, f) }, func(w api.World, a args) answer {
			if !isOf(w, a.v) || code.Arity(a.sel) < 0 {
				return fails(api.ErrArg)
			}
			return gives(foundOf(w, visitsFrom(w, begin(a.v), a.sel), a.sel))
		}},
		{"Resend", func(w api.World, a args) answer { f, e := look.Resend(w, a.oid, a.sel); return with(e, f) }, func(w api.World, a args) answer {
			if _, ok := find(w, a.oid); !ok {
				return fails(api.ErrNone)
			}
			if code.Arity(a.sel) < 0 {
				return fails(api.ErrArg)
			}
			return gives(foundOf(w, visits(w, edges(w, a.oid), a.sel), a.sel))
		}},
		{"Directed", func(w api.World, a args) answer { f, e := look.Directed(w, a.oid, a.name, a.sel); return with(e, f) }, func(w api.World, a args) answer {
			if _, ok := find(w, a.oid); !ok {
				return fails(api.ErrNone)
			}
			if code.Arity(a.sel) < 0 {
				return fails(api.ErrArg)
			}
			f, ok := directed(w, a.oid, a.name, a.sel)
			if !ok {
				return fails(api.ErrPath)
			}
			return gives(f)
		}},
		{"Implicit", func(w api.World, a args) answer {
			n, i, f, e := look.Implicit(w, a.aid, a.sel)
			return with(e, n, i, f)
		}, func(w api.World, a args) answer {
			if _, ok := act(w, a.aid); !ok {
				return fails(api.ErrNone)
			}
			if code.Arity(a.sel) < 0 {
				return fails(api.ErrArg)
			}
			n, i, f := implicit(w, a.aid, a.sel)
			return gives(n, i, f)
		}},
		{"Met", func(w api.World, a args) answer { l, e := look.Met(w, a.v, a.sel); return with(e, l) }, func(w api.World, a args) answer {
			if !isOf(w, a.v) || code.Arity(a.sel) < 0 {
				return fails(api.ErrArg)
			}
			var l []int
			for _, x := range visitsFrom(w, begin(a.v), a.sel) {
				l = append(l, x.oid)
			}
			return gives(l)
		}},
		{"Follow", func(w api.World, a args) answer { n, e := look.Follow(w, a.oid, a.path); return with(e, n) }, func(w api.World, a args) answer {
			if _, ok := find(w, a.oid); !ok {
				return fails(api.ErrNone)
			}
			n, ok := follow(w, a.oid, a.path)
			if !ok {
				return fails(api.ErrPath)
			}
			return gives(n)
		}},
		{"CheckFound", func(w api.World, a args) answer { return with(look.CheckFound(w, a.v, a.sel, a.l, a.f)) }, func(w api.World, a args) answer {
			if !isOf(w, a.v) || code.Arity(a.sel) < 0 {
				return fails(api.ErrArg)
			}
			if !certifies(w, begin(a.v), a.sel, a.l, a.f) {
				return fails(api.ErrPath)
			}
			return gives()
		}},
	}
}

// nasty are numbers for all arguments.
var nasty = []int{-1 << 63, -2, -1, 0, 1, 2, 3, 5, 10, 11, 12, 40, 1<<40 - 1, 1 << 40, 1<<40 + 1, 1<<63 - 1}

var nastyTexts = []string{"", "self", "resend", "X", "=", "<-", "at:put:", "_At:", "_Clone", "value:with:", "x ", ":", "x::", "3", "a.b", "\x00", "é", "é:", "x:y", strings.Repeat("n", 25), strings.Repeat("n", 25) + ":"}

var nastyValues = []api.Val{{}, whole(1 << 62), ref(0), ref(-1), ref(1 << 40), ref(1<<40 + 1), {K: api.VRef, N: 1, T: "x"}, meth(0), meth(-1), {K: 6}, {K: -1}, {K: api.VInt, T: "3"}, large("3"), large("x"), quoted("\n"), {K: api.VStr, N: 1, T: "a"}}

// someArgs returns arguments by chance that fit a valid world, with a certificate that is right.
func someArgs(t testing.TB, r *rand.Rand, w api.World) args {
	t.Helper()
	g := &grower{r, w}
	if len(w.Objs) == api.ORoots {
		g.World.Objs = append(slices.Clone(w.Objs), w.Objs...) // the roots stand for those behind them
	}
	a := args{oid: oneOf(r, w.Objs).Oid, v: g.value(), sel: oneOf(r, selectors)}
	if len(w.Acts) > 0 {
		a.aid = oneOf(r, w.Acts).Aid
	}
	if o, _ := find(w, a.oid); len(o.Slots) > 0 {
		a.name = oneOf(r, o.Slots).Name
	}
	for at := a.oid; r.Intn(5) > 0; {
		l := edges(w, at)
		if len(l) == 0 {
			break
		}
		e := oneOf(r, l)
		a.path = append(a.path, e.at)
		at = e.to
	}
	var errno, errno2 api.Errno
	a.l, errno = look.Met(w, a.v, a.sel)
	a.f, errno2 = look.Look(w, a.v, a.sel)
	if errno != api.OK || errno2 != api.OK {
		t.Fatalf("Met is %v, Look %v of %v and %q in\n%s", errno, errno2, a.v, a.sel, brief(w))
	}
	return a
}

// list changes a list of numbers in one place.
func list(r *rand.Rand, l []int, fresh int) []int {
	i := r.Intn(len(l) + 1)
	if i == len(l) {
		return append(l, fresh)
	}
	switch r.Intn(6) {
	case 0:
		return slices.Delete(l, i, i+1)
	case 1:
		return slices.Insert(l, i, fresh)
	case 2:
		l[i] = fresh
	case 3:
		return append(l, l[i])
	case 4:
		return append(l, l...)
	case 5:
		r.Shuffle(len(l), func(i, j int) { l[i], l[j] = l[j], l[i] })
	}
	return l
}

func number(r *rand.Rand, n int) int {
	if r.Intn(3) == 0 {
		return oneOf(r, nasty)
	}
	return n + r.Intn(3) - 1
}

// forge changes a certificate in one place.
func (a *args) forge(r *rand.Rand, w api.World) {
	f := &a.f
	switch r.Intn(10) {
	case 0, 1:
		a.l = list(r, a.l, oneOf(r, w.Objs).Oid)
	case 2:
		a.l = list(r, a.l, number(r, w.NextObj))
	case 3:
		for _, o := range w.Objs {
			a.l = append(a.l, o.Oid)
		}
	case 4:
		p := oneOf(r, []*int{&f.Kind, &f.Holder, &f.Slot, &f.Holder2, &f.Slot2})
		*p = number(r, *p)
	case 5:
		f.Set = !f.Set
	case 6:
		p := oneOf(r, []*[]int{&f.Path, &f.Path2})
		*p = list(r, *p, number(r, 1))
	case 7:
		f.Holder, f.Slot, f.Path, f.Holder2, f.Slot2, f.Path2 = f.Holder2, f.Slot2, f.Path2, f.Holder, f.Slot, f.Path
		_, f.Set = slotFor(w, f.Holder, a.sel)
	case 8:
		f.Kind = oneOf(r, []int{api.LNone, api.LOne, api.LMany})
	case 9:
		*f = oneOf(r, []api.Found{{}, {Kind: f.Kind, Holder: f.Holder, Slot: f.Slot, Path: f.Path, Set: f.Set}, {Kind: api.LMany, Holder: f.Holder, Slot: f.Slot, Path: f.Path, Set: f.Set, Holder2: f.Holder, Slot2: f.Slot, Path2: f.Path}})
	}
}

// spoil puts in the place of some arguments others, which fit badly.
func (a *args) spoil(r *rand.Rand, w api.World) {
	switch r.Intn(8) {
	case 0:
		a.oid, a.aid = number(r, a.oid), number(r, a.aid)
	case 1:
		a.oid, a.aid = w.NextObj, w.NextAct
	case 2:
		a.sel = oneOf(r, nastyTexts)
	case 3:
		a.name = oneOf(r, append(nastyTexts, selectors...))
	case 4:
		a.v = oneOf(r, append(nastyValues, ref(w.NextObj)))
	case 5:
		a.path = list(r, a.path, number(r, 2))
	case 6:
		a.forge(r, w)
	}
}

func TestFunctions(t *testing.T) {
	r := source()
	met := map[string]int{}
	all := functions()
	for w := range worlds(t, r, 700) {
		before := clone(w)
		for range 15 {
			a := someArgs(t, r, w)
			for range r.Intn(3) {
				a.spoil(r, w)
			}
			was := a.clone()
			for _, f := range all {
				got, want := f.do(w, a), f.should(w, a)
				met[fmt.Sprint(f.name, " ", want.errno)]++
				if !got.same(want) {
					t.Fatalf("%s of %+v in\n%s\nis %v\nand not %v", f.name, a, brief(w), brief(got), brief(want))
				}
			}
			if !reflect.DeepEqual(a, was) {
				t.Fatal("a function has changed its arguments")
			}
		}
		if !world.Same(w, before) {
			t.Fatal("a function has changed its world")
		}
	}
	for _, x := range []string{"Start 1", "Look 1", "Resend 3", "Resend 1", "Directed 3", "Directed 1", "Directed 60", "Implicit 3", "Implicit 1", "Met 1", "Follow 3", "Follow 60", "CheckFound 1", "CheckFound 60"} {
		if met[x] < 50 {
			t.Errorf("the error of %q was met %d times", x, met[x])
		}
	}
	for _, f := range all {
		if met[f.name+" 0"] < 500 {
			t.Errorf("%s answered %d times", f.name, met[f.name+" 0"])
		}
	}
}

// What is found is of each kind, by long paths, set and not.
func TestLookups(t *testing.T) {
	r := source()
	kinds := map[string]int{}
	for w := range worlds(t, r, 500) {
		for range 6 {
			v := (&grower{r, withObjects(clone(w), plain(w.NextObj))}).value()
			if !isOf(w, v) {
				continue
			}
			for _, sel := range selectors {
				f, errno := look.Look(w, v, sel)
				want := foundOf(w, visitsFrom(w, begin(v), sel), sel)
				if errno != api.OK || !reflect.DeepEqual(flat(f), flat(want)) {
					t.Fatalf("Look of %v and %q in\n%s\nis %+v, %v\nand not %+v", v, sel, brief(w), f, errno, want)
				}
				kinds[fmt.Sprint(f.Kind, " ", len(f.Path) > 1, " ", f.Set)]++
			}
		}
	}
	for _, x := range []string{"0 false false", "1 false false", "1 false true", "1 true false", "1 true true", "2 false false", "2 false true", "2 true false", "2 true true"} {
		if kinds[x] < 100 {
			t.Errorf("%q was found %d times", x, kinds[x])
		}
	}
}
