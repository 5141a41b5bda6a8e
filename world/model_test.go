package world_test

import (
	"cmp"
	"fmt"
	"maps"
	"math/rand"
	"reflect"
	"slices"
	"testing"

	"proteus/api"
	"proteus/code"
	"proteus/world"
)

// P5.1, W1 to W20: what each function returns, and a second way to it, for any arguments.

// args are those of all functions.
type args struct {
	oid, aid, i, kind, at, up int
	name                      string
	v                         api.Val
	slots                     []api.Slot
	vals                      []api.Val
	aids                      []int
}

// answer is what a function returned: its error, and all else.
type answer struct {
	errno api.Errno
	all   []any
}

// function is one of the chapter, and what it returns by the chapter for a valid world; nothing beside an error.
type function struct {
	name   string
	do     func(w api.World, a args) answer
	should func(w api.World, a args) answer
}

func gives(all ...any) answer           { return answer{api.OK, all} }
func fails(errno api.Errno) answer      { return answer{errno, nil} }
func with(e api.Errno, l ...any) answer { return answer{e, l} }

// same reports whether two answers are the same; beside an error all must be empty, or 0.
func (x answer) same(y answer) bool {
	if x.errno != y.errno {
		return false
	}
	if y.errno != api.OK {
		return !slices.ContainsFunc(x.all, func(v any) bool { return !isEmpty(reflect.ValueOf(v)) })
	}
	return reflect.DeepEqual(flattened(x.all), flattened(y.all))
}

func isEmpty(v reflect.Value) bool {
	if v.Kind() == reflect.Struct {
		for i := range v.NumField() {
			if !isEmpty(v.Field(i)) {
				return false
			}
		}
		return true
	}
	return v.IsZero() || v.Kind() == reflect.Slice && v.Len() == 0
}

// flattened puts nil in the place of empty lists.
func flattened(l []any) []any {
	l = slices.Clone(l)
	for i := range l {
		switch x := l[i].(type) {
		case api.World:
			l[i] = emptied(x)
		case api.Obj:
			x.Slots, x.Elems = orNil(x.Slots), orNil(x.Elems)
			l[i] = x
		case api.Act:
			x.Vars = orNil(x.Vars)
			l[i] = x
		case []int:
			l[i] = orNil(x)
		case [][2]int:
			l[i] = orNil(x)
		}
	}
	return l
}

func functions() []function {
	return slices.Concat(readers(), writers(), makers(), walkers())
}

func readers() []function {
	return []function{
		{"Check", func(w api.World, a args) answer { return with(world.Check(w)) }, func(w api.World, a args) answer { return gives() }},
		{"Has", func(w api.World, a args) answer { ok, e := world.Has(w, a.v); return with(e, ok) }, func(w api.World, a args) answer { return gives(isOf(w, a.v)) }},
		{"Find", func(w api.World, a args) answer { o, e := world.Find(w, a.oid); return with(e, o) }, func(w api.World, a args) answer {
			if o, ok := objectOf(w, a.oid); ok {
				return gives(o)
			}
			return fails(api.ErrNone)
		}},
		{"Act", func(w api.World, a args) answer { x, e := world.Act(w, a.aid); return with(e, x) }, func(w api.World, a args) answer {
			if x, ok := actOf(w, a.aid); ok {
				return gives(x)
			}
			return fails(api.ErrNone)
		}},
		{"Get", func(w api.World, a args) answer { v, e := world.Get(w, a.oid, a.name); return with(e, v) }, func(w api.World, a args) answer {
			o, _ := objectOf(w, a.oid)
			if s, ok := slotOf(o, a.name); ok {
				return gives(s.V)
			}
			return fails(api.ErrNone)
		}},
		{"Size", func(w api.World, a args) answer { n, e := world.Size(w, a.oid); return with(e, n) }, func(w api.World, a args) answer {
			if o, ok := objectOf(w, a.oid); ok {
				return gives(len(o.Elems))
			}
			return fails(api.ErrNone)
		}},
		{"Elem", func(w api.World, a args) answer { v, e := world.Elem(w, a.oid, a.i); return with(e, v) }, func(w api.World, a args) answer {
			o, ok := objectOf(w, a.oid)
			switch {
			case !ok:
				return fails(api.ErrNone)
			case a.i < 0 || a.i >= len(o.Elems):
				return fails(api.ErrArg)
			}
			return gives(o.Elems[a.i])
		}},
		{"Var", func(w api.World, a args) answer { v, e := world.Var(w, a.aid, a.i); return with(e, v) }, func(w api.World, a args) answer {
			x, ok := actOf(w, a.aid)
			switch {
			case !ok:
				return fails(api.ErrNone)
			case a.i < 0 || a.i >= len(x.Vars):
				return fails(api.ErrArg)
			}
			return gives(x.Vars[a.i])
		}},
	}
}

func writers() []function {
	return []function{
		{"Put", func(w api.World, a args) answer { v, e := world.Put(w, a.oid, a.name, a.v); return with(e, v) }, func(w api.World, a args) answer {
			o, _ := objectOf(w, a.oid)
			s, ok := slotOf(o, a.name)
			switch {
			case !ok:
				return fails(api.ErrNone)
			case !isOf(w, a.v) || s.Kind == api.SConst || s.Kind == api.SParent:
				return fails(api.ErrArg)
			}
			w = clone(w)
			o, _ = objectOf(w, a.oid)
			for i := range o.Slots {
				if o.Slots[i].Name == a.name {
					o.Slots[i].V = a.v
				}
			}
			return gives(w)
		}},
		{"PutElem", func(w api.World, a args) answer { v, e := world.PutElem(w, a.oid, a.i, a.v); return with(e, v) }, func(w api.World, a args) answer {
			w = clone(w)
			o, ok := objectOf(w, a.oid)
			switch {
			case !ok:
				return fails(api.ErrNone)
			case a.i < 0 || a.i >= len(o.Elems):
				return fails(api.ErrArg)
			}
			if o.Elems[a.i] = a.v; !isWorld(w) {
				return fails(api.ErrArg)
			}
			return gives(w)
		}},
		{"PutVar", func(w api.World, a args) answer { v, e := world.PutVar(w, a.aid, a.i, a.v); return with(e, v) }, func(w api.World, a args) answer {
			w = clone(w)
			x, ok := actOf(w, a.aid)
			switch {
			case !ok:
				return fails(api.ErrNone)
			case a.i < 0 || a.i >= len(x.Vars):
				return fails(api.ErrArg)
			}
			if x.Vars[a.i] = a.v; !isWorld(w) {
				return fails(api.ErrArg)
			}
			return gives(w)
		}},
		{"Drop", func(w api.World, a args) answer { v, e := world.Drop(w, a.aid); return with(e, v) }, func(w api.World, a args) answer {
			if _, ok := actOf(w, a.aid); !ok {
				return fails(api.ErrNone)
			}
			return gives(dropped(w, a.aid))
		}},
	}
}

// added returns what makes an object: a world with it, if there may be one more.
func added(w api.World, o api.Obj) answer {
	if len(w.Objs) >= 3000 || w.NextObj >= 1<<40 {
		return fails(api.ErrLimit)
	}
	w = clone(w)
	o.Oid = w.NextObj
	w.Objs = append(w.Objs, o)
	w.NextObj++
	return gives(w, o.Oid)
}

func makers() []function {
	return []function{
		{"Make", func(w api.World, a args) answer {
			v, n, e := world.Make(w, a.kind, a.slots, a.vals)
			return with(e, v, n)
		}, func(w api.World, a args) answer {
			o := api.Obj{Kind: a.kind, Slots: a.slots, Elems: a.vals}
			if a.kind == api.KBlock || !hasKind(w, o) || !slotsFit(w, o) {
				return fails(api.ErrArg)
			}
			return added(w, o)
		}},
		{"Clone", func(w api.World, a args) answer { v, n, e := world.Clone(w, a.oid); return with(e, v, n) }, func(w api.World, a args) answer {
			o, ok := objectOf(w, a.oid)
			if !ok {
				return fails(api.ErrNone)
			}
			return added(w, o)
		}},
		{"Block", func(w api.World, a args) answer { v, n, e := world.Block(w, a.at, a.up); return with(e, v, n) }, func(w api.World, a args) answer {
			x, ok := actOf(w, a.up)
			switch {
			case !ok:
				return fails(api.ErrNone)
			case a.at < 0 || a.at >= len(w.Codes) || !w.Codes[a.at].Block || w.Codes[a.at].Outer != x.Code:
				return fails(api.ErrArg)
			}
			name, _ := code.BlockName(w.Codes[a.at].Args)
			return added(w, api.Obj{Kind: api.KBlock, Code: a.at, Up: a.up, Slots: slots(slot("parent", api.SParent, ref(8)), slot(name, api.SConst, meth(a.at)))})
		}},
		{"Call", func(w api.World, a args) answer {
			v, n, e := world.Call(w, a.at, a.v, a.oid, a.up, a.vals)
			return with(e, v, n)
		}, func(w api.World, a args) answer {
			_, holds := objectOf(w, a.oid)
			_, isUp := actOf(w, a.up)
			switch {
			case !holds || a.up != 0 && !isUp:
				return fails(api.ErrNone)
			case a.at < 0 || a.at >= len(w.Codes) || len(a.vals) != w.Codes[a.at].Args || !isOf(w, a.v) || !areOf(w, a.vals) || !upFits(w, a.at, a.up):
				return fails(api.ErrArg)
			case len(w.Acts) >= 4000 || w.NextAct >= 1<<40:
				return fails(api.ErrLimit)
			}
			w = clone(w)
			w.Acts = append(w.Acts, api.Act{Aid: w.NextAct, Code: a.at, Self: a.v, Holder: a.oid, Up: a.up, Vars: slices.Concat(a.vals, w.Codes[a.at].Init)})
			w.NextAct++
			return gives(w, w.NextAct-1)
		}},
	}
}

// rooted returns the error of roots.
func rooted(w api.World, a args) api.Errno {
	for _, n := range a.aids {
		if _, ok := actOf(w, n); !ok {
			return api.ErrNone
		}
	}
	if !areOf(w, a.vals) {
		return api.ErrArg
	}
	return api.OK
}

// sorted returns the pairs of old and new numbers.
func sorted(news map[thing]int, act bool) [][2]int {
	var l [][2]int
	for x := range maps.Keys(news) {
		if x.act == act {
			l = append(l, [2]int{x.n, news[x]})
		}
	}
	slices.SortFunc(l, func(a, b [2]int) int { return cmp.Compare(a[0], b[0]) })
	return l
}

func firsts(l [][2]int) []int {
	var ns []int
	for _, x := range l {
		ns = append(ns, x[0])
	}
	return ns
}

func walkers() []function {
	return []function{
		{"Reach", func(w api.World, a args) answer {
			os, as, e := world.Reach(w, a.vals, a.aids)
			return with(e, os, as)
		}, func(w api.World, a args) answer {
			if errno := rooted(w, a); errno != api.OK {
				return fails(errno)
			}
			news := newNumbers(w, a.vals, a.aids)
			return gives(firsts(sorted(news, false)), firsts(sorted(news, true)))
		}},
		{"Norm", func(w api.World, a args) answer {
			v, os, as, e := world.Norm(w, a.vals, a.aids)
			return with(e, v, os, as)
		}, func(w api.World, a args) answer {
			if errno := rooted(w, a); errno != api.OK {
				return fails(errno)
			}
			n, news := normalOf(w, a.vals, a.aids)
			return gives(n, sorted(news, false), sorted(news, true))
		}},
	}
}

// someArgs returns arguments by chance, most of which fit a valid world.
func someArgs(r *rand.Rand, w api.World) args {
	g := &grower{r, w}
	a := args{oid: oneOf(r, w.Objs).Oid, kind: 1 + r.Intn(5), at: r.Intn(len(w.Codes) + 1), v: g.value(), i: r.Intn(3)}
	if len(w.Acts) > 0 {
		a.aid = oneOf(r, w.Acts).Aid
		for range r.Intn(3) {
			a.aids = append(a.aids, oneOf(r, w.Acts).Aid)
		}
	}
	o, _ := objectOf(w, a.oid)
	if len(o.Slots) > 0 {
		a.name = oneOf(r, o.Slots).Name
	}
	a.up = a.aid
	if a.at < len(w.Codes) {
		a.up = 0
		if c := w.Codes[a.at]; c.Block && len(g.of(c.Outer)) > 0 {
			a.up = oneOf(r, g.of(c.Outer))
		}
		a.vals = g.values(w.Codes[a.at].Args)
	}
	if r.Intn(2) == 0 {
		fresh := api.Obj{}
		g.object(&fresh)
		a.kind, a.slots, a.vals = fresh.Kind, fresh.Slots, fresh.Elems
	}
	return a
}

// spoil puts in the place of some arguments others, which fit badly.
func (a *args) spoil(r *rand.Rand, w api.World) {
	switch r.Intn(8) {
	case 0:
		p := oneOf(r, []*int{&a.oid, &a.aid, &a.i, &a.kind, &a.at, &a.up})
		*p = number(r, *p)
	case 1:
		a.oid, a.aid, a.up = w.NextObj, w.NextAct, w.NextAct
	case 2:
		a.name = oneOf(r, nastyTexts)
	case 3:
		a.v = oneOf(r, append(nastyValues, ref(w.NextObj)))
	case 4:
		a.vals = list(r, a.vals, oneOf(r, append(nastyValues, ref(w.NextObj))))
	case 5:
		a.slots = list(r, a.slots, slot(oneOf(r, nastyTexts), r.Intn(6), oneOf(r, append(nastyValues, ref(w.NextObj)))))
	case 6:
		a.aids = list(r, a.aids, number(r, w.NextAct))
	}
}

func TestFunctions(t *testing.T) {
	r := source()
	met := map[string]int{}
	all := functions()
	for w := range worlds(t, r, 400) {
		if r.Intn(8) == 0 {
			w.NextObj, w.NextAct = oneOf(r, []int{w.NextObj, 1 << 40}), oneOf(r, []int{w.NextAct, 1 << 40, 1<<40 - 1})
		}
		before := clone(w)
		for range 12 {
			a := someArgs(r, w)
			for range r.Intn(3) {
				a.spoil(r, w)
			}
			for _, f := range all {
				got, want := f.do(w, a), f.should(w, a)
				met[fmt.Sprint(f.name, " ", want.errno)]++
				if !got.same(want) {
					t.Fatalf("%s of %+v in\n%s\nis %v\nand not %v", f.name, a, brief(w), brief(got), brief(want))
				}
			}
		}
		if !equal(w, before) {
			t.Fatal("a function has changed its world")
		}
	}
	for _, x := range []string{"Find 3", "Act 3", "Get 3", "Put 3", "Put 1", "Size 3", "Elem 3", "Elem 1", "PutElem 3", "PutElem 1", "Make 1", "Make 2", "Clone 3", "Clone 2", "Block 3", "Block 1", "Block 2", "Call 3", "Call 1", "Call 2", "Drop 3", "Var 3", "Var 1", "PutVar 3", "PutVar 1", "Reach 3", "Reach 1", "Norm 3", "Norm 1"} {
		if met[x] < 5 {
			t.Errorf("the error of %q was met %d times", x, met[x])
		}
	}
	for _, f := range all {
		if met[f.name+" 0"] < 100 {
			t.Errorf("%s answered %d times", f.name, met[f.name+" 0"])
		}
	}
}

// Every function with a world tells first that it is none, whatever the other arguments are, and nothing beside that.
func TestWorldsThatAreNone(t *testing.T) {
	r := source()
	count := 0
	for w := range worlds(t, r, 100) {
		for range 20 {
			v := clone(w)
			for range 1 + r.Intn(4) {
				change(r, &v)
			}
			if isWorld(v) {
				continue
			}
			count++
			a := someArgs(r, w)
			if r.Intn(2) == 0 {
				a.spoil(r, w)
			}
			for _, f := range functions() {
				if got := f.do(v, a); !got.same(fails(api.ErrWorld)) {
					t.Fatalf("%s of %+v in\n%s\nis %v", f.name, a, brief(v), brief(got))
				}
			}
		}
	}
	if count < 500 {
		t.Errorf("%d worlds were none", count)
	}
}
