package world_test

import (
	"slices"

	"proteus/api"
	"proteus/code"
)

// A second judge of worlds, and second ways to what functions return, as the chapter has them.

// objectOf returns the first object with a number, if there is one.
func objectOf(w api.World, oid int) (api.Obj, bool) {
	for _, o := range w.Objs {
		if o.Oid == oid {
			return o, true
		}
	}
	return api.Obj{}, false
}

// actOf returns the first activation with a number, if there is one.
func actOf(w api.World, aid int) (api.Act, bool) {
	for _, a := range w.Acts {
		if a.Aid == aid {
			return a, true
		}
	}
	return api.Act{}, false
}

// slotOf returns the first slot with a name, if there is one.
func slotOf(o api.Obj, name string) (api.Slot, bool) {
	for _, s := range o.Slots {
		if s.Name == name {
			return s, true
		}
	}
	return api.Slot{}, false
}

// isOf reports whether a value is one of a world.
func isOf(w api.World, v api.Val) bool {
	if v.K == api.VRef {
		_, ok := objectOf(w, v.N)
		return ok && v.T == ""
	}
	return code.Value(v) == api.OK
}

func areOf(w api.World, l []api.Val) bool {
	return !slices.ContainsFunc(l, func(v api.Val) bool { return !isOf(w, v) })
}

// isWorld reports whether a world is valid, clause by clause.
func isWorld(w api.World) bool {
	if len(w.Objs) > 3000 || len(w.Acts) > 4000 || w.NextObj > 1<<40 || w.NextAct > 1<<40 || w.NextAct < 1 {
		return false
	}
	var oids, aids []int
	for _, o := range w.Objs {
		oids = append(oids, o.Oid)
	}
	for _, a := range w.Acts {
		aids = append(aids, a.Aid)
	}
	if !increase(oids, w.NextObj) || !increase(aids, w.NextAct) {
		return false
	}
	for n := 1; n <= 10; n++ {
		if !slices.Contains(oids, n) {
			return false
		}
	}
	if code.Check(w.Codes) != api.OK {
		return false
	}
	for _, c := range w.Codes {
		if !areOf(w, c.Lits) || !areOf(w, c.Init) {
			return false
		}
	}
	for _, o := range w.Objs {
		if !hasKind(w, o) || !slotsFit(w, o) {
			return false
		}
	}
	for _, a := range w.Acts {
		if !actFits(w, a) {
			return false
		}
	}
	return true
}

// increase reports whether numbers increase, from 1 on, and are less than the next one.
func increase(l []int, next int) bool {
	for i, n := range l {
		if n < 1 || n >= next || i > 0 && n <= l[i-1] {
			return false
		}
	}
	return true
}

func hasKind(w api.World, o api.Obj) bool {
	if o.Kind != api.KBlock && (o.Code != 0 || o.Up != 0) || !areOf(w, o.Elems) {
		return false
	}
	switch o.Kind {
	case api.KPlain:
		return len(o.Elems) == 0
	case api.KVector:
		return len(o.Elems) <= 400
	case api.KMirror:
		return len(o.Elems) == 1
	case api.KSem:
		return len(o.Elems) == 1 && o.Elems[0].K == api.VInt && o.Elems[0].N >= 0 && o.Elems[0].N <= 1<<40
	case api.KBlock:
		return len(o.Elems) == 0 && o.Code >= 0 && o.Code < len(w.Codes) && w.Codes[o.Code].Block && upFits(w, o.Code, o.Up)
	}
	return false
}

// upFits reports whether Up is as the code of a block, or of an activation, requires.
func upFits(w api.World, at, up int) bool {
	if !w.Codes[at].Block {
		return up == 0
	}
	a, ok := actOf(w, up)
	return ok && a.Code == w.Codes[at].Outer
}

func slotsFit(w api.World, o api.Obj) bool {
	if len(o.Slots) > 40 {
		return false
	}
	seen := map[string]bool{}
	for _, s := range o.Slots {
		if seen[s.Name] {
			return false
		}
		seen[s.Name] = true
		switch {
		case s.Kind != api.SConst && s.Kind != api.SVar && s.Kind != api.SParent && s.Kind != api.SParentVar:
			return false
		case s.V.K != api.VMeth:
			if code.Arity(s.Name) != 0 || !isOf(w, s.V) {
				return false
			}
		case s.V.T != "" || s.Kind != api.SConst || s.V.N < 0 || s.V.N >= len(w.Codes):
			return false
		default:
			c := w.Codes[s.V.N]
			if code.Arity(s.Name) != c.Args {
				return false
			}
			if name, _ := code.BlockName(c.Args); c.Block && (o.Kind != api.KBlock || o.Code != s.V.N || s.Name != name) {
				return false
			}
		}
	}
	return true
}

func actFits(w api.World, a api.Act) bool {
	if _, ok := objectOf(w, a.Holder); !ok || !isOf(w, a.Self) || !areOf(w, a.Vars) {
		return false
	}
	return a.Code >= 0 && a.Code < len(w.Codes) && len(a.Vars) == len(w.Codes[a.Code].Names) && upFits(w, a.Code, a.Up)
}

// thing is an object or an activation.
type thing struct {
	act bool
	n   int
}

// leads returns to what a thing leads, in order.
func leads(w api.World, x thing) []thing {
	var l []thing
	if x.act {
		a, _ := actOf(w, x.n)
		l = append(toObjects(vals(a.Self)), thing{false, a.Holder})
		l = append(l, toObjects(a.Vars)...)
		if w.Codes[a.Code].Block {
			l = append(l, thing{true, a.Up})
		}
		return l
	}
	o, _ := objectOf(w, x.n)
	for _, s := range o.Slots {
		l = append(l, toObjects(vals(s.V))...)
	}
	l = append(l, toObjects(o.Elems)...)
	if o.Kind == api.KBlock {
		l = append(l, thing{true, o.Up})
	}
	return l
}

func toObjects(vs []api.Val) []thing {
	var l []thing
	for _, v := range vs {
		if v.K == api.VRef {
			l = append(l, thing{false, v.N})
		}
	}
	return l
}

// rootsOf returns the roots, in order.
func rootsOf(w api.World, roots []api.Val, acts []int) []thing {
	var l []thing
	for n := 1; n <= 10; n++ {
		l = append(l, thing{false, n})
	}
	for _, c := range w.Codes {
		l = append(l, toObjects(c.Lits)...)
		l = append(l, toObjects(c.Init)...)
	}
	l = append(l, toObjects(roots)...)
	for _, n := range acts {
		l = append(l, thing{true, n})
	}
	return l
}

// newNumbers returns those of the normal form, by an agenda of what is to be visited.
func newNumbers(w api.World, roots []api.Val, acts []int) map[thing]int {
	news, visited := map[thing]int{}, map[thing]bool{}
	next := map[bool]int{false: 11, true: 1}
	for n := 1; n <= 10; n++ {
		news[thing{false, n}] = n
	}
	agenda := rootsOf(w, roots, acts)
	for len(agenda) > 0 {
		x := agenda[0]
		agenda = agenda[1:]
		if visited[x] {
			continue
		}
		visited[x] = true
		if news[x] == 0 {
			news[x] = next[x.act]
			next[x.act]++
		}
		agenda = slices.Concat(leads(w, x), agenda)
	}
	return news
}

// renumbered returns a world of what has a new number, in the order of these, with them.
func renumbered(w api.World, news map[thing]int) api.World {
	w = clone(w)
	move := func(l []api.Val) {
		for i := range l {
			if l[i].K == api.VRef {
				l[i].N = news[thing{false, l[i].N}]
			}
		}
	}
	var objs []api.Obj
	for _, o := range w.Objs {
		o.Oid, o.Up = news[thing{false, o.Oid}], news[thing{true, o.Up}]
		if o.Oid == 0 {
			continue
		}
		for i, s := range o.Slots {
			v := vals(s.V)
			move(v)
			o.Slots[i].V = v[0]
		}
		move(o.Elems)
		objs = append(objs, o)
	}
	var acts []api.Act
	for _, a := range w.Acts {
		v := vals(a.Self)
		move(v)
		a.Aid, a.Self, a.Holder, a.Up = news[thing{true, a.Aid}], v[0], news[thing{false, a.Holder}], news[thing{true, a.Up}]
		move(a.Vars)
		if a.Aid != 0 {
			acts = append(acts, a)
		}
	}
	for _, c := range w.Codes {
		move(c.Lits)
		move(c.Init)
	}
	slices.SortFunc(objs, func(a, b api.Obj) int { return a.Oid - b.Oid })
	slices.SortFunc(acts, func(a, b api.Act) int { return a.Aid - b.Aid })
	w.Objs, w.Acts = objs, acts
	return w
}

// normalOf returns the normal form, and the new numbers.
func normalOf(w api.World, roots []api.Val, acts []int) (api.World, map[thing]int) {
	news := newNumbers(w, roots, acts)
	n := renumbered(w, news)
	n.NextObj, n.NextAct = 11, 1
	for x := range news {
		if x.act {
			n.NextAct++
		} else if x.n > 10 {
			n.NextObj++
		}
	}
	return n, news
}

// dropped returns what Drop does: one activation after the other goes, as long as there is one that may.
func dropped(w api.World, aid int) api.World {
	w = clone(w)
	for i := range w.Acts {
		if w.Acts[i].Aid == aid {
			w.Acts[i].Done = true
		}
	}
	for {
		i := slices.IndexFunc(w.Acts, func(a api.Act) bool { return a.Done && !isUp(w, a.Aid) })
		if i < 0 {
			return w
		}
		w.Acts = slices.Delete(w.Acts, i, i+1)
	}
}

// isUp reports whether a block or an activation refers to an activation by Up.
func isUp(w api.World, aid int) bool {
	return slices.ContainsFunc(w.Objs, func(o api.Obj) bool { return o.Kind == api.KBlock && o.Up == aid }) ||
		slices.ContainsFunc(w.Acts, func(a api.Act) bool { return a.Up == aid })
}
