package look_test

import (
	"maps"
	"slices"

	"proteus/api"
	"proteus/code"
)

// A second way to what the chapter says. A lookup goes depth first, so that the path of an object is the least of all paths to it on which no object is twice, and objects are visited by increasing paths. So here the objects that are visited are collected first, in any order; then the least path to each is looked for, slot by slot; then they are sorted.

// edge is a slot that leads to a parent.
type edge struct{ at, to int }

// way is an object that is visited, and its path.
type way struct {
	oid  int
	path []int
}

func find(w api.World, oid int) (api.Obj, bool) {
	for _, o := range w.Objs {
		if o.Oid == oid {
			return o, true
		}
	}
	return api.Obj{}, false
}

func act(w api.World, aid int) (api.Act, bool) {
	for _, a := range w.Acts {
		if a.Aid == aid {
			return a, true
		}
	}
	return api.Act{}, false
}

// begin returns the object of a value.
func begin(v api.Val) int {
	return map[int]int{api.VInt: api.OInteger, api.VBig: api.OInteger, api.VStr: api.OString, api.VRef: v.N}[v.K]
}

func isOf(w api.World, v api.Val) bool {
	_, ok := find(w, v.N)
	return code.Value(v) == api.OK && (v.K != api.VRef || ok)
}

// slotFor returns the index of the slot with which an object matches, -1 for none, and whether it is set.
func slotFor(w api.World, oid int, sel string) (int, bool) {
	o, _ := find(w, oid)
	if at := slices.IndexFunc(o.Slots, func(s api.Slot) bool { return s.Name == sel }); at >= 0 {
		return at, false
	}
	at := slices.IndexFunc(o.Slots, func(s api.Slot) bool {
		return (s.Kind == api.SVar || s.Kind == api.SParentVar) && s.Name+":" == sel
	})
	return at, at >= 0
}

func matches(w api.World, oid int, sel string) bool {
	at, _ := slotFor(w, oid, sel)
	return at >= 0
}

// edges returns the slots of an object that lead to parents, in order.
func edges(w api.World, oid int) []edge {
	var l []edge
	o, _ := find(w, oid)
	for at, s := range o.Slots {
		if s.Kind == api.SParent || s.Kind == api.SParentVar {
			l = append(l, edge{at, begin(s.V)})
		}
	}
	return l
}

// onwards returns the edges from an object, by which a lookup goes on from it.
func onwards(w api.World, oid int, sel string) []edge {
	if matches(w, oid, sel) {
		return nil
	}
	return edges(w, oid)
}

// closure returns what can be reached by edges, where no way goes through some objects.
func closure(w api.World, from []edge, sel string, shut map[int]bool) map[int]bool {
	all := map[int]bool{}
	for work := slices.Clone(from); len(work) > 0; {
		e := work[len(work)-1]
		work = work[:len(work)-1]
		if all[e.to] || shut[e.to] {
			continue
		}
		all[e.to] = true
		work = append(work, onwards(w, e.to, sel)...)
	}
	return all
}

// least returns the least path by edges to an object on which no object is twice.
func least(w api.World, from []edge, sel string, to int) []int {
	var path []int
	shut := map[int]bool{}
	for {
		i := slices.IndexFunc(from, func(e edge) bool { return closure(w, []edge{e}, sel, shut)[to] })
		path = append(path, from[i].at)
		if from[i].to == to {
			return path
		}
		shut[from[i].to] = true
		from = onwards(w, from[i].to, sel)
	}
}

// visits returns what a lookup visits that begins with some edges, in order.
func visits(w api.World, from []edge, sel string) []way {
	var l []way
	for oid := range maps.Keys(closure(w, from, sel, nil)) {
		l = append(l, way{oid, least(w, from, sel, oid)})
	}
	slices.SortFunc(l, func(a, b way) int { return slices.Compare(a.path, b.path) })
	return l
}

// visitsFrom returns what a lookup from an object visits, in order.
func visitsFrom(w api.World, oid int, sel string) []way {
	l := visits(w, []edge{{0, oid}}, sel)
	for i := range l {
		l[i].path = l[i].path[1:]
	}
	return l
}

// foundOf returns what is found among what is visited.
func foundOf(w api.World, l []way, sel string) api.Found {
	l = slices.DeleteFunc(slices.Clone(l), func(x way) bool { return !matches(w, x.oid, sel) })
	if len(l) == 0 {
		return api.Found{}
	}
	at, isSet := slotFor(w, l[0].oid, sel)
	f := api.Found{Kind: api.LOne, Holder: l[0].oid, Slot: at, Path: l[0].path, Set: isSet}
	if len(l) > 1 {
		f.Kind, f.Holder2, f.Path2 = api.LMany, l[1].oid, l[1].path
		f.Slot2, _ = slotFor(w, l[1].oid, sel)
	}
	return f
}

// directed returns what is found by one of the edges of an object.
func directed(w api.World, oid int, name, sel string) (api.Found, bool) {
	o, _ := find(w, oid)
	for _, e := range edges(w, oid) {
		if o.Slots[e.at].Name == name {
			return foundOf(w, visits(w, []edge{e}, sel), sel), true
		}
	}
	return api.Found{}, false
}

// implicit returns what a message means in an activation.
func implicit(w api.World, aid int, sel string) (int, int, api.Found) {
	first, _ := act(w, aid)
	for a, ok := first, true; ok; a, ok = act(w, a.Up) {
		c := w.Codes[a.Code]
		if at := slices.Index(c.Names, sel); at >= 0 {
			return a.Aid, at, api.Found{Kind: api.LOne}
		}
		for at := c.Args; at < len(c.Names); at++ {
			if c.Names[at]+":" == sel {
				return a.Aid, at, api.Found{Kind: api.LOne, Set: true}
			}
		}
	}
	return 0, 0, foundOf(w, visitsFrom(w, begin(first.Self), sel), sel)
}

// follow returns where a path leads.
func follow(w api.World, oid int, path []int) (int, bool) {
	for _, at := range path {
		l := edges(w, oid)
		i := slices.IndexFunc(l, func(e edge) bool { return e.at == at })
		if i < 0 {
			return 0, false
		}
		oid = l[i].to
	}
	return oid, true
}

// leads reports whether a path leads to an object that matches with a slot, the first one that matches on it.
func leads(w api.World, from int, sel string, path []int, holder, at int) bool {
	for n := range path {
		if oid, ok := follow(w, from, path[:n]); !ok || matches(w, oid, sel) {
			return false
		}
	}
	oid, ok := follow(w, from, path)
	got, _ := slotFor(w, holder, sel)
	return ok && oid == holder && got == at && at >= 0
}

// certifies reports whether a certificate is right, clause by clause of K8.
func certifies(w api.World, from int, sel string, l []int, f api.Found) bool {
	var hits []int
	for _, oid := range l {
		if _, ok := find(w, oid); !ok {
			return false
		}
		if matches(w, oid, sel) && !slices.Contains(hits, oid) {
			hits = append(hits, oid)
		}
		for _, e := range onwards(w, oid, sel) {
			if !slices.Contains(l, e.to) {
				return false
			}
		}
	}
	if !slices.Contains(l, from) {
		return false
	}
	_, isSet := slotFor(w, f.Holder, sel)
	first := leads(w, from, sel, f.Path, f.Holder, f.Slot) && isSet == f.Set
	noSecond := f.Holder2 == 0 && f.Slot2 == 0 && len(f.Path2) == 0
	switch f.Kind {
	case 0:
		return len(hits) == 0 && noSecond && f.Holder == 0 && f.Slot == 0 && len(f.Path) == 0 && !f.Set
	case 1:
		return len(hits) == 1 && hits[0] == f.Holder && first && noSecond
	case 2:
		return first && f.Holder != f.Holder2 && leads(w, from, sel, f.Path2, f.Holder2, f.Slot2)
	}
	return false
}
