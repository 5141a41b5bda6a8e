package world

import (
	"iter"
	"maps"
	"slices"

	"proteus/api"
	"proteus/copies"
)

// oid and aid are numbers of objects and of activations. A reference is one of each, of which one is 0.
type (
	oid int
	aid int
)

// references yields the objects to which values refer, in order.
func references(lists ...[]api.Val) iter.Seq[oid] {
	return func(yield func(o oid) bool) {
		for _, l := range lists {
			for i := range l {
				if l[i].K == api.VRef && !yield(oid(l[i].N)) {
					return
				}
			}
		}
	}
}

// ofObject yields the references of an object, in order.
func ofObject(o *api.Obj) iter.Seq2[oid, aid] {
	return func(yield func(o oid, a aid) bool) {
		for i := range o.Slots {
			if v := &o.Slots[i].V; v.K == api.VRef && !yield(oid(v.N), 0) {
				return
			}
		}
		for n := range references(o.Elems) {
			if !yield(n, 0) {
				return
			}
		}
		if o.Up != 0 {
			yield(0, aid(o.Up))
		}
	}
}

// ofActivation yields the references of an activation, in order.
func ofActivation(a *api.Act) iter.Seq2[oid, aid] {
	return func(yield func(o oid, a aid) bool) {
		if a.Self.K == api.VRef && !yield(oid(a.Self.N), 0) || !yield(oid(a.Holder), 0) {
			return
		}
		for n := range references(a.Vars) {
			if !yield(n, 0) {
				return
			}
		}
		if a.Up != 0 {
			yield(0, aid(a.Up))
		}
	}
}

// numbering gives things of one kind new numbers, in the order in which they are visited. The first ones keep theirs.
type numbering[N ~int] struct {
	kept, next int
	news       map[N]int
}

func numberingFrom[N ~int](kept int) numbering[N] {
	return numbering[N]{kept, kept + 1, map[N]int{}}
}

// visit gives a thing its new number, unless it has one, and reports whether it had none.
func (g *numbering[N]) visit(n N) bool {
	if _, visited := g.news[n]; visited {
		return false
	}
	if int(n) <= g.kept {
		g.news[n] = int(n)
		return true
	}
	g.news[n] = g.next
	g.next++
	return true
}

// olds returns the old numbers, increasing.
func (g *numbering[N]) olds() []int {
	var l []int
	for _, n := range slices.Sorted(maps.Keys(g.news)) {
		l = append(l, int(n))
	}
	return l
}

// pairs returns the old and the new numbers, by increasing old number.
func (g *numbering[N]) pairs() [][2]int {
	var l [][2]int
	for _, n := range g.olds() {
		l = append(l, [2]int{n, g.news[N(n)]})
	}
	return l
}

// walk goes to everything that is reachable in a world.
type walk struct {
	*draft
	objs numbering[oid]
	acts numbering[aid]
}

// walked returns a walk from the roots of a valid world, and from further ones, which must be there.
func walked(w api.World, roots []api.Val, acts []int) (*walk, api.Errno) {
	d, errno := opened(w)
	if errno != api.OK {
		return nil, errno
	}
	if !allOf(acts, func(n *int) bool { return d.hasActivation(*n) }) {
		return nil, api.ErrNone
	}
	if !allOf(roots, d.isValue) {
		return nil, api.ErrArg
	}
	k := &walk{d, numberingFrom[oid](api.ORoots), numberingFrom[aid](0)}
	k.follow(d.roots(roots, acts))
	return k, api.OK
}

// roots yields the roots of a world, and further ones, in order.
func (d *draft) roots(vals []api.Val, acts []int) iter.Seq2[oid, aid] {
	var lists [][]api.Val
	for i := range d.Codes {
		lists = append(lists, d.Codes[i].Lits, d.Codes[i].Init)
	}
	lists = append(lists, vals)
	return func(yield func(o oid, a aid) bool) {
		for n := range api.ORoots {
			if !yield(oid(n+1), 0) {
				return
			}
		}
		for n := range references(lists...) {
			if !yield(n, 0) {
				return
			}
		}
		for _, n := range acts {
			if !yield(0, aid(n)) {
				return
			}
		}
	}
}

// follow visits that to which references lead, and all that is reachable from there.
func (k *walk) follow(refs iter.Seq2[oid, aid]) {
ways:
	for o, a := range refs {
		if a != 0 {
			if k.acts.visit(a) {
				k.follow(ofActivation(k.activation(int(a))))
			}
			continue ways
		}
		if k.objs.visit(o) {
			k.follow(ofObject(k.object(int(o))))
		}
	}
}

// world returns what was visited, with the new numbers.
func (k *walk) world() api.World {
	w := api.World{
		Objs:    make([]api.Obj, len(k.objs.news)),
		Acts:    make([]api.Act, len(k.acts.news)),
		Codes:   copies.All(k.Codes, copies.Code),
		NextObj: k.objs.next,
		NextAct: k.acts.next,
	}
	for old, n := range k.objs.news {
		w.Objs[n-1] = k.movedObject(k.object(int(old)), n)
	}
	for old, n := range k.acts.news {
		w.Acts[n-1] = k.movedActivation(k.activation(int(old)), n)
	}
	for i := range w.Codes {
		k.move(w.Codes[i].Lits)
		k.move(w.Codes[i].Init)
	}
	return w
}

func (k *walk) movedObject(old *api.Obj, n int) api.Obj {
	o := copies.Object(*old)
	o.Oid = n
	for i := range o.Slots {
		o.Slots[i].V = k.moved(o.Slots[i].V)
	}
	k.move(o.Elems)
	o.Up = k.movedUp(o.Up)
	return o
}

func (k *walk) movedActivation(old *api.Act, n int) api.Act {
	a := copies.Activation(*old)
	a.Aid = n
	a.Self = k.moved(a.Self)
	a.Holder = k.objs.news[oid(a.Holder)]
	k.move(a.Vars)
	a.Up = k.movedUp(a.Up)
	return a
}

// move gives the references among values the new numbers.
func (k *walk) move(l []api.Val) {
	for i := range l {
		l[i] = k.moved(l[i])
	}
}

func (k *walk) moved(v api.Val) api.Val {
	if v.K == api.VRef {
		v.N = k.objs.news[oid(v.N)]
	}
	return v
}

// movedUp returns the new number of an activation; 0 of 0, as that is none.
func (k *walk) movedUp(up int) int { return k.acts.news[aid(up)] }
