package look

import (
	"cmp"
	"iter"
	"slices"

	"proteus/api"
	"proteus/code"
	"proteus/world"
)

// graph is a valid world, with its objects by their numbers.
type graph struct {
	api.World
	objects map[int]*api.Obj
}

// opened returns the graph of a valid world.
func opened(w api.World) (*graph, api.Errno) {
	if errno := world.Check(w); errno != api.OK {
		return nil, errno
	}
	g := &graph{w, make(map[int]*api.Obj, len(w.Objs))}
	for i := range w.Objs {
		g.objects[w.Objs[i].Oid] = &w.Objs[i]
	}
	return g, api.OK
}

// openedFor returns the graph of a valid world, if a value is one of it, and a text is a selector.
func openedFor(w api.World, v api.Val, sel string) (*graph, api.Errno) {
	g, errno := opened(w)
	if errno != api.OK {
		return nil, errno
	}
	if !g.isValue(v) || !isSelector(sel) {
		return nil, api.ErrArg
	}
	return g, api.OK
}

// openedAt returns the graph of a valid world, if it has an object, and a text is a selector.
func openedAt(w api.World, oid int, sel string) (*graph, api.Errno) {
	g, errno := opened(w)
	if errno != api.OK {
		return nil, errno
	}
	if !g.hasObject(oid) {
		return nil, api.ErrNone
	}
	if !isSelector(sel) {
		return nil, api.ErrArg
	}
	return g, api.OK
}

func (g *graph) hasObject(oid int) bool { return g.objects[oid] != nil }

// isValue reports whether a value is one of the world.
func (g *graph) isValue(v api.Val) bool {
	return code.Value(v) == api.OK && (v.K != api.VRef || g.hasObject(v.N))
}

func isSelector(sel string) bool { return code.Arity(sel) >= 0 }

// objectOf returns the number of the object of a value.
func objectOf(v api.Val) int {
	switch v.K {
	case api.VRef:
		return v.N
	case api.VStr:
		return api.OString
	}
	return api.OInteger
}

// parents yields the indices of the parent slots of an object, with the numbers of the objects to which they lead.
func (g *graph) parents(oid int) iter.Seq2[int, int] {
	return func(yield func(at, parent int) bool) {
		for at := range g.objects[oid].Slots {
			if parent, ok := g.parent(oid, at); ok && !yield(at, parent) {
				return
			}
		}
	}
}

// parent returns the number of the object to which the slot with an index leads, and whether there is such a slot, and it is one for a parent.
func (g *graph) parent(oid, at int) (int, bool) {
	slots := g.objects[oid].Slots
	if at < 0 || at >= len(slots) {
		return 0, false
	}
	s := &slots[at]
	if s.Kind != api.SParent && s.Kind != api.SParentVar {
		return 0, false
	}
	return objectOf(s.V), true
}

// activation returns the activation with a number.
func (g *graph) activation(aid int) (*api.Act, bool) {
	at, ok := slices.BinarySearchFunc(g.Acts, aid, func(a api.Act, aid int) int { return cmp.Compare(a.Aid, aid) })
	if !ok {
		return nil, false
	}
	return &g.Acts[at], true
}

// outwards yields an activation, and those around it. Each of them is of the code around that of the one before, so that they come to an end.
func (g *graph) outwards(a *api.Act) iter.Seq[*api.Act] {
	return func(yield func(a *api.Act) bool) {
		for ok := true; ok && yield(a); a, ok = g.activation(a.Up) {
		}
	}
}
