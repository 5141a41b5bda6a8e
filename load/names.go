package load

import (
	"cmp"
	"iter"
	"slices"

	"proteus/api"
)

func reference(oid int) api.Val { return api.Val{K: api.VRef, N: oid} }

// place returns the index of the object with a number, and whether there is one.
func place(w *api.World, oid int) (int, bool) {
	return slices.BinarySearchFunc(w.Objs, oid, func(o api.Obj, oid int) int { return cmp.Compare(o.Oid, oid) })
}

// way tells how an object was met: from which one, and by the name of which slot.
type way struct {
	from int
	name string
}

// walk yields the objects that are met breadth first from the lobby, each with the way on which it is met.
func walk(w *api.World) iter.Seq2[int, way] {
	return func(yield func(oid int, by way) bool) {
		met := map[int]bool{}
		for left := []int{api.OLobby}; len(left) > 0; left = left[1:] {
			at, _ := place(w, left[0])
			for i := range w.Objs[at].Slots {
				s := &w.Objs[at].Slots[i]
				if s.V.K != api.VRef || met[s.V.N] {
					continue
				}
				met[s.V.N] = true
				if !yield(s.V.N, way{left[0], s.Name}) {
					return
				}
				left = append(left, s.V.N)
			}
		}
	}
}

// ways are those on which objects were met.
type ways map[int]way

func waysIn(w api.World) ways {
	all := ways{}
	for oid, by := range walk(&w) {
		all[oid] = by
	}
	return all
}

// names returns the names of an object; none, if it was not met. Those of the lobby are no part of other ones, as all ways begin there.
func (all ways) names(oid int) []string {
	var names []string
	for by, ok := all[oid]; ok; by, ok = all[by.from] {
		names = append(names, by.name)
		if by.from == api.OLobby {
			break
		}
	}
	slices.Reverse(names)
	return names
}
