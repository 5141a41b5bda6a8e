package look

import (
	"slices"

	"proteus/api"
)

// set is a set of things.
type set[T comparable] map[T]bool

// add puts a thing into a set, and reports whether it was not there before.
func (s set[T]) add(x T) bool {
	if s[x] {
		return false
	}
	s[x] = true
	return true
}

// visitor visits objects depth first, each at most once.
type visitor struct {
	*graph
	sel     string
	visited set[int]
	met     []int // what was visited, in order
	path    []int // to the object that is visited now
	found   api.Found
}

func (g *graph) visitor(sel string) *visitor {
	return &visitor{graph: g, sel: sel, visited: set[int]{}}
}

// lookup returns a visitor that has visited what a lookup from an object visits.
func (g *graph) lookup(oid int, sel string) *visitor {
	k := g.visitor(sel)
	k.visit(oid)
	return k
}

// visit visits an object, and from it its parents, unless it matches.
func (k *visitor) visit(oid int) {
	if !k.visited.add(oid) {
		return
	}
	k.met = append(k.met, oid)
	for at, isSet := range matching(k.objects[oid], k.sel) {
		k.find(oid, at, isSet)
		return
	}
	k.eachParent(oid, k.visit)
}

// eachParent does something with each parent of an object, while the path leads there.
func (k *visitor) eachParent(oid int, do func(oid int)) {
	for at, parent := range k.parents(oid) {
		k.by(at, parent, do)
	}
}

// by does something with the object to which the slot with an index leads, while the path leads there.
func (k *visitor) by(at, parent int, do func(oid int)) {
	k.path = append(k.path, at)
	do(parent)
	k.path = k.path[:len(k.path)-1]
}

// find notes an object that matches. What is found tells of the first two.
func (k *visitor) find(holder, at int, isSet bool) {
	switch f := &k.found; f.Kind {
	case api.LNone:
		*f = api.Found{Kind: api.LOne, Holder: holder, Slot: at, Path: slices.Clone(k.path), Set: isSet}
	case api.LOne:
		f.Kind, f.Holder2, f.Slot2, f.Path2 = api.LMany, holder, at, slices.Clone(k.path)
	}
}
