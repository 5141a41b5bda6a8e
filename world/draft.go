package world

import (
	"slices"

	"proteus/api"
	"proteus/code"
	"proteus/copies"
)

// index tells, by their numbers, where objects or activations stand in a list.
type index map[int]int

// draft is a world that is being changed: the world that it was made from, and an index of its objects.
type draft struct {
	api.World
	index
	activations index
	arities     map[string]int // of texts that were met, as most of them are met again
}

// opened returns a draft of a valid world.
func opened(w api.World) (*draft, api.Errno) {
	d := &draft{World: w, arities: map[string]int{}}
	if !d.isValid() {
		return nil, api.ErrWorld
	}
	return d, api.OK
}

// openedAt returns, in addition, an object of it.
func openedAt(w api.World, oid int) (*draft, *api.Obj, api.Errno) {
	d, errno := opened(w)
	if errno != api.OK {
		return nil, nil, errno
	}
	if !d.hasObject(oid) {
		return nil, nil, api.ErrNone
	}
	return d, d.object(oid), api.OK
}

// openedIn returns, in addition, an activation of it.
func openedIn(w api.World, aid int) (*draft, *api.Act, api.Errno) {
	d, errno := opened(w)
	if errno != api.OK {
		return nil, nil, errno
	}
	if !d.hasActivation(aid) {
		return nil, nil, api.ErrNone
	}
	return d, d.activation(aid), api.OK
}

// own puts the draft into new memory: what it was made from stays as it is when it changes.
func (d *draft) own() { d.World = copies.World(d.World) }

func (d *draft) hasObject(oid int) bool {
	_, ok := d.index[oid]
	return ok
}

func (d *draft) hasActivation(aid int) bool {
	_, ok := d.activations[aid]
	return ok
}

func (d *draft) object(oid int) *api.Obj { return &d.Objs[d.index[oid]] }

func (d *draft) activation(aid int) *api.Act { return &d.Acts[d.activations[aid]] }

// arity returns the arity of a selector, and -1 for every other text.
func (d *draft) arity(sel string) int {
	arity, known := d.arities[sel]
	if !known {
		arity = code.Arity(sel)
		d.arities[sel] = arity
	}
	return arity
}

// withObject returns the world with an object that gets the next number, and this.
func (d *draft) withObject(o api.Obj) (api.World, int, api.Errno) {
	if len(d.Objs) == api.MaxObjs || d.NextObj == api.MaxNumber {
		return api.World{}, 0, api.ErrLimit
	}
	o.Oid = d.NextObj
	d.own()
	d.Objs = append(d.Objs, copies.Object(o))
	d.NextObj++
	return d.World, o.Oid, api.OK
}

// withActivation returns the world with an activation that gets the next number, and this.
func (d *draft) withActivation(a api.Act) (api.World, int, api.Errno) {
	if len(d.Acts) == api.MaxActs || d.NextAct == api.MaxNumber {
		return api.World{}, 0, api.ErrLimit
	}
	a.Aid = d.NextAct
	d.own()
	d.Acts = append(d.Acts, copies.Activation(a))
	d.NextAct++
	return d.World, a.Aid, api.OK
}

// blockSlots returns the slots of a new block.
func (d *draft) blockSlots(code int) []api.Slot {
	return []api.Slot{
		{Name: "parent", Kind: api.SParent, V: api.Val{K: api.VRef, N: api.OBlock}},
		{Name: d.Codes[code].Name, Kind: api.SConst, V: api.Val{K: api.VMeth, N: code}},
	}
}

// sweep removes the activations that are done and to which nothing leads, and those to which nothing leads when these are gone.
func (d *draft) sweep() {
	leading := map[int]int{} // how often an activation is Up
	for i := range d.Objs {
		leading[d.Objs[i].Up]++
	}
	for i := range d.Acts {
		leading[d.Acts[i].Up]++
	}
	gone := map[int]bool{}
chains:
	for i := range d.Acts {
		for a := &d.Acts[i]; a.Done && leading[a.Aid] == 0 && !gone[a.Aid]; a = d.activation(a.Up) {
			gone[a.Aid] = true
			if a.Up == 0 {
				continue chains
			}
			leading[a.Up]--
		}
	}
	d.Acts = slices.DeleteFunc(d.Acts, func(a api.Act) bool { return gone[a.Aid] })
}

// element returns the value with an index.
func element(l []api.Val, i int) (api.Val, api.Errno) {
	if !isIndex(l, i) {
		return api.Val{}, api.ErrArg
	}
	return l[i], api.OK
}
