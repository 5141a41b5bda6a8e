package load

import (
	"slices"

	"proteus/api"
	"proteus/big"
	"proteus/copies"
	"proteus/look"
)

// fault is the error by which making ends, and the name that it tells: it panics with it.
type fault struct {
	errno api.Errno
	name  string
}

// caught returns what a function makes, or the error by which it ends.
func caught[T any](do func() T) (x T, errno api.Errno, name string) {
	defer func() {
		if f, ok := recover().(fault); ok {
			var zero T
			x, errno, name = zero, f.errno, f.name
		}
	}()
	return do(), api.OK, ""
}

// demand ends making, unless there is no error.
func demand(errno api.Errno) {
	if errno != api.OK {
		panic(fault{errno: errno})
	}
}

// demandLimit ends making, unless a limit is kept.
func demandLimit(kept bool) {
	if !kept {
		panic(fault{errno: api.ErrLimit})
	}
}

// each returns what a function makes of the elements of a list, in order.
func each[S, T any](l []S, to func(x *S) T) []T {
	var all []T
	for i := range l {
		all = append(all, to(&l[i]))
	}
	return all
}

// step is what one name of a path asks for: a slot that is found from a value on.
type step struct {
	from api.Val
	name string
}

// loader makes values in a world. What it makes is found by no lookup until a slot is added that leads there; so lookups, each of which judges the whole world, are remembered up to then.
type loader struct {
	api.World
	manners [api.NValue + 1]manner
	known   map[step]api.Val
}

func newLoader(w api.World) *loader { return &loader{w, manners(), map[step]api.Val{}} }

// made returns the world in which something was made, in new memory, and this.
func made[T any](w api.World, do func(l *loader) T) (api.World, T, api.Errno, string) {
	l := newLoader(copies.World(w))
	x, errno, name := caught(func() T { return do(l) })
	if errno != api.OK {
		return api.World{}, x, errno, name
	}
	return l.World, x, api.OK, ""
}

// added returns the world in which the object with an index has the slots of an NObject behind its own.
func added(w api.World, at int, n *api.Node) (api.World, api.Errno, string) {
	grown, _, errno, name := made(w, func(l *loader) struct{} {
		for i := range n.Subs {
			l.add(at, &n.Subs[i])
		}
		return struct{}{}
	})
	return grown, errno, name
}

// add puts a slot behind those of the object with an index, when its content was made.
func (l *loader) add(at int, n *api.Node) {
	s := l.slot(n)
	o := &l.Objs[at]
	o.Slots = append(o.Slots, s)
	demandDifferent(o.Slots)
	demandLimit(len(o.Slots) <= api.MaxSlots)
	clear(l.known)
}

// slot returns the slot of an NSlot of an object.
func (l *loader) slot(n *api.Node) api.Slot {
	s := api.Slot{Name: n.Text, Kind: n.Num}
	switch {
	case len(n.Subs) == 0:
		s.V = reference(api.ONil)
	case isMethod(n):
		s.V = api.Val{K: api.VMeth, N: l.method(&n.Subs[0], n.Text)}
	default:
		s.V = l.value(&n.Subs[0])
	}
	return s
}

// demandDifferent ends making at the first slot that has the name of one ahead of it.
func demandDifferent(slots []api.Slot) {
	names := map[string]bool{}
	for i := range slots {
		name := slots[i].Name
		if names[name] {
			panic(fault{api.ErrTwice, name})
		}
		names[name] = true
	}
}

// value returns the value of an initial value.
func (l *loader) value(n *api.Node) api.Val { return l.manners[n.Kind].value(l, n) }

func (l *loader) number(n *api.Node) api.Val {
	v, _ := big.Of(n.Text)
	return v
}

func (l *loader) text(n *api.Node) api.Val {
	demandLimit(len(n.Text) <= api.MaxText)
	return api.Val{K: api.VStr, T: n.Text}
}

// object makes an object, when the contents of all its slots were made.
func (l *loader) object(n *api.Node) api.Val {
	slots := each(n.Subs, l.slot)
	demandDifferent(slots)
	demandLimit(len(l.Objs) < api.MaxObjs && l.NextObj < api.MaxNumber)
	oid := l.NextObj
	l.Objs = append(l.Objs, api.Obj{Oid: oid, Kind: api.KPlain, Slots: slots})
	l.NextObj++
	return reference(oid)
}

func (l *loader) path(n *api.Node) api.Val {
	var names []string
	for ; n.Kind == api.NSend; n = &n.Subs[0] {
		names = append(names, n.Text)
	}
	names = append(names, n.Text)
	slices.Reverse(names)
	return l.named(names)
}

// nothing is what an NValue of a tree means.
func (l *loader) nothing(*api.Node) api.Val { panic(fault{errno: api.ErrPlace}) }

// named returns the value of a path from the lobby.
func (l *loader) named(names []string) api.Val {
	v := reference(api.OLobby)
	for _, name := range names {
		s := step{v, name}
		next, ok := l.known[s]
		if !ok {
			next = l.found(s)
			l.known[s] = next
		}
		v = next
	}
	return v
}

// found returns the content of the slot that a step of a path leads to. By a name, which has no colon, none is found that is set.
func (l *loader) found(s step) api.Val {
	f, _ := look.Look(l.World, s.from, s.name)
	if f.Kind == api.LOne {
		at, _ := place(&l.World, f.Holder)
		if v := l.Objs[at].Slots[f.Slot].V; v.K != api.VMeth {
			return v
		}
	}
	panic(fault{api.ErrName, s.name})
}
