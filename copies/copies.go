// Package copies puts what package api describes into new memory. It is no layer; all of them may call it.
package copies

import (
	"slices"

	"proteus/api"
)

// All returns the copies of things, each made by a function.
func All[T any](l []T, copied func(x T) T) []T {
	news := make([]T, len(l))
	for i := range l {
		news[i] = copied(l[i])
	}
	return news
}

// World returns a world that shares no memory with another one.
func World(w api.World) api.World {
	w.Objs = All(w.Objs, Object)
	w.Acts = All(w.Acts, Activation)
	w.Codes = All(w.Codes, Code)
	return w
}

// Object returns an object that shares no memory with another one.
func Object(o api.Obj) api.Obj {
	o.Slots = slices.Clone(o.Slots)
	o.Elems = slices.Clone(o.Elems)
	return o
}

// Activation returns an activation that shares no memory with another one.
func Activation(a api.Act) api.Act {
	a.Vars = slices.Clone(a.Vars)
	return a
}

// Code returns a piece of code that shares no memory with another one.
func Code(c api.Code) api.Code {
	c.Names = slices.Clone(c.Names)
	c.Init = slices.Clone(c.Init)
	c.Lits = slices.Clone(c.Lits)
	c.Sels = slices.Clone(c.Sels)
	c.Instrs = slices.Clone(c.Instrs)
	return c
}
