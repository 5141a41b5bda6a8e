package world

import (
	"slices"

	"proteus/api"
	"proteus/code"
)

func allCopied[T any](l []T, copied func(x T) T) []T {
	news := make([]T, len(l))
	for i := range l {
		news[i] = copied(l[i])
	}
	return news
}

func copied(w api.World) api.World {
	w.Objs = allCopied(w.Objs, copiedObject)
	w.Acts = allCopied(w.Acts, copiedActivation)
	w.Codes = allCopied(w.Codes, copiedCode)
	return w
}

func copiedObject(o api.Obj) api.Obj {
	o.Slots = slices.Clone(o.Slots)
	o.Elems = slices.Clone(o.Elems)
	return o
}

func copiedActivation(a api.Act) api.Act {
	a.Vars = slices.Clone(a.Vars)
	return a
}

func copiedCode(c api.Code) api.Code {
	c.Names = slices.Clone(c.Names)
	c.Init = slices.Clone(c.Init)
	c.Lits = slices.Clone(c.Lits)
	c.Sels = slices.Clone(c.Sels)
	c.Instrs = slices.Clone(c.Instrs)
	return c
}

func same(a, b api.World) bool {
	return a.NextObj == b.NextObj && a.NextAct == b.NextAct &&
		slices.EqualFunc(a.Objs, b.Objs, sameObject) &&
		slices.EqualFunc(a.Acts, b.Acts, sameActivation) &&
		code.Same(a.Codes, b.Codes)
}

func sameObject(a, b api.Obj) bool {
	return a.Oid == b.Oid && a.Kind == b.Kind && a.Code == b.Code && a.Up == b.Up &&
		slices.Equal(a.Slots, b.Slots) && slices.Equal(a.Elems, b.Elems)
}

func sameActivation(a, b api.Act) bool {
	return a.Aid == b.Aid && a.Code == b.Code && a.Self == b.Self && a.Holder == b.Holder && a.Up == b.Up &&
		a.Done == b.Done && slices.Equal(a.Vars, b.Vars)
}
