package world

import (
	"slices"

	"proteus/api"
	"proteus/code"
)

func same(a, b api.World) bool {
	return a.NextObj == b.NextObj && a.NextAct == b.NextAct &&
		slices.EqualFunc(a.Objs, b.Objs, sameObject) &&
		slices.EqualFunc(a.Acts, b.Acts, sameActivation) &&
		code.Same(a.Codes, b.Codes)
}

func sameObject(a, b api.Obj) bool {
	return a.Oid == b.Oid && a.Kind == b.Kind && a.Code == b.Code && a.Up == b.Up &&
		slices.Equal(a.Slots, b.Slots) && slices.Equal(a.Elems, b.Elems)
}

func sameActivation(a, b api.Act) bool {
	return a.Aid == b.Aid && a.Code == b.Code && a.Self == b.Self && a.Holder == b.Holder && a.Up == b.Up &&
		a.Done == b.Done && slices.Equal(a.Vars, b.Vars)
}
