package world

import (
	"proteus/api"
	"proteus/code"
)

// rule tells of the objects of a kind how many Elems they have, and what else is required of them.
type rule struct {
	least, most int
	right       func(d *draft, o *api.Obj) bool
}

// rules returns the rule of each kind of objects.
func rules() [api.KSem + 1]rule {
	return [...]rule{
		api.KPlain:  {0, 0, (*draft).isNoBlock},
		api.KVector: {0, api.MaxElems, (*draft).isNoBlock},
		api.KBlock:  {0, 0, (*draft).isBlock},
		api.KMirror: {1, 1, (*draft).isNoBlock},
		api.KSem:    {1, 1, (*draft).isSem},
	}
}

// isValid judges the world of a draft, and makes its indices.
func (d *draft) isValid() bool {
	if len(d.Objs) < api.ORoots || len(d.Objs) > api.MaxObjs || len(d.Acts) > api.MaxActs {
		return false
	}
	if !isNext(d.NextObj) || !isNext(d.NextAct) {
		return false
	}
	d.index = indexed(d.Objs, d.NextObj, func(o *api.Obj) int { return o.Oid })
	d.activations = indexed(d.Acts, d.NextAct, func(a *api.Act) int { return a.Aid })
	// As numbers increase, the roots are there just if the last one of them has its place.
	if d.index == nil || d.activations == nil || d.Objs[api.ORoots-1].Oid != api.ORoots {
		return false
	}
	return d.hasCodes() && allOf(d.Objs, d.isObject) && allOf(d.Acts, d.isActivation)
}

// isNext reports whether a number may be the next one. It is at least 1, as what is made next has a number from 1 on.
func isNext(n int) bool { return 1 <= n && n <= api.MaxNumber }

// indexed returns the index of a list; nil, unless its numbers increase from 1 on, and are less than the next one.
func indexed[T any](l []T, next int, number func(x *T) int) index {
	places := make(index, len(l))
	last := 0
	for at := range l {
		n := number(&l[at])
		if n <= last || n >= next {
			return nil
		}
		places[n] = at
		last = n
	}
	return places
}

// hasCodes judges the code of the world.
func (d *draft) hasCodes() bool {
	if code.Check(d.Codes) != api.OK {
		return false
	}
	leads := true
pieces:
	for i := range d.Codes {
		for n := range references(d.Codes[i].Lits, d.Codes[i].Init) {
			if !d.hasObject(int(n)) {
				leads = false
				break pieces
			}
		}
	}
	return leads
}

// isObject judges an object, but for its number.
func (d *draft) isObject(o *api.Obj) bool {
	if o.Kind < api.KPlain || o.Kind > api.KSem || !d.hasSlots(o) {
		return false
	}
	all := rules()
	r := &all[o.Kind]
	return r.least <= len(o.Elems) && len(o.Elems) <= r.most && allOf(o.Elems, d.isValue) && r.right(d, o)
}

// hasSlots judges the slots of an object.
func (d *draft) hasSlots(o *api.Obj) bool {
	if len(o.Slots) > api.MaxSlots {
		return false
	}
	for at := range o.Slots {
		s := &o.Slots[at]
		if slotAt(o, s.Name) != at || !d.isMethod(o, s) && !d.isData(s) {
			return false
		}
	}
	return true
}

// isData reports whether a slot is right whose content is no method.
func (d *draft) isData(s *api.Slot) bool {
	return api.SConst <= s.Kind && s.Kind <= api.SParentVar && d.arity(s.Name) == 0 && d.isValue(&s.V)
}

// isMethod reports whether a slot is right whose content is a method.
func (d *draft) isMethod(o *api.Obj, s *api.Slot) bool {
	if s.V.K != api.VMeth || s.V.T != "" || s.Kind != api.SConst || !d.isCode(s.V.N) {
		return false
	}
	c := &d.Codes[s.V.N]
	if c.Block {
		// The Name of right code of a block is what code.BlockName tells.
		return o.Kind == api.KBlock && o.Code == s.V.N && s.Name == c.Name
	}
	// Most methods have the name of their code, which is right, so that nothing is left to judge.
	return s.Name == c.Name || d.arity(s.Name) == c.Args
}

func (d *draft) isNoBlock(o *api.Obj) bool { return o.Code == 0 && o.Up == 0 }

func (d *draft) isBlock(o *api.Obj) bool {
	return d.isCode(o.Code) && d.Codes[o.Code].Block && d.standsIn(o.Code, o.Up)
}

func (d *draft) isSem(o *api.Obj) bool {
	return d.isNoBlock(o) && isCount(o.Elems[0])
}

func isCount(v api.Val) bool { return v.K == api.VInt && 0 <= v.N && v.N <= api.MaxNumber }

// isActivation judges an activation, but for its number.
func (d *draft) isActivation(a *api.Act) bool {
	if !d.isCode(a.Code) || !d.hasObject(a.Holder) || !d.standsIn(a.Code, a.Up) {
		return false
	}
	return len(a.Vars) == len(d.Codes[a.Code].Names) && allOf(a.Vars, d.isValue) && d.isValue(&a.Self)
}

func (d *draft) isCode(at int) bool { return isIndex(d.Codes, at) }

// standsIn reports whether an activation is one of the code around a block; for code of a method, whether there is none.
func (d *draft) standsIn(at, up int) bool {
	if !d.Codes[at].Block {
		return up == 0
	}
	return d.hasActivation(up) && d.activation(up).Code == d.Codes[at].Outer
}

// isValue reports whether a value is one of the world.
func (d *draft) isValue(v *api.Val) bool {
	return code.Value(*v) == api.OK && (v.K != api.VRef || d.hasObject(v.N))
}

// slotAt returns the index of the first slot with a name; -1, if there is none.
func slotAt(o *api.Obj, name string) int {
	for at := range o.Slots {
		if o.Slots[at].Name == name {
			return at
		}
	}
	return -1
}

func isIndex[T any](l []T, i int) bool { return 0 <= i && i < len(l) }

func isAssignable(s *api.Slot) bool { return s.Kind == api.SVar || s.Kind == api.SParentVar }

func allOf[T any](l []T, such func(x *T) bool) bool {
	for i := range l {
		if !such(&l[i]) {
			return false
		}
	}
	return true
}
