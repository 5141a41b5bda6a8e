package look

import "proteus/api"

// refused is the panic with which the judgement of a certificate ends that is not right.
type refused struct{}

// judge judges what somebody says that a lookup from an object finds.
type judge struct {
	*graph
	start  int
	sel    string
	listed set[int] // the objects of the certificate
	hits   int      // how many of them match
}

// judged returns OK if a certificate is right.
func (g *graph) judged(start int, sel string, l []int, f api.Found) (errno api.Errno) {
	defer func() {
		if _, ok := recover().(refused); ok {
			errno = api.ErrPath
		}
	}()
	j := &judge{graph: g, start: start, sel: sel, listed: set[int]{}}
	j.list(l)
	j.found(f)
	return api.OK
}

func (j *judge) demand(holds bool) {
	if !holds {
		panic(refused{})
	}
}

// list demands that a lookup does not leave the objects of a list, and counts those that match.
func (j *judge) list(l []int) {
	for _, oid := range l {
		j.demand(j.hasObject(oid))
		if j.listed.add(oid) && j.matches(oid) {
			j.hits++
		}
	}
	j.demand(j.listed[j.start])
	for oid := range j.listed {
		if j.matches(oid) {
			continue
		}
		for _, parent := range j.parents(oid) {
			j.demand(j.listed[parent])
		}
	}
}

// found demands that what is found is right, as far as the objects of the list tell.
func (j *judge) found(f api.Found) {
	switch f.Kind {
	case api.LNone:
		j.demand(j.hits == 0 && isNoFirst(&f) && isNoSecond(&f))
	case api.LOne:
		j.demand(j.hits == 1 && isNoSecond(&f))
		j.demand(j.leads(f.Path, f.Holder, f.Slot) == f.Set)
	case api.LMany:
		j.demand(f.Holder != f.Holder2)
		j.demand(j.leads(f.Path, f.Holder, f.Slot) == f.Set)
		j.leads(f.Path2, f.Holder2, f.Slot2)
	default:
		j.demand(false)
	}
}

func isNoFirst(f *api.Found) bool {
	return f.Holder == 0 && f.Slot == 0 && len(f.Path) == 0 && !f.Set
}

func isNoSecond(f *api.Found) bool { return f.Holder2 == 0 && f.Slot2 == 0 && len(f.Path2) == 0 }

// leads demands that a path leads to an object that matches with a slot, and to no other one that matches ahead of it. It returns whether the slot is set.
func (j *judge) leads(path []int, holder, slot int) bool {
	oid := j.start
	for _, at := range path {
		j.demand(!j.matches(oid))
		parent, ok := j.parent(oid, at)
		j.demand(ok)
		oid = parent
	}
	j.demand(oid == holder)
	for at, isSet := range matching(j.objects[oid], j.sel) {
		j.demand(at == slot)
		return isSet
	}
	panic(refused{})
}

func (j *judge) matches(oid int) bool {
	for range matching(j.objects[oid], j.sel) {
		return true
	}
	return false
}
