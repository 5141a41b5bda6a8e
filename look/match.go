package look

import (
	"iter"

	"proteus/api"
)

// matching yields the index of the slot with which an object matches a selector, and whether it is set. One object matches with one slot at most.
func matching(o *api.Obj, sel string) iter.Seq2[int, bool] {
	return func(yield func(at int, isSet bool) bool) {
		setter := -1
		for at := range o.Slots {
			s := &o.Slots[at]
			if s.Name == sel {
				yield(at, false)
				return
			}
			if isAssignable(s) && sets(sel, s.Name) {
				setter = at
			}
		}
		if setter >= 0 {
			yield(setter, true)
		}
	}
}

// named yields the index of the name of a piece of code that a selector means, and whether it is set. Arguments cannot be set.
func named(c *api.Code, sel string) iter.Seq2[int, bool] {
	return func(yield func(at int, isSet bool) bool) {
		for at, name := range c.Names {
			isSet := at >= c.Args && sets(sel, name)
			if isSet || name == sel {
				yield(at, isSet)
				return
			}
		}
	}
}

// sets reports whether a selector is a name and a colon.
func sets(sel, name string) bool { return sel == name+":" }

func isAssignable(s *api.Slot) bool { return s.Kind == api.SVar || s.Kind == api.SParentVar }
