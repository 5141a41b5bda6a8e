package code

import (
	"iter"
	"slices"

	"proteus/api"
	"proteus/copies"
)

// unit yields the indices of the unit of a piece of right code.
func unit(l []api.Code, at int) iter.Seq[int] {
	return func(yield func(at int) bool) { visit(l, at, yield) }
}

// visit yields the unit of a piece, as long as it is asked for more, and reports whether it still is.
func visit(l []api.Code, at int, yield func(at int) bool) bool {
	if !yield(at) {
		return false
	}
	for _, i := range l[at].Instrs {
		if i.Op == api.OpBlock && !visit(l, i.A, yield) {
			return false
		}
	}
	return true
}

// taken returns the unit of a method, with indices from base on.
func taken(l []api.Code, at, base int) []api.Code {
	to := make([]int, len(l))
	var list []api.Code
	for from := range unit(l, at) {
		to[from] = base + len(list)
		list = append(list, l[from])
	}
	return moved(list, func(at int) int { return to[at] })
}

// moved returns pieces of code in new memory, in which other indices stand for pieces.
func moved(l []api.Code, to func(at int) int) []api.Code {
	var list []api.Code
	for _, c := range l {
		c = copies.Code(c)
		if c.Block {
			c.Outer = to(c.Outer)
		}
		for i := range c.Instrs {
			if c.Instrs[i].Op == api.OpBlock {
				c.Instrs[i].A = to(c.Instrs[i].A)
			}
		}
		list = append(list, c)
	}
	return list
}

func same(a, b api.Code) bool {
	return a.Name == b.Name && a.Block == b.Block && a.Outer == b.Outer && a.Args == b.Args &&
		slices.Equal(a.Names, b.Names) && slices.Equal(a.Init, b.Init) &&
		slices.Equal(a.Lits, b.Lits) && slices.Equal(a.Sels, b.Sels) && slices.Equal(a.Instrs, b.Instrs)
}
