package parse

import (
	"iter"
	"slices"
	"strings"

	"proteus/api"
)

// meaning is to what an NImp refers: the NSlot, its index, and the number of scopes between; without an NSlot to nothing.
type meaning struct {
	slot       *api.Node
	index, out int
}

// scope tells what a name means within it, or, if that is assigned, the name with a colon.
type scope func(name string, assigned bool) meaning

// unknown is the scope around a tree, and around a method.
func unknown(string, bool) meaning { return meaning{} }

// within returns the scope of an NMethod or NBlock.
func within(n *api.Node, around scope) scope {
	if n.Kind == api.NMethod {
		around = unknown
	}
	return func(name string, assigned bool) meaning {
		for i := range n.Num {
			slot := &n.Subs[i]
			if slot.Text == name && (!assigned || slot.Num == api.SVar) {
				return meaning{slot: slot, index: i}
			}
		}
		m := around(name, assigned)
		m.out++
		return m
	}
}

// place is a node of a valid tree, with the scope around it.
type place struct {
	*api.Node
	around scope
}

func (p place) isScope() bool { return p.Kind == api.NMethod || p.Kind == api.NBlock }

// inner returns the scope around the Subs.
func (p place) inner() scope {
	if p.isScope() {
		return within(p.Node, p.around)
	}
	return p.around
}

// isConsidered reports whether the NImps of the Sub with an index are no parts of a path that is an initial value.
func (p place) isConsidered(i int) bool { return p.Kind != api.NSlot || !isPath(&p.Subs[i]) }

// meaning returns to what an NImp refers.
func (p place) meaning() meaning {
	name, assigned := strings.CutSuffix(p.Text, ":")
	return p.around(name, assigned)
}

// imps yields the NImps that are considered, with what they mean.
func imps(root *api.Node) iter.Seq2[*api.Node, meaning] {
	return func(yield func(n *api.Node, m meaning) bool) {
		place{root, unknown}.imps(yield)
	}
}

func (p place) imps(yield func(n *api.Node, m meaning) bool) bool {
	if p.Kind == api.NImp && !yield(p.Node, p.meaning()) {
		return false
	}
	inner := p.inner()
	for i := range p.Subs {
		if p.isConsidered(i) && !(place{&p.Subs[i], inner}).imps(yield) {
			return false
		}
	}
	return true
}

// meanings returns what the NImps of a tree that are considered mean.
func meanings(root *api.Node) []*api.Node {
	var l []*api.Node
	for _, m := range imps(root) {
		l = append(l, m.slot)
	}
	return l
}

func free(root *api.Node) []string {
	var l []string
	seen := map[string]bool{}
	for n, m := range imps(root) {
		if m.slot == nil && !seen[n.Text] {
			seen[n.Text] = true
			l = append(l, n.Text)
		}
	}
	return l
}

// has reports whether there is a Sub with an index.
func has(n *api.Node, i int) bool { return 0 <= i && i < len(n.Subs) }

func resolve(root *api.Node, path []int) (int, int, api.Errno) {
	p := place{root, unknown}
	considered := true
	for _, i := range path {
		if !has(p.Node, i) {
			return 0, 0, api.ErrNone
		}
		considered = considered && p.isConsidered(i)
		p = place{&p.Subs[i], p.inner()}
	}
	if p.Kind != api.NImp || !considered {
		return 0, 0, api.ErrArg
	}
	m := p.meaning()
	if m.slot == nil {
		return 0, 0, api.ErrArg
	}
	return m.out, m.index, api.OK
}

// rename gives another name to the NSlot at a path, in a tree that may be changed.
func rename(root *api.Node, path []int, name string) api.Errno {
	var owner place
	slot := root
	for _, i := range path {
		if !has(slot, i) {
			return api.ErrNone
		}
		owner.Node, slot = slot, &slot.Subs[i]
	}
	if owner.Node == nil || !owner.isScope() || slot.Kind != api.NSlot || !nameText(name) {
		return api.ErrArg
	}
	before := meanings(root)
	for n, m := range imps(root) {
		if m.slot == slot {
			n.Text = name + n.Text[len(slot.Text):]
		}
	}
	slot.Text = name
	if !slices.Equal(before, meanings(root)) || declaresTwice(owner.Node) {
		return api.ErrArg
	}
	return api.OK
}

// declaresTwice reports whether two slots of a scope have one name.
func declaresTwice(n *api.Node) bool {
	seen := map[string]bool{}
	for i := range n.Num {
		name := n.Subs[i].Text
		if seen[name] {
			return true
		}
		seen[name] = true
	}
	return false
}
