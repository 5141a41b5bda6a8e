package parse

import (
	"iter"

	"proteus/api"
)

// siblings are nodes that follow each other, with the number of nodes on the way to each of them.
type siblings struct {
	list  []api.Node
	depth int
}

// nodes yields the nodes of a tree, each ahead of its Subs, with the number of nodes on the way to it. It keeps a list of its own of what is left, as an arbitrary tree may be too deep for calls within calls.
func nodes(root *api.Node) iter.Seq2[*api.Node, int] {
	return func(yield func(n *api.Node, depth int) bool) {
		left := []siblings{{[]api.Node{*root}, 1}}
		for len(left) > 0 {
			last := len(left) - 1
			n, depth := &left[last].list[0], left[last].depth
			left[last].list = left[last].list[1:]
			if len(left[last].list) == 0 {
				left = left[:last]
			}
			if !yield(n, depth) {
				return
			}
			if len(n.Subs) > 0 {
				left = append(left, siblings{n.Subs, depth + 1})
			}
		}
	}
}

// measure returns the size and the depth of a tree.
func measure(root *api.Node) (int, int) {
	size, deepest := 0, 0
	for _, depth := range nodes(root) {
		size++
		deepest = max(deepest, depth)
	}
	return size, deepest
}

func tooLarge(root *api.Node) bool {
	size, depth := measure(root)
	return size > api.MaxNodes || depth > api.MaxDepth
}

func sameNode(a, b *api.Node) bool {
	return a.Kind == b.Kind && a.Text == b.Text && a.Num == b.Num && len(a.Subs) == len(b.Subs)
}

// same reports whether two trees are equal, without calls within calls, as nodes does.
func same(a, b *api.Node) bool {
	type pair struct{ a, b *api.Node }
	left := []pair{{a, b}}
	for len(left) > 0 {
		p := left[len(left)-1]
		left = left[:len(left)-1]
		if !sameNode(p.a, p.b) {
			return false
		}
		for i := range p.a.Subs {
			left = append(left, pair{&p.a.Subs[i], &p.b.Subs[i]})
		}
	}
	return true
}

// copied returns a valid tree in new memory.
func copied(n *api.Node) api.Node {
	m := api.Node{Kind: n.Kind, Text: n.Text, Num: n.Num}
	for i := range n.Subs {
		m.Subs = append(m.Subs, copied(&n.Subs[i]))
	}
	return m
}
