package load_test

import (
	"slices"

	"proteus/api"
	"proteus/big"
	"proteus/code"
	"proteus/look"
	"proteus/parse"
	"proteus/world"
)

// A second way to what the chapter says. Worlds grow by the functions of package world, one object at a time; what is replaced in a method is first found by its paths in the tree, then made, then put there. Names are the least ways, by relaxation. The nodes of a tree come one by one, as a list with depths, that ends where there is an error.

// ended is the error by which making ends, and the name that it tells.
type ended struct {
	errno api.Errno
	name  string
}

// find returns an object that is there.
func find(w api.World, oid int) *api.Obj {
	return &w.Objs[slices.IndexFunc(w.Objs, func(o api.Obj) bool { return o.Oid == oid })]
}

// maker makes values in a world, one step at a time.
type maker struct{ w api.World }

// making returns what is made in a world, or how it ended.
func making(w api.World, do func(m *maker) api.Val) (v api.World, x api.Val, e ended) {
	defer func() {
		if f, ok := recover().(ended); ok {
			v, x, e = api.World{}, api.Val{}, f
		}
	}()
	m := &maker{w}
	x = do(m)
	return m.w, x, ended{}
}

func (m *maker) path(names []string) api.Val {
	v := ref(api.OLobby)
	for _, name := range names {
		f, errno := look.Look(m.w, v, name)
		if errno != api.OK {
			panic(errno)
		}
		if f.Kind != api.LOne || f.Set {
			panic(ended{api.ErrName, name})
		}
		v = find(m.w, f.Holder).Slots[f.Slot].V
		if v.K == api.VMeth {
			panic(ended{api.ErrName, name})
		}
	}
	return v
}

// pathNames returns the names of a path; none, if a tree is none.
func pathNames(n api.Node) []string {
	switch {
	case n.Kind == api.NImp && len(n.Subs) == 0:
		return []string{n.Text}
	case n.Kind == api.NSend && len(n.Subs) == 1:
		if l := pathNames(n.Subs[0]); l != nil {
			return append(l, n.Text)
		}
	}
	return nil
}

func (m *maker) value(n api.Node) api.Val {
	switch n.Kind {
	case api.NNum:
		v, _ := big.Of(n.Text)
		return v
	case api.NStr:
		if len(n.Text) > api.MaxText {
			panic(ended{errno: api.ErrLimit})
		}
		return quoted(n.Text)
	case api.NValue:
		panic(ended{errno: api.ErrPlace})
	case api.NObject:
		return m.object(n)
	}
	return m.path(pathNames(n))
}

func (m *maker) object(n api.Node) api.Val {
	var l []api.Slot
	for _, s := range n.Subs {
		l = append(l, m.slot(s))
	}
	w, oid, errno := world.Make(m.w, api.KPlain, l, nil)
	switch errno {
	case api.ErrArg:
		panic(ended{api.ErrTwice, repeated(l)})
	case api.ErrLimit:
		panic(ended{errno: errno})
	}
	m.w = w
	return ref(oid)
}

// repeated returns the name of the first slot that has that of one ahead of it.
func repeated(l []api.Slot) string {
	for i := range l {
		for j := range i {
			if l[i].Name == l[j].Name {
				return l[i].Name
			}
		}
	}
	return ""
}

func (m *maker) slot(n api.Node) api.Slot {
	s := slotOf(n.Text, n.Num, null)
	if len(n.Subs) > 0 {
		if n.Subs[0].Kind == api.NMethod {
			s.V = meth(m.method(n.Subs[0], n.Text))
		} else {
			s.V = m.value(n.Subs[0])
		}
	}
	return s
}

func (m *maker) add(oid int, n api.Node) {
	for _, x := range n.Subs {
		s := m.slot(x)
		l := append(slices.Clone(find(m.w, oid).Slots), s)
		if name := repeated(l); name != "" {
			panic(ended{api.ErrTwice, name})
		}
		if len(l) > api.MaxSlots {
			panic(ended{errno: api.ErrLimit})
		}
		m.w.Objs = slices.Clone(m.w.Objs)
		find(m.w, oid).Slots = l
	}
}

func (m *maker) method(n api.Node, name string) int {
	n = cloneTree(n)
	var vals []api.Val
	for i, p := range replaced(n, false) {
		at := &n
		for _, j := range p {
			at = &at.Subs[j]
		}
		vals = append(vals, m.value(*at))
		*at = meaning(i)
	}
	base := len(m.w.Codes)
	l, errno := code.Gen(n, name, vals, base)
	if errno != api.OK {
		panic(ended{errno: errno})
	}
	all, errno := code.Join(m.w.Codes, l)
	if errno != api.OK {
		panic(errno)
	}
	m.w.Codes = all
	return base
}

// replaced returns the paths of what has a value of its own in the tree of a method, a node ahead of its Subs.
func replaced(n api.Node, initial bool) [][]int {
	if n.Kind == api.NObject || n.Kind == api.NValue || initial && pathNames(n) != nil {
		return [][]int{{}}
	}
	var l [][]int
	for i, s := range n.Subs {
		for _, p := range replaced(s, n.Kind == api.NSlot) {
			l = append(l, append([]int{i}, p...))
		}
	}
	return l
}

// least are the indices of slots on the way to each object from the lobby: the shortest, and among these the least one. They are relaxed until they stay.
func least(w api.World) map[int][]int {
	best := map[int][]int{}
	for changed := true; changed; {
		changed = false
		for _, o := range w.Objs {
			from, ok := best[o.Oid]
			if o.Oid == api.OLobby {
				from, ok = nil, true
			}
			if !ok {
				continue
			}
			for i, s := range o.Slots {
				if s.V.K != api.VRef {
					continue
				}
				way := append(slices.Clone(from), i)
				if old, ok := best[s.V.N]; !ok || len(way) < len(old) || len(way) == len(old) && slices.Compare(way, old) < 0 {
					best[s.V.N] = way
					changed = true
				}
			}
		}
	}
	return best
}

// namesBy returns the names of the slots on such a way.
func namesBy(w api.World, way []int) []string {
	var l []string
	oid := api.OLobby
	for _, at := range way {
		s := find(w, oid).Slots[at]
		l, oid = append(l, s.Name), s.V.N
	}
	return l
}

// item is a node of a tree, and how deep it is; or the error that there is in its place.
type item struct {
	api.Node
	depth int
	errno api.Errno
}

// teller tells the nodes of a tree, one by one, as long as it is asked for more.
type teller struct {
	w     api.World
	least map[int][]int
	tell  func(x item) bool
	open  []int // the objects within which it is
}

// end is the panic of a teller that is asked for no more.
type end struct{}

// told returns the tree of an object, or the error that comes first.
func told(w api.World, oid int) (api.Node, api.Errno) {
	var l []item
	k := &teller{w: w, least: least(w), tell: func(x item) bool {
		if x.errno == api.OK && (len(l) == api.MaxNodes || x.depth > api.MaxDepth) {
			x.errno = api.ErrLimit
		}
		l = append(l, x)
		return x.errno == api.OK
	}}
	func() {
		defer func() {
			if x := recover(); x != nil && x != (end{}) {
				panic(x)
			}
		}()
		k.object(oid, 1)
	}()
	if errno := l[len(l)-1].errno; errno != api.OK {
		return api.Node{}, errno
	}
	n, _ := planted(l)
	return n, api.OK
}

// planted returns the tree of which a list tells the nodes, and the rest of the list.
func planted(l []item) (api.Node, []item) {
	n, rest := l[0].Node, l[1:]
	for len(rest) > 0 && rest[0].depth == l[0].depth+1 {
		var sub api.Node
		sub, rest = planted(rest)
		n.Subs = append(n.Subs, sub)
	}
	return n, rest
}

func (k *teller) say(depth, kind int, text string, num int) {
	if !k.tell(item{node(kind, text, num), depth, api.OK}) {
		panic(end{})
	}
}

func (k *teller) fail(errno api.Errno) {
	k.tell(item{errno: errno})
	panic(end{})
}

func (k *teller) object(oid, depth int) {
	o := find(k.w, oid)
	if o.Kind != api.KPlain || slices.Contains(k.open, oid) {
		k.fail(api.ErrName)
	}
	k.open = append(k.open, oid)
	k.say(depth, api.NObject, "", 0)
	for _, s := range o.Slots {
		k.say(depth+1, api.NSlot, s.Name, s.Kind)
		switch {
		case s.V.K == api.VMeth:
			k.method(s.V.N, depth+2)
		case s.Kind != api.SVar || s.V != null:
			k.value(s.V, depth+2)
		}
	}
	k.open = k.open[:len(k.open)-1]
}

func (k *teller) value(v api.Val, depth int) {
	text, errno := big.Text(v)
	way := k.least[v.N]
	switch {
	case v.K == api.VStr:
		k.say(depth, api.NStr, v.T, 0)
	case errno == api.OK:
		if parse.Check(num(text)) != api.OK {
			k.fail(api.ErrName)
		}
		k.say(depth, api.NNum, text, 0)
	case way != nil:
		l := namesBy(k.w, way)
		for i := len(l) - 1; i > 0; i-- {
			k.say(depth, api.NSend, l[i], 0)
			depth++
		}
		k.say(depth, api.NImp, l[0], 0)
	default:
		k.object(v.N, depth)
	}
}

func (k *teller) method(at, depth int) {
	n, vals, errno := code.Tree(k.w.Codes, at)
	if errno != api.OK {
		k.fail(errno)
	}
	unit, _ := code.Unit(k.w.Codes, at)
	k.part(n, vals, &unit, 0, false, depth)
}

// part tells the nodes of the tree of a method. The first of the pieces that are left is that of the next scope that comes; at is that of the scope around.
func (k *teller) part(n api.Node, vals []api.Val, left *[]int, at int, initial bool, depth int) {
	switch n.Kind {
	case api.NMethod, api.NBlock:
		at = (*left)[0]
		*left = (*left)[1:]
	case api.NValue:
		v := vals[n.Num]
		if initial {
			k.value(v, depth)
			return
		}
		if v.K != api.VRef || uses(k.w.Codes[at], v) > 1 {
			k.fail(api.ErrName)
		}
		k.object(v.N, depth)
		return
	}
	k.say(depth, n.Kind, n.Text, n.Num)
	for _, s := range n.Subs {
		k.part(s, vals, left, at, n.Kind == api.NSlot, depth+1)
	}
}

// uses returns how many instructions of a piece of code put down a value.
func uses(c api.Code, v api.Val) int {
	count := 0
	for _, i := range c.Instrs {
		if i.Op == api.OpConst && c.Lits[i.A] == v {
			count++
		}
	}
	return count
}
