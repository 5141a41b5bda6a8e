package code_test

import (
	"reflect"
	"slices"
	"strings"
	"testing"

	"proteus/api"
	"proteus/code"
	"proteus/parse"
)

// result is what a function returned beside its error.
type result struct {
	all   []any
	errno api.Errno
}

// functions are those with pieces of code and the index of one of them.
func functions() map[string]func(l []api.Code, at int) result {
	return map[string]func(l []api.Code, at int) result{
		"Tree":    func(l []api.Code, at int) result { n, v, e := code.Tree(l, at); return result{[]any{n, v}, e} },
		"Unit":    func(l []api.Code, at int) result { u, e := code.Unit(l, at); return result{[]any{u}, e} },
		"Take":    func(l []api.Code, at int) result { m, e := code.Take(l, at, 0); return result{[]any{m}, e} },
		"Take -1": func(l []api.Code, at int) result { m, e := code.Take(l, at, -1); return result{[]any{m}, e} },
		"Heights": func(l []api.Code, at int) result { h, e := code.Heights(l, at); return result{[]any{h}, e} },
		"Depth":   func(l []api.Code, at int) result { d, e := code.Depth(l, at); return result{[]any{d}, e} },
		"Owner":   func(l []api.Code, at int) result { o, i, e := code.Owner(l, at); return result{[]any{o, i}, e} },
	}
}

// isZero reports whether all of a result is empty, or 0.
func (x result) isZero() bool {
	for _, v := range x.all {
		r := reflect.ValueOf(v)
		if !r.IsZero() && !(r.Kind() == reflect.Slice && r.Len() == 0) {
			return false
		}
	}
	return true
}

// P4.1: the errors, in their order, and nothing beside them.
func TestErrorsOfPieces(t *testing.T) {
	plain := piece(nil, nil, opSelf, opRet)
	right := ofText(t, "x = ( [ 1 ] )", "y = ( 2 )")
	var wrong [][]api.Code
	r := source()
	for len(wrong) < 300 {
		if m := change(r, clone(right)); len(m) > 0 && !isRight(m) {
			wrong = append(wrong, m)
		}
	}
	for name, f := range functions() {
		for _, at := range []int{-1 << 63, -1, 0, 1, 2, 3, 4, 800, 801, 1 << 40, 1<<63 - 1} {
			for _, c := range []api.Code{plain, {}} {
				if x := f(slices.Repeat([]api.Code{c}, 801), at); x.errno != api.ErrLimit || !x.isZero() {
					t.Errorf("%s of 801 pieces: %v", name, x)
				}
			}
			for _, l := range wrong {
				if x := f(l, at); x.errno != api.ErrCode || !x.isZero() {
					t.Errorf("%s of %d of\n%s\n%v", name, at, brief(l), x)
				}
			}
			want := api.OK
			switch {
			case at < 0 || at > 2:
				want = api.ErrNone
			case name == "Take -1", at == 1 && (name == "Tree" || name == "Take"), at != 1 && name == "Owner":
				want = api.ErrArg
			}
			if x := f(right, at); x.errno != want || want != api.OK && !x.isZero() {
				t.Errorf("%s of %d: %v, not %v", name, at, x, want)
			}
			if x := f(nil, at); x.errno != api.ErrNone || !x.isZero() {
				t.Errorf("%s of %d of no pieces: %v", name, at, x)
			}
		}
	}
	for _, c := range []api.Code{plain, {}} {
		if b, errno := code.Encode(slices.Repeat([]api.Code{c}, 801)); errno != api.ErrLimit || len(b) > 0 {
			t.Errorf("Encode of 801 pieces: %v", errno)
		}
	}
	for _, l := range wrong {
		if b, errno := code.Encode(l); errno != api.ErrCode || len(b) > 0 {
			t.Errorf("Encode of\n%s\n%v", brief(l), errno)
		}
	}
}

// R1: whatever the pieces, the trees and the values are, functions end.
func TestAnyArguments(t *testing.T) {
	r := source()
	for l := range programs(t, 100) {
		for range 50 {
			m := clone(l)
			for range 1 + r.Intn(8) {
				if len(m) > 0 {
					m = change(r, m)
				}
			}
			at := number(r, r.Intn(4))
			ok := code.Check(m) == api.OK
			for name, f := range functions() {
				if x := f(m, at); !ok && x.errno != api.ErrCode || x.errno != api.OK && !x.isZero() {
					t.Fatalf("%s of %d of\n%s\n%v", name, at, brief(m), x)
				}
			}
			code.Join(m, l)
			code.Join(l, m)
			code.Same(l, m)
			code.Encode(m)
		}
		n := api.Node{Kind: r.Intn(16) - 1, Text: oneOf(r, nastyTexts), Num: oneOf(r, nasty)}
		for range r.Intn(6) {
			n = api.Node{Kind: r.Intn(15), Text: oneOf(r, nastyTexts), Num: r.Intn(3), Subs: slices.Repeat([]api.Node{n}, r.Intn(3))}
		}
		if l, errno := code.Gen(n, oneOf(r, nastyTexts), nastyValues, oneOf(r, nasty)); errno == api.OK || len(l) > 0 {
			t.Fatalf("Gen of %s: %v", brief(n), errno)
		}
	}
	odd := api.Code{Name: strings.Repeat("x", 1<<20), Block: true, Outer: 1 << 62, Args: -1 << 63, Names: slices.Repeat([]string{"x"}, 1<<16), Init: make([]api.Val, 1<<16), Lits: make([]api.Val, 1<<16), Sels: slices.Repeat([]string{strings.Repeat("a:", 1<<10)}, 1<<16), Instrs: slices.Repeat([]api.Instr{{Op: 1 << 62, A: -1 << 63, B: 1<<63 - 1, C: -1}}, 1<<16)}
	if errno := code.Check(slices.Repeat([]api.Code{odd}, 800)); errno != api.ErrCode {
		t.Errorf("Check of odd pieces: %v", errno)
	}
	deep := api.Node{Kind: api.NSelf}
	for range 1 << 16 {
		deep = api.Node{Kind: api.NSend, Text: "x", Subs: []api.Node{deep}}
	}
	if _, errno := code.Gen(method(0, deep), "m", nil, 0); errno != api.ErrTree {
		t.Errorf("Gen of a deep tree: %v", errno)
	}
}

// R7: no argument is changed, and no memory is shared.
func TestMemory(t *testing.T) {
	n := method(3, arg("a"), variable("b", value(0)), variable("c"), num("3"), block(1, arg("d"), str("x"), imp("p:", value(1))), send("+", self(), resend("p.q")), block(0))
	vals := []api.Val{ref(7), whole(-4)}
	tree, means := cloneTree(n), slices.Clone(vals)
	l, errno := code.Gen(n, "m:", vals, 0)
	if errno != api.OK {
		t.Fatal(errno)
	}
	want := clone(l)
	taken, _ := code.Take(l, 0, 0)
	joined, _ := code.Join(l, nil)
	behind, _ := code.Join(nil, l)
	restored, values, _ := code.Tree(l, 0)
	b, _ := code.Encode(l)
	decoded, _ := code.Decode(b)
	lists := [][]api.Code{taken, joined, behind, decoded, l}
	for i, m := range lists {
		if !equal(m, want) {
			t.Fatalf("list %d:\n%s", i, brief(m))
		}
		spoil(m)
		for j, other := range lists[i+1:] {
			if !equal(other, want) {
				t.Errorf("lists %d and %d share memory", i, i+1+j)
			}
		}
	}
	if !parse.Same(n, tree) || !slices.Equal(vals, means) {
		t.Error("the tree or the values of Gen have changed")
	}
	again, errno := code.Gen(restored, "m:", values, 0)
	if errno != api.OK || !equal(again, want) {
		t.Error("the tree of Tree has changed")
	}
	whole := cloneTree(restored)
	spoilTree(&restored)
	spoilTree(&whole)
	if !parse.Same(restored, whole) {
		t.Error("nodes of one tree share memory")
	}
	if !equal(again, want) {
		t.Error("Gen shares memory with its tree")
	}
	unit, _ := code.Unit(want, 0)
	heights, _ := code.Heights(want, 0)
	copied := clone(want)
	for _, x := range [][]int{unit, heights} {
		for i := range x {
			x[i] = -7
		}
	}
	if !equal(want, copied) {
		t.Error("Unit or Heights share memory with the pieces")
	}
}

// spoil changes everything in pieces of code, what their lists could still take up, too; a list that shared memory with another one of them would be changed twice.
func spoil(l []api.Code) {
	for i := range l {
		c := &l[i]
		spoilList(c.Names, func(s *string) { *s += "!" })
		spoilList(c.Sels, func(s *string) { *s += "!" })
		spoilList(c.Init, func(v *api.Val) { v.N += 1000 })
		spoilList(c.Lits, func(v *api.Val) { v.N += 1000 })
		spoilList(c.Instrs, func(x *api.Instr) { x.A += 1000 })
	}
	for i := range l {
		for _, x := range l[i].Instrs {
			if x.A < 1000 || x.A >= 2000 {
				panic("two lists of a result share memory")
			}
		}
	}
}

func spoilList[T any](l []T, change func(x *T)) {
	for i := range l {
		change(&l[i])
	}
	clear(l[len(l):cap(l)])
}

func spoilTree(n *api.Node) {
	n.Text, n.Num = n.Text+"!", n.Num+1
	for i := range n.Subs {
		spoilTree(&n.Subs[i])
	}
	clear(n.Subs[len(n.Subs):cap(n.Subs)])
}
