package code_test

import (
	"slices"
	"strconv"
	"testing"

	"proteus/api"
	"proteus/code"
	"proteus/parse"
)

// restored returns what Tree makes of a piece of code, which must be a valid NMethod.
func restored(t testing.TB, l []api.Code, at int) (api.Node, []api.Val) {
	t.Helper()
	n, vals, errno := code.Tree(l, at)
	if errno != api.OK || n.Kind != api.NMethod || parse.Check(n) != api.OK {
		t.Fatalf("Tree of %d of\n%s\n%v, %s", at, brief(l), errno, brief(n))
	}
	return n, vals
}

// P4.2; P4.1, D6, D8
func TestThereAndBack(t *testing.T) {
	count := 0
	for l := range programs(t, 600) {
		for at, c := range l {
			if c.Block {
				continue
			}
			n, vals := restored(t, l, at)
			inOrder(t, n, vals)
			for _, base := range []int{0, 1, at, 800 - len(l), 800} {
				want, errno := code.Take(l, at, base)
				if errno != api.OK {
					t.Fatalf("Take of %d from %d on: %v", at, base, errno)
				}
				again, errno := code.Gen(n, c.Name, vals, base)
				if base+len(want) > 800 {
					if errno != api.ErrLimit {
						t.Fatalf("Gen of %d pieces from %d on: %v", len(want), base, errno)
					}
				} else if errno != api.OK || !equal(again, want) {
					t.Fatalf("%d of\n%s\nhas the tree %s, and this the code %v\n%s", at, brief(l), brief(n), errno, brief(again))
				}
			}
			count++
		}
	}
	if count < 1000 {
		t.Errorf("%d methods", count)
	}
}

// inOrder fails unless NValues mean just the values for which there is no other node, each by one number, in the order in which they stand.
func inOrder(t *testing.T, n api.Node, vals []api.Val) {
	t.Helper()
	next := 0
	var walk func(n api.Node)
	walk = func(n api.Node) {
		if n.Kind == api.NValue {
			if n.Num > next || n.Num >= len(vals) {
				t.Fatalf("NValue %d stands ahead of %d", n.Num, next)
			}
			next = max(next, n.Num+1)
		}
		for _, s := range n.Subs {
			walk(s)
		}
	}
	walk(n)
	if next != len(vals) {
		t.Fatalf("%d of %s are meant", next, brief(vals))
	}
	for i, v := range vals {
		if v.K == api.VStr || v.K == api.VInt && v.N >= 0 || v.K == api.VBig && v.T[0] != '-' || slices.Contains(vals[:i], v) {
			t.Fatalf("%s is one of %s", brief(v), brief(vals))
		}
	}
}

// normal returns a tree without what does not tell in its code, and its values, numbered as they stand.
func normal(n api.Node, vals []api.Val) (api.Node, []api.Val) {
	var met []api.Val
	var walk func(n api.Node) api.Node
	walk = func(n api.Node) api.Node {
		m := api.Node{Kind: n.Kind, Text: n.Text, Num: n.Num}
		if n.Kind == api.NValue {
			v := vals[n.Num]
			switch {
			case v.K == api.VStr:
				return str(v.T)
			case v.K == api.VInt && v.N >= 0:
				return num(strconv.Itoa(v.N))
			case v.K == api.VBig && v.T[0] != '-':
				return num(v.T)
			}
			if !slices.Contains(met, v) {
				met = append(met, v)
			}
			return value(slices.Index(met, v))
		}
		subs := n.Subs
		if n.Kind == api.NSlot && len(subs) == 1 && isNull(subs[0], vals) {
			subs = nil
		}
		if last := len(subs) - 1; n.Kind == api.NMethod && last >= n.Num && subs[last].Kind == api.NReturn {
			subs = append(slices.Clone(subs[:last]), subs[last].Subs[0])
		}
		if len(subs) == n.Num+1 {
			only := subs[n.Num]
			if n.Kind == api.NMethod && only.Kind == api.NSelf || n.Kind == api.NBlock && isNull(only, vals) {
				subs = subs[:n.Num]
			}
		}
		for _, s := range subs {
			m.Subs = append(m.Subs, walk(s))
		}
		return m
	}
	n = walk(n)
	return n, met
}

func isNull(n api.Node, vals []api.Val) bool { return n.Kind == api.NValue && vals[n.Num] == null }

// P4.4; P4.1, D6
func TestBackAndThere(t *testing.T) {
	r := source()
	count, same := 0, 0
	for i := range 3000 {
		name, n, vals := grown(r, 1+r.Intn(10+i/20))
		l, errno := code.Gen(n, name, vals, 0)
		if errno != api.OK {
			continue
		}
		count++
		m, mvals := restored(t, l, 0)
		want, wantVals := normal(n, vals)
		if !parse.Same(m, want) || !slices.Equal(mvals, wantVals) {
			t.Fatalf("%s\nis, by its code, %s, %s\nnot %s, %s", brief(n), brief(m), brief(mvals), brief(want), brief(wantVals))
		}
		if parse.Same(n, m) {
			same++
		}
		if again := made(t, m, name, mvals...); !equal(again, l) {
			t.Fatalf("%s\nhas the code\n%s\nand its tree\n%s", brief(n), brief(l), brief(again))
		}
	}
	if count < 2500 || same < 300 {
		t.Errorf("%d trees, %d are the same", count, same)
	}
}

// P4.1, D6: trees of texts, and of code that no text has.
func TestTreeExamples(t *testing.T) {
	for _, text := range []string{
		"", "3", "x", "3. x", "self at: 1 Put: [ ^ 2 ]", "x _IntAdd: 1 IfFail: [ ]", "| a. b <- 3 | a: b", "[ | :x. y <- 'it''s' | [ ^ x + y ]. self ]", "resend.size. p.at: 1. p.p. resend.+ 3", "self. self", "[ self ]", "[ ^ self ]",
		"a: 1 B: 'x' C: [ 1 ] D: 4. 99999999999999999999 _A _B: 1", "( ( a + b ) - c ) * d",
	} {
		want := bodyOf(t, text)
		n, vals := restored(t, made(t, want, "m"), 0)
		if !parse.Same(n, want) || len(vals) > 0 {
			t.Errorf("%q: %s, %s", text, brief(n), brief(vals))
		}
	}
	for _, x := range []struct {
		n, want     api.Node
		vals, means []api.Val
	}{
		{method(0, ret(self())), method(0), nil, nil},
		{method(0, self()), method(0), nil, nil},
		{method(1, variable("a"), self()), method(1, variable("a")), nil, nil},
		{method(0, ret(imp("x"))), method(0, imp("x")), nil, nil},
		{method(0, self(), ret(self())), method(0, self(), self()), nil, nil},
		{method(0, block(0, ret(self()))), method(0, block(0, ret(self()))), nil, nil},
		{method(0, value(0)), method(0, value(0)), []api.Val{null}, []api.Val{null}},
		{method(0, block(0, value(0))), method(0, block(0)), []api.Val{null}, nil},
		{method(0, block(0, ret(value(0)))), method(0, block(0, ret(value(0)))), []api.Val{null}, []api.Val{null}},
		{method(0, block(0, value(0), value(0))), method(0, block(0, value(0), value(0))), []api.Val{null}, []api.Val{null}},
		{method(0, block(0, value(0))), method(0, block(0, value(0))), []api.Val{ref(2)}, []api.Val{ref(2)}},
		{method(0, block(1, arg("a"), value(0))), method(0, block(1, arg("a"))), []api.Val{null}, nil},
		{method(0, value(1)), method(0, num("17")), []api.Val{null, whole(17)}, nil},
		{method(0, value(0)), method(0, num("0")), []api.Val{whole(0)}, nil},
		{method(0, value(0)), method(0, value(0)), []api.Val{whole(-1)}, []api.Val{whole(-1)}},
		{method(0, value(0)), method(0, str("a")), []api.Val{quoted("a")}, nil},
		{method(2, variable("a", value(0)), variable("b", value(1)), value(1), value(2), block(1, variable("c", value(3)), value(0), value(4))),
			method(2, variable("a"), variable("b", value(0)), value(0), num("7"), block(1, variable("c", value(1)), value(2), value(1))),
			[]api.Val{null, ref(20), whole(7), whole(-8), whole(-8), ref(20)}, []api.Val{ref(20), whole(-8), null}},
		{method(0, imp("+", self())), method(0, imp("+", self())), nil, nil},
	} {
		l := made(t, x.n, "m", x.vals...)
		if n, vals := restored(t, l, 0); !parse.Same(n, x.want) || !slices.Equal(vals, x.means) {
			t.Errorf("%s, %s: %s, %s", brief(x.n), brief(x.vals), brief(n), brief(vals))
		}
	}
}

// Trees that are as large, and as deep, as they may be, and larger ones.
func TestTreeLimits(t *testing.T) {
	a := imp("a")
	deep := a
	for range 198 {
		deep = send("a", deep)
	}
	// A row has 351 nodes, and stands in a block.
	row := times(39, imp("a:B:C:D:E:F:G:H:", times(8, a)...))
	large := method(0, times(34, block(0, row...))...)
	large.Subs = append(large.Subs, times(12000-parse.Size(large), a)...)
	// pair is in place of one instruction, with a node more.
	pair := []api.Instr{{Op: api.OpSelf}, opPop}
	for _, n := range []api.Node{method(0, deep), large} {
		if size, depth := parse.Size(n), parse.Depth(n); size != 12000 && depth != 200 {
			t.Fatalf("%d nodes, %d deep", size, depth)
		}
		l := made(t, n, "m")
		if m, _ := restored(t, l, 0); !parse.Same(m, n) {
			t.Errorf("the tree of %d nodes, %d deep, is another one", parse.Size(n), parse.Depth(n))
		}
		if n.Subs[0].Kind == api.NSend {
			at := len(l[0].Instrs) - 1
			l[0].Instrs = slices.Insert(l[0].Instrs, at, api.Instr{Op: api.OpSend})
		} else {
			l[0].Instrs = slices.Insert(l[0].Instrs, 0, pair...)
		}
		if m, vals, errno := code.Tree(l, 0); errno != api.ErrLimit || len(vals) > 0 || !parse.Same(m, api.Node{}) || code.Check(l) != api.OK {
			t.Errorf("one more: %v, %s", errno, brief(m))
		}
	}
}

// P4.6; P4.1, D10
func TestHeights(t *testing.T) {
	for text, want := range map[string][]int{"": {0, 1}, "x": {0, 1}, "3. x": {0, 1, 0, 1}, "^ self at: 1 Put: [ ^ 2 ]": {0, 1, 2, 3, 1}, "x _IntAdd: 1 IfFail: [ ]": {0, 1, 2, 3, 1}, "a + ( b + c )": {0, 1, 2, 3, 2, 1}, "a + b + c": {0, 1, 2, 1, 2, 1}, "resend.at: 1": {0, 1, 1}} {
		if l, errno := code.Heights(made(t, bodyOf(t, text), "m"), 0); errno != api.OK || !slices.Equal(l, want) {
			t.Errorf("%q: %v, %v", text, l, errno)
		}
	}
	r := source()
	for range 1500 {
		name, n, vals := grown(r, 1+r.Intn(100))
		l, errno := code.Gen(n, name, vals, 0)
		if errno != api.OK {
			continue
		}
		for at, s := range append([]*api.Node{&n}, blocksOf(&n)...) {
			hs, errno := code.Heights(l, at)
			if errno != api.OK || !slices.Equal(hs, heightsOf(*s)) {
				t.Fatalf("Heights of %s: %v, %v", brief(*s), hs, errno)
			}
			for i, x := range l[at].Instrs {
				takes, puts, _ := effect(l, at, x)
				behind := hs[i] - takes + puts
				if takes > hs[i] || behind > 100 || i+1 < len(hs) && hs[i+1] != behind || i == 0 && hs[i] != 0 || x.Op == api.OpPop && hs[i+1] != 0 {
					t.Fatalf("instruction %d of\n%s\n%v", i, brief(l[at:at+1]), hs)
				}
			}
		}
	}
}
