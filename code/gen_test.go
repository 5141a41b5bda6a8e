package code_test

import (
	"math/rand"
	"slices"
	"strings"
	"testing"

	"proteus/api"
	"proteus/code"
	"proteus/parse"
)

// P4.1, D5: the rows of the section Examples

func TestGenExamples(t *testing.T) {
	blk := func(outer int, lits []api.Val, instrs ...api.Instr) api.Code {
		return api.Code{Name: "value", Block: true, Outer: outer, Lits: lits, Instrs: instrs}
	}
	leave, imp0 := api.Instr{Op: api.OpLeave}, api.Instr{Op: api.OpImp}
	for text, want := range map[string][]api.Code{
		"":       {piece(nil, nil, opSelf, opRet)},
		"self":   {piece(nil, nil, opSelf, opRet)},
		"3":      {piece([]api.Val{whole(3)}, nil, opConst, opRet)},
		"^ 3":    {piece([]api.Val{whole(3)}, nil, opConst, opRet)},
		"3. x":   {piece([]api.Val{whole(3)}, []string{"x"}, opConst, opPop, imp0, opRet)},
		"3. 3":   {piece([]api.Val{whole(3)}, nil, opConst, opPop, opConst, opRet)},
		"3. '3'": {piece([]api.Val{whole(3), quoted("3")}, nil, opConst, opPop, api.Instr{Op: api.OpConst, A: 1}, opRet)},
		"[ ]":    {piece(nil, nil, api.Instr{Op: api.OpBlock, A: 1}, opRet), blk(0, []api.Val{null}, opConst, opRet)},
		"^ self at: 1 Put: [ ^ 2 ]": {
			piece([]api.Val{whole(1)}, []string{"at:Put:"}, opSelf, opConst, api.Instr{Op: api.OpBlock, A: 1}, api.Instr{Op: api.OpSend, B: 2}, opRet),
			blk(0, []api.Val{whole(2)}, opConst, leave),
		},
		"x _IntAdd: 1 IfFail: [ ]": {
			piece([]api.Val{whole(1)}, []string{"x", "_IntAdd:"}, imp0, opConst, api.Instr{Op: api.OpBlock, A: 1}, api.Instr{Op: api.OpPrim, A: 1, B: 1, C: 1}, opRet),
			blk(0, []api.Val{null}, opConst, opRet),
		},
		"[ [ ^ self ] ]. [ 4 ]": {
			piece(nil, nil, api.Instr{Op: api.OpBlock, A: 1}, opPop, api.Instr{Op: api.OpBlock, A: 3}, opRet),
			blk(0, nil, api.Instr{Op: api.OpBlock, A: 2}, opRet), blk(1, nil, opSelf, leave), blk(0, []api.Val{whole(4)}, opConst, opRet),
		},
		"resend.x. p.x: x. x.x":     {piece(nil, []string{"x", "x:", "p"}, api.Instr{Op: api.OpResend}, opPop, imp0, api.Instr{Op: api.OpResend, A: 1, B: 1, C: 3}, opPop, api.Instr{Op: api.OpResend, C: 1}, opRet)},
		"| a. b <- 7. c <- 'a' | a": {{Name: "m", Outer: -1, Names: []string{"a", "b", "c"}, Init: []api.Val{null, whole(7), quoted("a")}, Sels: []string{"a"}, Instrs: []api.Instr{imp0, opRet}}},
		"[ | :a. b | b ]": {
			piece(nil, nil, api.Instr{Op: api.OpBlock, A: 1}, opRet),
			{Name: "value:", Block: true, Outer: 0, Args: 1, Names: []string{"a", "b"}, Init: []api.Val{null}, Sels: []string{"b"}, Instrs: []api.Instr{imp0, opRet}},
		},
	} {
		if l := made(t, bodyOf(t, text), "m"); !equal(l, want) {
			t.Errorf("%q:\n%s\nnot\n%s", text, brief(l), brief(want))
		}
	}
}

// What a method's arguments and its name are, and what NValues mean.
func TestGenNamesAndValues(t *testing.T) {
	for text, args := range map[string][]string{"x = ( )": nil, "+ a = ( )": {"a"}, "at: i Put: v = ( v )": {"i", "v"}, "at: i = ( | v <- 3 | v )": {"i"}} {
		name, n := methodOf(t, text)
		c := made(t, n, name)[0]
		if c.Name != name || c.Block || c.Outer != -1 || c.Args != len(args) || !slices.Equal(c.Names[:c.Args], args) || len(c.Init) != len(c.Names)-c.Args {
			t.Errorf("%q: %s", text, brief(c))
		}
	}
	vals := someValues()
	n := method(2, variable("a", value(2)), variable("b", value(9)), value(0), num("3"), value(15), value(10), value(6), str("a"), ret(value(13)))
	want := []api.Code{{
		Name: "m", Outer: -1, Names: []string{"a", "b"}, Init: []api.Val{whole(-3), null}, Lits: []api.Val{whole(3), ref(11), quoted("a")},
		Instrs: []api.Instr{opConst, opPop, opConst, opPop, {Op: 1, A: 1}, opPop, {Op: 1, A: 1}, opPop, {Op: 1, A: 2}, opPop, {Op: 1, A: 2}, opPop, {Op: 1, A: 2}, opRet},
	}}
	if l := made(t, n, "m", vals...); !equal(l, want) {
		t.Errorf("%s\nnot\n%s", brief(l), brief(want))
	}
}

// P4.3; P4.1, D5: with every base it is the same code, with other indices.
func TestGenOfGrownTrees(t *testing.T) {
	r := source()
	refused, blocks := 0, 0
	for i := range 2000 {
		name, n, vals := grown(r, 1+r.Intn(10+i/2))
		want := codeOf(n, name, vals)
		base := oneOf(r, []int{0, 0, 1, 5, 700, 790, 799, 800})
		l, errno := code.Gen(n, name, vals, base)
		if len(want)+base > 800 || !isRight(want) {
			refused++
			if errno != api.ErrLimit || len(l) > 0 {
				t.Fatalf("Gen of %s from %d on: %v", brief(n), base, errno)
			}
			continue
		}
		blocks += len(want) - 1
		for i := range want {
			if want[i].Block {
				want[i].Outer += base
			}
			for j := range want[i].Instrs {
				if want[i].Instrs[j].Op == api.OpBlock {
					want[i].Instrs[j].A += base
				}
			}
		}
		if errno != api.OK || !equal(l, want) {
			t.Fatalf("Gen of %s from %d on: %v,\n%s\nnot\n%s", brief(n), base, errno, brief(l), brief(want))
		}
		joined(t, r, l, base)
	}
	if refused < 100 || refused > 1500 || blocks < 5000 {
		t.Errorf("%d are refused, %d blocks are made", refused, blocks)
	}
}

// joined fails unless pieces that stand from an index on are right, joined to as many as that.
func joined(t *testing.T, r *rand.Rand, l []api.Code, base int) {
	t.Helper()
	ahead := slices.Repeat([]api.Code{piece(nil, nil, opSelf, opRet)}, base)
	if all, errno := code.Join(ahead, l); errno != api.OK || !isRight(all) || !equal(all[base:], l) || !equal(all[:base], ahead) {
		t.Fatalf("Join of %d and\n%s\n%v", base, brief(l), errno)
	}
	if other := base + 1 - 2*r.Intn(2); len(l) > 1 && other >= 0 && other+len(l) <= 800 {
		ahead = slices.Repeat([]api.Code{piece(nil, nil, opSelf, opRet)}, other)
		if all, errno := code.Join(ahead, l); errno != api.ErrCode || len(all) > 0 {
			t.Fatalf("Join of %d, not %d, and\n%s\n%v", other, base, brief(l), errno)
		}
	}
}

// P4.9
func TestSizesOfExpressions(t *testing.T) {
	r := source()
	count := 0
	for count < 3000 {
		g := &grower{r, someValues(), 1 + r.Intn(40), 0}
		n := g.expression()
		l, errno := code.Gen(method(0, n), "m", g.vals, 0)
		if errno != api.OK {
			continue
		}
		count++
		nodes := parse.Size(n)
		for _, b := range outerBlocks(&n) {
			nodes -= parse.Size(*b) - 1
		}
		if len(l[0].Instrs) != nodes+1 {
			t.Fatalf("%s has %d nodes, and the code\n%s", brief(n), nodes, brief(l))
		}
	}
}

// outerBlocks returns the NBlocks of a tree that are not within others.
func outerBlocks(n *api.Node) []*api.Node {
	if n.Kind == api.NBlock {
		return []*api.Node{n}
	}
	var l []*api.Node
	for i := range n.Subs {
		l = append(l, outerBlocks(&n.Subs[i])...)
	}
	return l
}

func TestGenErrors(t *testing.T) {
	a, path := imp("a"), variable("v", imp("a"))
	plain := method(0, a)
	long := method(0, times(201, a)...)
	deep := a
	for range 200 {
		deep = send("a", deep)
	}
	vals, odd := []api.Val{whole(3)}, []api.Val{whole(3), {}}
	for _, x := range []struct {
		why  string
		n    api.Node
		name string
		vals []api.Val
		base int
		want api.Errno
	}{
		{"all is right", plain, "m", vals, 0, api.OK},
		{"a tree of no kind", api.Node{}, "M", odd, -1, api.ErrTree},
		{"an expression", a, "M", odd, -1, api.ErrTree},
		{"a block", block(0, a), "m", vals, 0, api.ErrTree},
		{"an object", object(), "m", vals, 0, api.ErrTree},
		{"a slot", variable("x"), "m", vals, 0, api.ErrTree},
		{"a tree that is not well-formed", method(0, send("a")), "m", vals, 0, api.ErrTree},
		{"a return ahead of a statement", method(0, ret(a), a), "m", vals, 0, api.ErrTree},
		{"a tree too deep", method(0, deep), "M", odd, -1, api.ErrTree},
		{"a tree too large", method(0, times(12000, a)...), "m", vals, 0, api.ErrTree},
		{"more variables than there may be", method(41, slots(41)...), "m", vals, 0, api.ErrTree},
		{"no selector", plain, "M", vals, 0, api.ErrArg},
		{"no name", plain, "", vals, 0, api.ErrArg},
		{"a primitive selector", plain, "_M", vals, 0, api.ErrArg},
		{"a selector with arguments", plain, "m:", vals, 0, api.ErrArg},
		{"a selector with less arguments", method(1, arg("x")), "m", vals, 0, api.ErrArg},
		{"a primitive selector with arguments", method(1, arg("x")), "_M:", vals, 0, api.ErrArg},
		{"a selector with as many as there are variables", method(2, arg("x"), variable("y")), "m:N:", vals, 0, api.ErrArg},
		{"a value that is none, and not meant", plain, "m", odd, 0, api.ErrArg},
		{"a method as a value", plain, "m", []api.Val{{K: api.VMeth, N: 1}}, 0, api.ErrArg},
		{"a base below 0", plain, "m", vals, -1, api.ErrArg},
		{"a base beyond 800", plain, "m", vals, 801, api.ErrArg},
		{"a base far away", plain, "m", vals, 1<<63 - 1, api.ErrArg},
		{"a base of 800", plain, "m", vals, 800, api.ErrLimit},
		{"a base of 799", plain, "m", vals, 799, api.OK},
		{"a base of 799 and a block", method(0, block(0)), "m", vals, 799, api.ErrLimit},
		{"a base of 798 and a block", method(0, block(0)), "m", vals, 798, api.OK},
		{"an object as a statement", method(0, object()), "m", vals, 0, api.ErrPlace},
		{"an object deep within", method(0, block(0, send("+", a, block(0, prim("_A", object()))))), "m", vals, 0, api.ErrPlace},
		{"an object at first", method(1, variable("x", object())), "m", vals, 0, api.ErrPlace},
		{"a path", method(1, path), "m", vals, 0, api.ErrPlace},
		{"a longer path", method(1, variable("x", send("b", a))), "m", vals, 0, api.ErrPlace},
		{"a path in a block", method(0, block(1, path)), "m", vals, 0, api.ErrPlace},
		{"two equal variables", method(2, variable("x"), variable("x")), "m", vals, 0, api.ErrPlace},
		{"two equal arguments", method(2, arg("x"), arg("x")), "m:N:", vals, 0, api.ErrPlace},
		{"an argument and a variable", method(2, arg("x"), variable("x")), "m:", vals, 0, api.ErrPlace},
		{"equal names in a block", method(0, block(3, arg("x"), variable("y"), variable("x"))), "m", vals, 0, api.ErrPlace},
		{"equal names in two scopes", method(1, variable("x"), block(1, variable("x"), block(1, arg("x")))), "m", vals, 0, api.OK},
		{"no such value", method(0, value(1)), "m", vals, 0, api.ErrPlace},
		{"no value at all", method(0, value(0)), "m", nil, 0, api.ErrPlace},
		{"no such value at first", method(1, variable("x", value(1))), "m", vals, 0, api.ErrPlace},
		{"no such value in a block", method(0, block(0, ret(value(1<<40)))), "m", vals, 0, api.ErrPlace},
		{"the last value", method(0, value(0)), "m", vals, 0, api.OK},
		{"too long", long, "m", vals, 0, api.ErrLimit},
		{"too long, and a wrong place behind", method(0, append(times(201, a), object())...), "m", vals, 0, api.ErrPlace},
		{"too long, and a wrong place in a block", method(0, append(times(201, a), block(1, path))...), "m", vals, 0, api.ErrPlace},
		{"a wrong name, and a wrong place", method(0, object()), "M", vals, 0, api.ErrArg},
		{"a wrong value, and a wrong place", method(0, object()), "m", odd, 0, api.ErrArg},
		{"a wrong base, and a wrong place", method(0, object()), "m", vals, -1, api.ErrArg},
		{"a wrong base, and too long", long, "m", vals, 801, api.ErrArg},
		{"a base too large, and a wrong place", method(0, object()), "m", vals, 800, api.ErrPlace},
	} {
		l, errno := code.Gen(x.n, x.name, x.vals, x.base)
		if errno != x.want || (errno == api.OK) != (len(l) > 0) {
			t.Errorf("%s: %v, %s", x.why, errno, brief(l))
		}
	}
}

// slots returns so many variables with different names.
func slots(count int) []api.Node {
	var l []api.Node
	for _, name := range names(count) {
		l = append(l, variable(name))
	}
	return l
}

// Each limit of what has code, and one more.
func TestGenLimits(t *testing.T) {
	a := imp("a")
	high := func(n int) api.Node {
		sum := a
		for range n - 1 {
			sum = send("+", a, sum)
		}
		return method(0, sum)
	}
	within := func(n int) api.Node {
		b := block(0, a)
		for range n - 1 {
			b = block(0, b)
		}
		return method(0, b)
	}
	// rows returns a method with blocks of which each has 100 blocks, and as many pieces as told, without it.
	rows := func(pieces int) api.Node {
		var l []api.Node
		for pieces > 0 {
			n := min(pieces, 101)
			l = append(l, block(0, times(n-1, block(0))...))
			pieces -= n
		}
		return method(0, l...)
	}
	for _, x := range []struct {
		why       string
		most, one api.Node
	}{
		{"instructions", method(0, times(200, a)...), method(0, times(201, a)...)},
		{"one instruction more", method(0, append(times(199, a), a)...), method(0, append(times(199, a), send("b", a))...)},
		{"instructions of a block", method(0, block(0, times(200, a)...)), method(0, block(0, times(201, a)...))},
		{"the stack", high(100), high(101)},
		{"blocks", within(20), within(21)},
		{"pieces", rows(799), rows(800)},
		{"a string", method(0, str(strings.Repeat("x", 20000))), method(0, str(strings.Repeat("x", 20001)))},
		{"a string at first", method(1, variable("x", str(strings.Repeat("x", 20000)))), method(1, variable("x", str(strings.Repeat("x", 20001))))},
	} {
		l, errno := code.Gen(x.most, "m", nil, 0)
		if errno != api.OK || !equal(l, codeOf(x.most, "m", nil)) {
			t.Errorf("%s: %v at the limit", x.why, errno)
		}
		if parse.Check(x.one) != api.OK {
			t.Fatalf("%s: the tree beyond the limit is not valid", x.why)
		}
		if l, errno := code.Gen(x.one, "m", nil, 0); errno != api.ErrLimit || len(l) > 0 {
			t.Errorf("%s: %v beyond the limit", x.why, errno)
		}
	}
	eight := method(40, append(times(0, a), append(args(8), slots(32)...)...)...)
	if c := made(t, eight, keywords(8))[0]; c.Args != 8 || len(c.Names) != 40 {
		t.Errorf("8 arguments and 32 variables: %s", brief(c))
	}
	if l := made(t, method(0, block(8, args(8)...)), "m"); l[1].Name != blockNames[8] || l[1].Args != 8 {
		t.Errorf("a block with 8 arguments: %s", brief(l))
	}
}

func args(count int) []api.Node {
	var l []api.Node
	for i := range count {
		l = append(l, arg("a"+string(rune('a'+i))))
	}
	return l
}
