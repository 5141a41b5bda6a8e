package code_test

import (
	"math/rand"
	"slices"
	"strings"
	"testing"

	"proteus/api"
	"proteus/code"
)

// P4.1, D1

// judged fails unless Check says of pieces of code what the chapter does.
func judged(t *testing.T, l []api.Code) bool {
	t.Helper()
	want := api.ErrCode
	if len(l) > 800 {
		want = api.ErrLimit
	} else if isRight(l) {
		want = api.OK
	}
	if errno := code.Check(l); errno != want {
		t.Fatalf("Check is %v, not %v, of\n%s", errno, want, brief(l))
	}
	return want == api.OK
}

// nasty are numbers for all operands.
var nasty = []int{-1 << 63, -2, -1, 0, 1, 2, 3, 5, 40, 800, 1 << 40, 1<<63 - 1}

var nastyTexts = []string{"", "x", "y", "z", "self", "resend", "X", "size", "+", "=", "<-", "==", "at:", "at:Put:", "at:put:", "a:IfFail:", "_At:", "_At:Put:", "_Clone", "_clone", "value", "value:", "value:With:", "value:with:", "x ", "3", "'a'", "a.b", "\x00", "é"}

var nastyValues = []api.Val{{}, whole(3), whole(-3), null, ref(0), ref(-1), ref(1<<40 + 1), {K: api.VRef, N: 11, T: "x"}, {K: api.VMeth}, {K: 6}, {K: -1}, {K: api.VInt, T: "3"}, large("3"), large("9223372036854775808"), large("-0"), large("x"), {K: api.VBig, N: 1, T: "9223372036854775808"}, quoted("a"), quoted("\n"), quoted("\x7f"), quoted("é"), {K: api.VStr, N: 1, T: "a"}}

// list changes a list in one place, or in none, if it is empty.
func list[T any](r *rand.Rand, l []T, fresh T) []T {
	if len(l) == 0 {
		return append(l, fresh)
	}
	i := r.Intn(len(l))
	switch r.Intn(6) {
	case 0:
		return slices.Delete(l, i, i+1)
	case 1:
		return slices.Insert(l, i, fresh)
	case 2:
		l[i] = fresh
	case 3:
		return append(l, l[i])
	case 4:
		j := r.Intn(len(l))
		l[i], l[j] = l[j], l[i]
	case 5:
		return append(l, fresh)
	}
	return l
}

func number(r *rand.Rand, n int) int {
	if r.Intn(2) == 0 {
		return oneOf(r, nasty)
	}
	return n + r.Intn(3) - 1
}

func change(r *rand.Rand, l []api.Code) []api.Code {
	c := &l[r.Intn(len(l))]
	switch r.Intn(12) {
	case 0:
		c.Name = oneOf(r, nastyTexts)
	case 1:
		c.Block = !c.Block
	case 2:
		c.Outer = number(r, c.Outer)
	case 3:
		c.Args = number(r, c.Args)
	case 4:
		c.Names = list(r, c.Names, oneOf(r, nastyTexts))
	case 5:
		c.Init = list(r, c.Init, oneOf(r, nastyValues))
	case 6:
		c.Lits = list(r, c.Lits, oneOf(r, nastyValues))
	case 7:
		c.Sels = list(r, c.Sels, oneOf(r, nastyTexts))
	case 8:
		fresh := api.Instr{Op: r.Intn(12), A: r.Intn(3) * r.Intn(2), B: r.Intn(3) * r.Intn(2), C: r.Intn(3) * r.Intn(2)}
		c.Instrs = list(r, c.Instrs, fresh)
	case 9, 10:
		if len(c.Instrs) > 0 {
			i := &c.Instrs[r.Intn(len(c.Instrs))]
			p := oneOf(r, []*int{&i.Op, &i.A, &i.B, &i.C})
			*p = number(r, *p)
		}
	case 11:
		return list(r, l, clone(l[r.Intn(len(l)):][:1])[0])
	}
	return l
}

func TestCheckOfChangedCode(t *testing.T) {
	r := source()
	right, all := 0, 0
	for l := range programs(t, 400) {
		if !judged(t, l) {
			t.Fatalf("what Gen made is not right:\n%s", brief(l))
		}
		for range 100 {
			m := clone(l)
			for range 1 + r.Intn(2) {
				if len(m) > 0 {
					m = change(r, m)
				}
			}
			all++
			if judged(t, m) {
				right++
			}
		}
	}
	if right < all/50 || right > all/2 {
		t.Errorf("of %d changed lists %d are right", all, right)
	}
}

// All short rows of instructions ahead of an end, in a method and in a block.
func TestCheckOfShortCode(t *testing.T) {
	pool := []api.Instr{{Op: 1}, {Op: 1, A: 1}, {Op: 2}, {Op: 2, A: 1}, {Op: 3, B: 1}, {Op: 3, A: 1}, {Op: 4}, {Op: 4, B: 1}, {Op: 4, A: 1, B: 1}, {Op: 5}, {Op: 5, C: 1}, {Op: 5, C: 2}, {Op: 5, B: 1, C: 2}, {Op: 6}, {Op: 6, C: 1}, {Op: 7, A: 1}, {Op: 7, A: 2}, {Op: 8}, {Op: 9}, {Op: 10}, {}, {Op: 11}}
	tables := []api.Code{{}, {Lits: []api.Val{whole(3)}}, {Lits: []api.Val{whole(3), null}}, {Sels: []string{"x"}}, {Sels: []string{"+", "x"}}, {Sels: []string{"x", "+"}}, {Sels: []string{"_Clone"}}}
	leave, right := api.Instr{Op: api.OpLeave}, 0
	var rows func(l []api.Instr, left int)
	rows = func(l []api.Instr, left int) {
		for _, c := range tables {
			c.Name, c.Outer, c.Instrs = "m", -1, append(slices.Clone(l), opRet)
			block := c
			block.Name, block.Block, block.Outer, block.Instrs = "value", true, 0, append(slices.Clone(l), leave)
			empty := api.Code{Name: "value", Block: true, Lits: []api.Val{null}, Instrs: []api.Instr{{Op: 1}, {Op: 9}}}
			outer := api.Code{Name: "m", Outer: -1, Instrs: []api.Instr{{Op: 7, A: 1}, {Op: 9}}}
			for _, all := range [][]api.Code{{c}, {c, empty}, {outer, block}} {
				if judged(t, all) {
					right++
				}
			}
		}
		if left > 0 {
			for _, x := range pool {
				rows(append(slices.Clone(l), x), left-1)
			}
		}
	}
	rows(nil, 3)
	if right < 100 {
		t.Errorf("%d are right", right)
	}
}

// piece returns a method without variables.
func piece(lits []api.Val, sels []string, instrs ...api.Instr) api.Code {
	return api.Code{Name: "m", Outer: -1, Lits: lits, Sels: sels, Instrs: instrs}
}

var (
	opSelf, opPop, opRet = api.Instr{Op: api.OpSelf}, api.Instr{Op: api.OpPop}, api.Instr{Op: api.OpRet}
	opConst              = api.Instr{Op: api.OpConst}
)

// The points of the chapter, one by one.
func TestCheckPoints(t *testing.T) {
	plain := piece(nil, nil, opSelf, opRet)
	named := func(c api.Code, name string, args int, names ...string) api.Code {
		c.Name, c.Args, c.Names = name, args, names
		for range len(names) - args {
			c.Init = append(c.Init, null)
		}
		return c
	}
	for _, x := range []struct {
		why  string
		c    api.Code
		want api.Errno
	}{
		{"a method", plain, api.OK},
		{"nothing", api.Code{}, api.ErrCode},
		{"no end", piece(nil, nil, opSelf), api.ErrCode},
		{"two values at the end", piece(nil, nil, opSelf, opSelf, opRet), api.ErrCode},
		{"no value at the end", piece(nil, nil, opSelf, opPop, opRet), api.ErrCode},
		{"a value behind a statement", piece(nil, nil, opSelf, opSelf, opPop, opRet), api.ErrCode},
		{"an end within", piece(nil, nil, opSelf, opRet, opSelf, opRet), api.ErrCode},
		{"nothing to pop", piece(nil, nil, opPop, opSelf, opRet), api.ErrCode},
		{"OpLeave in a method", piece(nil, nil, opSelf, api.Instr{Op: api.OpLeave}), api.ErrCode},
		{"no receiver", piece(nil, []string{"x"}, api.Instr{Op: api.OpSend}, opRet), api.ErrCode},
		{"a send", piece(nil, []string{"x"}, opSelf, api.Instr{Op: api.OpSend}, opRet), api.OK},
		{"no argument", piece(nil, []string{"+"}, opSelf, api.Instr{Op: api.OpSend, B: 1}, opRet), api.ErrCode},
		{"another arity", piece(nil, []string{"x"}, opSelf, opSelf, api.Instr{Op: api.OpSend, B: 1}, opRet), api.ErrCode},
		{"no selector with the arity -1", piece(nil, []string{"X"}, opSelf, opSelf, api.Instr{Op: api.OpSend, B: -1}, opRet), api.ErrCode},
		{"no primitive with the arity -1", piece(nil, []string{"_x"}, opSelf, opSelf, api.Instr{Op: api.OpPrim, B: -1}, opRet), api.ErrCode},
		{"a primitive selector that is sent", piece(nil, []string{"_X"}, opSelf, api.Instr{Op: api.OpSend}, opRet), api.ErrCode},
		{"a selector as a primitive", piece(nil, []string{"x"}, opSelf, api.Instr{Op: api.OpPrim}, opRet), api.ErrCode},
		{"a primitive with 2 as C", piece(nil, []string{"_X"}, opSelf, opSelf, opSelf, api.Instr{Op: api.OpPrim, C: 2}, opRet), api.ErrCode},
		{"a primitive without a block", piece(nil, []string{"_X"}, opSelf, api.Instr{Op: api.OpPrim, C: 1}, opRet), api.ErrCode},
		{"a resend to the selector's own name", piece(nil, []string{"x"}, api.Instr{Op: api.OpResend, C: 1}, opRet), api.OK},
		{"a resend to an operator", piece(nil, []string{"x", "+"}, api.Instr{Op: api.OpResend, C: 2}, opRet), api.ErrCode},
		{"a resend to self", piece(nil, []string{"x", "self"}, api.Instr{Op: api.OpResend, C: 2}, opRet), api.ErrCode},
		{"a resend whose name comes first", piece(nil, []string{"p", "x"}, api.Instr{Op: api.OpResend, A: 1, C: 1}, opRet), api.ErrCode},
		{"a resend with -1 as C", piece(nil, []string{"x"}, api.Instr{Op: api.OpResend, C: -1}, opRet), api.ErrCode},
		{"a literal that is not used", piece([]api.Val{null}, nil, opSelf, opRet), api.ErrCode},
		{"a selector that is not used", piece(nil, []string{"x"}, opSelf, opRet), api.ErrCode},
		{"a literal twice", piece([]api.Val{null, null}, nil, opConst, opPop, api.Instr{Op: api.OpConst, A: 1}, opRet), api.ErrCode},
		{"literals in another order", piece([]api.Val{null, whole(3)}, nil, api.Instr{Op: api.OpConst, A: 1}, opPop, opConst, opRet), api.ErrCode},
		{"a literal that is a method", piece([]api.Val{{K: api.VMeth}}, nil, opConst, opRet), api.ErrCode},
		{"a block that is none", piece(nil, nil, api.Instr{Op: api.OpBlock}, opRet), api.ErrCode},
		{"an argument", named(plain, "at:", 1, "x"), api.OK},
		{"an argument and a variable", named(plain, "at:", 1, "x", "y"), api.OK},
		{"an argument too many", named(plain, "at:", 2, "x", "y"), api.ErrCode},
		{"a name twice", named(plain, "at:Put:", 2, "x", "x"), api.ErrCode},
		{"a variable self", named(plain, "x", 0, "self"), api.ErrCode},
		{"a primitive selector as a name", named(plain, "_X", 0), api.ErrCode},
		{"no selector as a name", named(plain, "X", -1), api.ErrCode},
		{"arguments that are no Names", api.Code{Name: "at:", Outer: -1, Args: 1, Instrs: plain.Instrs}, api.ErrCode},
		{"more arguments than Names, less values", api.Code{Name: "at:Put:", Outer: -1, Args: 2, Names: []string{"x"}, Instrs: plain.Instrs}, api.ErrCode},
		{"a variable without a value", api.Code{Name: "x", Outer: -1, Names: []string{"x"}, Instrs: plain.Instrs}, api.ErrCode},
		{"a value without a variable", api.Code{Name: "x", Outer: -1, Init: []api.Val{null}, Instrs: plain.Instrs}, api.ErrCode},
		{"an Outer of a method", api.Code{Name: "x", Outer: 0, Instrs: plain.Instrs}, api.ErrCode},
		{"another Outer of a method", api.Code{Name: "x", Outer: -2, Instrs: plain.Instrs}, api.ErrCode},
	} {
		if errno := code.Check([]api.Code{x.c}); errno != x.want {
			t.Errorf("%s: %v", x.why, errno)
		}
		judged(t, []api.Code{x.c})
	}
	if errno := code.Check(nil); errno != api.OK {
		t.Errorf("Check of no pieces: %v", errno)
	}
}

// Blocks: just one OpBlock of each, in the piece that is their Outer, which stands ahead of them.
func TestCheckBlocks(t *testing.T) {
	makes := func(blocks ...int) api.Code {
		c := piece(nil, nil)
		for _, at := range blocks {
			c.Instrs = append(c.Instrs, api.Instr{Op: api.OpBlock, A: at}, opPop)
		}
		c.Instrs = append(c.Instrs, opSelf, opRet)
		return c
	}
	within := func(outer int, c api.Code) api.Code {
		c.Name, c.Block, c.Outer = "value", true, outer
		return c
	}
	for _, x := range []struct {
		why  string
		l    []api.Code
		want api.Errno
	}{
		{"a block", []api.Code{makes(1), within(0, makes())}, api.OK},
		{"a block within a block", []api.Code{makes(1), within(0, makes(2)), within(1, makes())}, api.OK},
		{"two blocks", []api.Code{makes(2, 1), within(0, makes()), within(0, makes())}, api.OK},
		{"methods between", []api.Code{makes(2), makes(), within(0, makes(4)), makes(), within(2, makes())}, api.OK},
		{"a block that is made twice", []api.Code{makes(1, 1), within(0, makes())}, api.ErrCode},
		{"a block that is not made", []api.Code{makes(), within(0, makes())}, api.ErrCode},
		{"a block that another piece makes", []api.Code{makes(), makes(2), within(0, makes())}, api.ErrCode},
		{"a block that another piece makes, too", []api.Code{makes(2), makes(2), within(0, makes())}, api.ErrCode},
		{"a method that is made", []api.Code{makes(1), makes()}, api.ErrCode},
		{"a method that makes itself", []api.Code{makes(0)}, api.ErrCode},
		{"a block ahead of the piece around", []api.Code{within(1, makes()), makes(0)}, api.ErrCode},
		{"a block that makes itself", []api.Code{makes(), within(1, makes(1))}, api.ErrCode},
		{"blocks that make each other", []api.Code{makes(), within(2, makes(2)), within(1, makes(1))}, api.ErrCode},
		{"a block in nothing", []api.Code{within(-1, makes())}, api.ErrCode},
		{"a block beyond the last one", []api.Code{makes(1)}, api.ErrCode},
		{"a block with a name of its own", []api.Code{makes(1), func() api.Code { c := within(0, makes()); c.Name = "size"; return c }()}, api.ErrCode},
		{"a block with an argument too many", []api.Code{makes(1), func() api.Code { c := within(0, makes()); c.Args, c.Names = 1, []string{"x"}; return c }()}, api.ErrCode},
		{"a block with another one's name", []api.Code{makes(1), func() api.Code { c := within(0, makes()); c.Name = "value:"; return c }()}, api.ErrCode},
	} {
		if errno := code.Check(x.l); errno != x.want {
			t.Errorf("%s: %v", x.why, errno)
		}
		judged(t, x.l)
	}
}

// nested returns a method with so many blocks, one within the other.
func nested(blocks int) []api.Code {
	l := []api.Code{piece(nil, nil)}
	for i := range blocks {
		l[i].Instrs = []api.Instr{{Op: api.OpBlock, A: i + 1}, opRet}
		l = append(l, api.Code{Name: "value", Block: true, Outer: i})
	}
	l[blocks].Instrs = []api.Instr{opSelf, opRet}
	return l
}

// names returns so many different names.
func names(count int) []string {
	var l []string
	for i := range count {
		l = append(l, "v"+string(rune('a'+i/26))+string(rune('a'+i%26)))
	}
	return l
}

// keywords returns a selector with so many parts.
func keywords(args int) string { return "k:" + strings.Repeat("K:", args-1) }

// Each limit, and one more.
func TestCheckLimits(t *testing.T) {
	method := func(name string, args, all int) []api.Code {
		c := piece(nil, nil, opSelf, opRet)
		c.Name, c.Args, c.Names, c.Init = name, args, names(all), slices.Repeat([]api.Val{null}, max(all-args, 0))
		return []api.Code{c}
	}
	long := func(statements int, end ...api.Instr) []api.Code {
		return []api.Code{piece(nil, nil, append(slices.Repeat([]api.Instr{opSelf, opPop}, statements), end...)...)}
	}
	stack := func(height int) []api.Code {
		c := piece(nil, []string{"+"}, slices.Repeat([]api.Instr{opSelf}, height)...)
		c.Instrs = append(c.Instrs, slices.Repeat([]api.Instr{{Op: api.OpSend, B: 1}}, height-1)...)
		c.Instrs = append(c.Instrs, opRet)
		return []api.Code{c}
	}
	literal := func(v api.Val) []api.Code { return []api.Code{piece([]api.Val{v}, nil, opConst, opRet)} }
	initial := func(v api.Val) []api.Code {
		l := method("m", 0, 1)
		l[0].Init[0] = v
		return l
	}
	resent := func(sel, name string, args int) []api.Code {
		c := piece(nil, []string{sel, name}, append(slices.Repeat([]api.Instr{opSelf}, args), api.Instr{Op: api.OpResend, B: args, C: 2}, opRet)...)
		return []api.Code{c}
	}
	blockOf := func(args int) []api.Code {
		l := nested(1)
		l[1].Name, l[1].Args, l[1].Names = "value:"+strings.Repeat("With:", args-1), args, names(args)
		return l
	}
	part := strings.Repeat("a", 24)
	for _, x := range []struct {
		why       string
		most, one []api.Code
	}{
		{"blocks one within the other", nested(20), nested(21)},
		{"Names", method("m", 0, 40), method("m", 0, 41)},
		{"Names with arguments", method(keywords(8), 8, 40), method(keywords(8), 8, 41)},
		{"arguments", method(keywords(8), 8, 8), method(keywords(9), 9, 9)},
		{"arguments of a block", blockOf(8), blockOf(9)},
		{"instructions", long(199, opSelf, opRet), long(200, opSelf, opRet)},
		{"the stack", stack(100), stack(101)},
		{"the bytes of a string", literal(quoted(strings.Repeat("x", 20000))), literal(quoted(strings.Repeat("x", 20001)))},
		{"the bytes of an initial string", initial(quoted(strings.Repeat("x", 20000))), initial(quoted(strings.Repeat("x", 20001)))},
		{"the number of an object", literal(ref(1 << 40)), literal(ref(1<<40 + 1))},
		{"digits", literal(large("-" + strings.Repeat("9", 400))), literal(large(strings.Repeat("9", 401)))},
		{"the bytes of a name", resent("x", part, 0), resent("x", part+"a", 0)},
		{"the bytes of a selector", resent(part+":A"+part[1:]+":A"+part[1:]+":Abcd:", "x", 4), resent(part+":A"+part[1:]+":A"+part[1:]+":Abcde:", "x", 4)},
		{"the parts of a selector", resent(keywords(8), "x", 8), resent(keywords(9), "x", 9)},
	} {
		if errno := code.Check(x.most); errno != api.OK {
			t.Errorf("%s: %v at the limit", x.why, errno)
		}
		if errno := code.Check(x.one); errno != api.ErrCode {
			t.Errorf("%s: %v beyond the limit", x.why, errno)
		}
		judged(t, x.most)
		judged(t, x.one)
	}
	if errno := code.Check(long(199, opSelf, opPop, opSelf, opRet)); errno != api.ErrCode {
		t.Errorf("402 instructions: %v", errno)
	}
	odd := stack(100)
	odd[0].Instrs = slices.Insert(odd[0].Instrs, 0, slices.Repeat([]api.Instr{opSelf, opPop}, 100)...)
	if errno := code.Check(odd); errno != api.OK || len(odd[0].Instrs) != 400 {
		t.Errorf("%d instructions: %v", len(odd[0].Instrs), errno)
	}
	plain := piece(nil, nil, opSelf, opRet)
	if errno := code.Check(slices.Repeat([]api.Code{plain}, 800)); errno != api.OK {
		t.Errorf("800 pieces: %v", errno)
	}
	for _, c := range []api.Code{plain, {}} {
		if errno := code.Check(slices.Repeat([]api.Code{c}, 801)); errno != api.ErrLimit {
			t.Errorf("801 pieces: %v", errno)
		}
	}
}
