package code_test

import (
	"slices"
	"strings"
	"testing"

	"proteus/api"
	"proteus/code"
	"proteus/parse"
)

// P4.1, D2

func TestValue(t *testing.T) {
	long := strings.Repeat("9", 400)
	for _, v := range append(someValues(), whole(1<<63-1), whole(-1<<63), large("9223372036854775808"), large("-9223372036854775809"), large(long), large("-"+long), quoted(strings.Repeat("~", 20000)), quoted(strings.Repeat(" ", 20000)), ref(1), ref(1<<40)) {
		if errno := code.Value(v); errno != api.OK || !isVal(v) {
			t.Errorf("Value of %s: %v", brief(v), errno)
		}
	}
	for _, v := range []api.Val{
		{}, {N: 1}, {T: "a"}, {K: api.VInt, T: "0"}, {K: api.VInt, N: 1, T: " "}, large(""), large("0"), large("9223372036854775807"), large("-9223372036854775808"), large("09223372036854775808"), large("+9223372036854775808"), large(long + "9"), large("-" + long + "9"), {K: api.VBig, N: 1, T: long},
		{K: api.VStr, N: 1}, {K: api.VStr, N: -1, T: "a"}, quoted("\x1f"), quoted("\x7f"), quoted("a\n"), quoted("\x00"), quoted("é"), quoted("a\xff"), quoted(strings.Repeat("x", 20001)), quoted(strings.Repeat("x", 20000) + "\n"),
		ref(0), ref(-1), ref(-1 << 63), ref(1<<40 + 1), ref(1<<63 - 1), {K: api.VRef, N: 1, T: "1"}, {K: api.VMeth}, {K: api.VMeth, N: 1}, {K: 6, N: 1}, {K: -1, N: 1}, {K: 1 << 62},
	} {
		if errno := code.Value(v); errno != api.ErrArg || isVal(v) {
			t.Errorf("Value of %s: %v", brief(v), errno)
		}
	}
	for _, v := range nastyValues {
		if errno := code.Value(v); (errno == api.OK) != isVal(v) || errno != api.OK && errno != api.ErrArg {
			t.Errorf("Value of %s: %v", brief(v), errno)
		}
	}
	for b := range 256 {
		if errno := code.Value(quoted(string([]byte{'a', byte(b), 'a'}))); (errno == api.OK) != (32 <= b && b <= 126) {
			t.Errorf("Value of a string with the byte %d: %v", b, errno)
		}
	}
}

// P4.1, D3; P4.8

func TestArity(t *testing.T) {
	part := strings.Repeat("a", 24)
	for sel, want := range map[string]int{
		"at:Put:": 2, "+": 1, "size": 0, "_Clone": -1, "=": -1, "": -1, "self": -1, "resend": -1, "<-": -1, "==": 1, "<=>": 1, "++++": -1, "at:": 1, "self:": 1, "X": -1, "X:": -1, "at:put:": -1, "at:Put": -1, "a:IfFail:": -1, "ifFail:": 1,
		"_At:": -1, "_At:Put:": -1, "_": -1, "_at": -1, "__At": -1, "p.size": -1, "a b": -1, "3": -1, "'a'": -1, ":": -1, "::": -1, ".": -1, "a\x00": -1,
		part: 0, part + "a": -1, part + ":": 1, part + "a:": -1, keywords(8): 8, keywords(9): -1, strings.Repeat("a:", 1<<16): -1,
	} {
		if n := code.Arity(sel); n != want {
			t.Errorf("Arity of %.90q: %d", sel, n)
		}
	}
	r := source()
	bits := append(slices.Clone(nastyTexts), "A:", "B1:", "IfFail:", "a", "_", ":", part)
	for range 30000 {
		sel := ""
		for range r.Intn(5) {
			sel += oneOf(r, bits)
		}
		want, ok := arityOf(sel)
		if !ok {
			want = -1
		}
		if n := code.Arity(sel); n != want {
			t.Fatalf("Arity of %q: %d", sel, n)
		}
		l, errno := parse.Parts(sel)
		if (errno == api.OK) != ok {
			t.Fatalf("Parts of %q: %v", sel, errno)
		}
		if strings.HasSuffix(sel, ":") && ok && len(l) != code.Arity(sel) {
			t.Fatalf("%q has the parts %q, and the arity %d", sel, l, code.Arity(sel))
		}
	}
}

// P4.1, D4; P4.8

func TestBlockName(t *testing.T) {
	for args, want := range blockNames {
		name, errno := code.BlockName(args)
		if errno != api.OK || name != want || code.Arity(name) != args {
			t.Errorf("BlockName of %d: %q, %v", args, name, errno)
		}
		if l, errno := parse.Parts(name); errno != api.OK || len(l) != max(args, 1) {
			t.Errorf("the parts of %q: %q, %v", name, l, errno)
		}
		for _, more := range append(nastyTexts, "A:", "With:", "With:With:") {
			if longer := name + more; args > 0 && more != "" && code.Arity(longer) == args {
				t.Errorf("%q has the arity %d, too", longer, args)
			}
		}
	}
	if name, _ := code.BlockName(3); name != "value:With:With:" {
		t.Errorf("BlockName of 3: %q", name)
	}
	for _, args := range []int{-1, 9, 10, 1 << 62, -1 << 63, 1<<63 - 1} {
		if name, errno := code.BlockName(args); errno != api.ErrArg || name != "" {
			t.Errorf("BlockName of %d: %q, %v", args, name, errno)
		}
	}
}

// P4.1, D15

func TestSame(t *testing.T) {
	r := source()
	if !code.Same(nil, []api.Code{}) || !code.Same([]api.Code{}, nil) || code.Same(nil, []api.Code{{}}) || code.Same([]api.Code{{}}, nil) {
		t.Error("Same of no pieces")
	}
	empty := api.Code{Names: []string{}, Init: []api.Val{}, Lits: []api.Val{}, Sels: []string{}, Instrs: []api.Instr{}}
	if !code.Same([]api.Code{{}}, []api.Code{empty}) || !code.Same([]api.Code{empty}, []api.Code{{}}) {
		t.Error("Same of empty lists and of nil")
	}
	differ := 0
	for l := range programs(t, 200) {
		if !code.Same(l, clone(l)) {
			t.Fatalf("not the same as itself:\n%s", brief(l))
		}
		for range 30 {
			m := change(r, clone(l))
			if code.Same(l, m) != equal(l, m) || code.Same(m, l) != equal(l, m) || !code.Same(m, clone(m)) {
				t.Fatalf("Same is %t of\n%s\n%s", code.Same(l, m), brief(l), brief(m))
			}
			if !equal(l, m) {
				differ++
			}
		}
	}
	if differ < 3000 {
		t.Errorf("%d differ", differ)
	}
	base := api.Code{Name: "x", Block: true, Outer: 1, Args: 1, Names: []string{"a"}, Init: []api.Val{null}, Lits: []api.Val{whole(3)}, Sels: []string{"s"}, Instrs: []api.Instr{{Op: 1, A: 2, B: 3, C: 4}}}
	for i, f := range []func(c *api.Code){
		func(c *api.Code) { c.Name = "y" }, func(c *api.Code) { c.Block = false }, func(c *api.Code) { c.Outer = 2 }, func(c *api.Code) { c.Args = 2 },
		func(c *api.Code) { c.Names[0] = "b" }, func(c *api.Code) { c.Names = nil }, func(c *api.Code) { c.Init[0].K++ }, func(c *api.Code) { c.Init[0].N++ }, func(c *api.Code) { c.Init[0].T = "x" }, func(c *api.Code) { c.Init = append(c.Init, null) },
		func(c *api.Code) { c.Lits[0].N++ }, func(c *api.Code) { c.Lits = nil }, func(c *api.Code) { c.Sels[0] = "t" }, func(c *api.Code) { c.Sels = append(c.Sels, "s") },
		func(c *api.Code) { c.Instrs[0].Op++ }, func(c *api.Code) { c.Instrs[0].A++ }, func(c *api.Code) { c.Instrs[0].B++ }, func(c *api.Code) { c.Instrs[0].C++ }, func(c *api.Code) { c.Instrs = nil },
	} {
		l := clone([]api.Code{base, base})
		f(&l[1])
		if code.Same([]api.Code{base, base}, l) || code.Same(l, []api.Code{base, base}) {
			t.Errorf("difference %d is not seen", i)
		}
	}
}
