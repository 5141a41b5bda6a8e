package code_test

import (
	"slices"
	"testing"

	"proteus/api"
	"proteus/code"
)

// unitOf returns the unit of a piece, as the chapter says it.
func unitOf(l []api.Code, at int) []int {
	all := []int{at}
	for _, i := range l[at].Instrs {
		if i.Op == api.OpBlock {
			all = append(all, unitOf(l, i.A)...)
		}
	}
	return all
}

// relabelled returns the pieces of a unit with indices from base on.
func relabelled(l []api.Code, unit []int, base int) []api.Code {
	var list []api.Code
	for _, at := range unit {
		c := clone(l[at : at+1])[0]
		if c.Outer >= 0 {
			c.Outer = base + slices.Index(unit, c.Outer)
		}
		for i, x := range c.Instrs {
			if x.Op == api.OpBlock {
				c.Instrs[i].A = base + slices.Index(unit, x.A)
			}
		}
		list = append(list, c)
	}
	return list
}

// P4.5; P4.1, D7, D8, D11, D12
func TestUnitsOfGrownCode(t *testing.T) {
	apart, within := 0, 0
	for l := range programs(t, 500) {
		units := make([][]int, len(l))
		for at := range l {
			unit, errno := code.Unit(l, at)
			if errno != api.OK || !slices.Equal(unit, unitOf(l, at)) {
				t.Fatalf("Unit of %d of\n%s\n%v, %v", at, brief(l), unit, errno)
			}
			units[at] = unit
			takes(t, l, at, unit)
			placed(t, l, at)
		}
		for a := range l {
			for b := range l {
				if slices.Contains(units[a], b) {
					within++
					if !containsAll(units[a], units[b]) {
						t.Fatalf("%d is in the unit of %d, but not its unit, of\n%s", b, a, brief(l))
					}
				} else if !slices.Contains(units[b], a) {
					apart++
					if slices.ContainsFunc(units[a], func(at int) bool { return slices.Contains(units[b], at) }) {
						t.Fatalf("the units of %d and %d are not apart in\n%s", a, b, brief(l))
					}
				}
			}
		}
	}
	if apart < 5000 || within < 5000 {
		t.Errorf("%d pairs are apart, %d within each other", apart, within)
	}
}

func containsAll(l, m []int) bool {
	return !slices.ContainsFunc(m, func(x int) bool { return !slices.Contains(l, x) })
}

// takes fails unless Take of a piece is as the chapter says.
func takes(t *testing.T, l []api.Code, at int, unit []int) {
	t.Helper()
	if l[at].Block {
		if m, errno := code.Take(l, at, 0); errno != api.ErrArg || len(m) > 0 {
			t.Fatalf("Take of the block %d: %v", at, errno)
		}
		return
	}
	for _, base := range []int{0, 7, 800} {
		m, errno := code.Take(l, at, base)
		if errno != api.OK || !equal(m, relabelled(l, unit, base)) {
			t.Fatalf("Take of %d from %d on, of\n%s\n%v\n%s", at, base, brief(l), errno, brief(m))
		}
		if base > 0 {
			continue
		}
		all, errno := code.Unit(m, 0)
		if code.Check(m) != api.OK || errno != api.OK || !slices.Equal(all, countTo(len(m))) {
			t.Fatalf("the unit of what is taken, %d of\n%s\n%v, %v", at, brief(l), all, errno)
		}
	}
}

func countTo(n int) []int {
	var l []int
	for i := range n {
		l = append(l, i)
	}
	return l
}

// placed fails unless Depth and Owner of a piece are as the chapter says, and it is in the unit of its outermost one.
func placed(t *testing.T, l []api.Code, at int) {
	t.Helper()
	outermost, want := at, 0
	for l[outermost].Outer >= 0 {
		outermost = l[outermost].Outer
		want++
	}
	if unit, errno := code.Unit(l, outermost); errno != api.OK || !slices.Contains(unit, at) {
		t.Fatalf("%d is not in the unit of %d of\n%s", at, outermost, brief(l))
	}
	if depth, errno := code.Depth(l, at); errno != api.OK || depth != want {
		t.Fatalf("Depth of %d: %d, %v, of\n%s", at, depth, errno, brief(l))
	}
	owner, index, errno := code.Owner(l, at)
	if !l[at].Block {
		if errno != api.ErrArg || owner != 0 || index != 0 {
			t.Fatalf("Owner of %d: %d, %d, %v", at, owner, index, errno)
		}
	} else if errno != api.OK || owner != l[at].Outer || l[owner].Instrs[index] != (api.Instr{Op: api.OpBlock, A: at}) {
		t.Fatalf("Owner of %d: %d, %d, %v, of\n%s", at, owner, index, errno, brief(l))
	}
}

func TestUnitExamples(t *testing.T) {
	l := ofText(t, "x = ( 3. [ [ ^ 2 ] value ] value )", "y = ( )", "z = ( [ 1 ] a: [ 2 ] )")
	for at, want := range [][]int{{0, 1, 2}, {1, 2}, {2}, {3}, {4, 5, 6}, {5}, {6}} {
		if unit, errno := code.Unit(l, at); errno != api.OK || !slices.Equal(unit, want) {
			t.Errorf("Unit of %d: %v, %v", at, unit, errno)
		}
	}
	for at, want := range []int{0, 1, 2, 0, 0, 1, 1} {
		if depth, errno := code.Depth(l, at); errno != api.OK || depth != want {
			t.Errorf("Depth of %d: %d, %v", at, depth, errno)
		}
	}
	for at, want := range map[int][2]int{1: {0, 2}, 2: {1, 0}, 5: {4, 0}, 6: {4, 1}} {
		if owner, index, errno := code.Owner(l, at); errno != api.OK || [2]int{owner, index} != want {
			t.Errorf("Owner of %d: %d, %d, %v", at, owner, index, errno)
		}
	}
	// The blocks of a piece in another order than that in which it makes them.
	m := []api.Code{l[4], l[6], l[5]}
	m = clone(m)
	m[0].Instrs[0].A, m[0].Instrs[1].A, m[1].Outer, m[2].Outer = 2, 1, 0, 0
	if unit, errno := code.Unit(m, 0); errno != api.OK || !slices.Equal(unit, []int{0, 2, 1}) {
		t.Errorf("Unit of blocks in another order: %v, %v", unit, errno)
	}
	if taken, errno := code.Take(m, 0, 4); errno != api.OK || !equal(taken, l[4:]) {
		t.Errorf("Take of blocks in another order: %v\n%s", errno, brief(taken))
	}
	if taken, errno := code.Take(l, 4, 4); errno != api.OK || !equal(taken, l[4:]) {
		t.Errorf("Take from its own index on: %v\n%s", errno, brief(taken))
	}
	long := nested(20)
	if depth, errno := code.Depth(long, 20); errno != api.OK || depth != 20 {
		t.Errorf("Depth of the innermost of 20 blocks: %d, %v", depth, errno)
	}
	if unit, errno := code.Unit(long, 0); errno != api.OK || !slices.Equal(unit, countTo(21)) {
		t.Errorf("Unit of 20 blocks: %v, %v", unit, errno)
	}
	if taken, errno := code.Take(long, 0, 0); errno != api.OK || !equal(taken, long) {
		t.Errorf("Take of 20 blocks: %v", errno)
	}
}

func TestTakeBases(t *testing.T) {
	l := ofText(t, "x = ( [ ] )")
	for base, want := range map[int]api.Errno{0: api.OK, 1: api.OK, 799: api.OK, 800: api.OK, 801: api.ErrArg, -1: api.ErrArg, 1<<63 - 1: api.ErrArg, -1 << 63: api.ErrArg} {
		if m, errno := code.Take(l, 0, base); errno != want || (errno == api.OK) != (len(m) == 2) {
			t.Errorf("Take from %d on: %v, %s", base, errno, brief(m))
		}
	}
}

// P4.3; P4.1, D9

func TestJoin(t *testing.T) {
	l, m := ofText(t, "x = ( [ 1 ] )"), ofText(t, "y = ( [ [ 2 ] ] )")
	moved, errno := code.Take(m, 0, 2)
	if errno != api.OK {
		t.Fatal(errno)
	}
	if all, errno := code.Join(l, moved); errno != api.OK || !equal(all, append(clone(l), moved...)) || !isRight(all) {
		t.Errorf("Join: %v\n%s", errno, brief(all))
	}
	none := []api.Code{}
	wrong, plain := []api.Code{{}}, []api.Code{piece(nil, nil, opSelf, opRet)}
	// A block that stands in the piece ahead, which makes it.
	makes, block := nested(1)[:1], nested(1)[1:]
	for _, x := range []struct {
		why  string
		l, m []api.Code
		want api.Errno
	}{
		{"nothing and nothing", nil, none, api.OK},
		{"nothing and a method", nil, plain, api.OK},
		{"a method and nothing", plain, none, api.OK},
		{"the same twice", plain, plain, api.OK},
		{"with indices of its own", l, m, api.ErrCode},
		{"wrong code and nothing", wrong, nil, api.ErrCode},
		{"wrong code first", wrong, plain, api.ErrCode},
		{"wrong code behind", plain, wrong, api.ErrCode},
		{"two halves", makes, block, api.ErrCode},
		{"a half behind", nil, block, api.ErrCode},
		{"800 pieces", slices.Repeat(plain, 400), slices.Repeat(plain, 400), api.OK},
		{"801 pieces", slices.Repeat(plain, 400), slices.Repeat(plain, 401), api.ErrLimit},
		{"801 pieces and nothing", slices.Repeat(wrong, 801), nil, api.ErrLimit},
		{"nothing and 801 pieces", nil, slices.Repeat(plain, 801), api.ErrLimit},
		{"801 pieces, wrong ones first", wrong, slices.Repeat(plain, 800), api.ErrLimit},
		{"801 pieces, wrong ones behind", slices.Repeat(plain, 800), wrong, api.ErrLimit},
		{"800 pieces, wrong ones first", wrong, slices.Repeat(plain, 799), api.ErrCode},
	} {
		all, errno := code.Join(x.l, x.m)
		if errno != x.want || errno == api.OK && !equal(all, slices.Concat(x.l, x.m)) || errno != api.OK && len(all) > 0 {
			t.Errorf("%s: %v, %d pieces", x.why, errno, len(all))
		}
	}
}
