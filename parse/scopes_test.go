package parse_test

import (
	"slices"
	"strings"
	"testing"

	"proteus/api"
	"proteus/parse"
)

// use is an NImp that is considered, and to what it refers: slot is nil, if to nothing.
type use struct {
	path, slot []int
	out, index int
}

// uses returns the NImps that are considered, by the words of the chapter.
func uses(n api.Node) []use {
	var l []use
	for _, path := range paths(n) {
		x := at(&n, path)
		considered := x.Kind == api.NImp
		for i := range path {
			if around := at(&n, path[:i]); around.Kind == api.NSlot && (around.Subs[0].Kind == api.NImp || around.Subs[0].Kind == api.NSend) {
				considered = false
			}
		}
		if considered {
			l = append(l, refers(n, path, x.Text))
		}
	}
	return l
}

func refers(n api.Node, path []int, name string) use {
	u := use{path: path}
	for i := len(path) - 1; i >= 0; i-- {
		s := at(&n, path[:i])
		if s.Kind != api.NMethod && s.Kind != api.NBlock {
			continue
		}
		for j, slot := range s.Subs[:s.Num] {
			if slot.Text == name || slot.Text+":" == name && slot.Num == api.SVar {
				u.index, u.slot = j, append(slices.Clone(path[:i]), j)
				return u
			}
		}
		if s.Kind == api.NMethod {
			break
		}
		u.out++
	}
	return use{path: path}
}

func freeNames(n api.Node) []string {
	var l []string
	for _, u := range uses(n) {
		if name := at(&n, u.path).Text; u.slot == nil && !slices.Contains(l, name) {
			l = append(l, name)
		}
	}
	return l
}

// renamed returns what Rename is to answer for a path that leads somewhere.
func renamed(n api.Node, path []int, name string) (api.Node, api.Errno) {
	if len(path) == 0 || parse.Arity(name) != 0 || strings.HasPrefix(name, "_") {
		return api.Node{}, api.ErrArg
	}
	owner := at(&n, path[:len(path)-1])
	if owner.Kind != api.NMethod && owner.Kind != api.NBlock || path[len(path)-1] >= owner.Num {
		return api.Node{}, api.ErrArg
	}
	m := clone(n)
	at(&m, path).Text = name
	before := uses(n)
	for _, u := range before {
		if u.slot != nil && slices.Equal(u.slot, path) {
			x := at(&m, u.path)
			if strings.HasSuffix(x.Text, ":") {
				x.Text = name + ":"
			} else {
				x.Text = name
			}
		}
	}
	after := uses(m)
	for i := range before {
		if (before[i].slot == nil) != (after[i].slot == nil) || !slices.Equal(before[i].slot, after[i].slot) {
			return api.Node{}, api.ErrArg
		}
	}
	owner = at(&m, path[:len(path)-1])
	for i := range owner.Num {
		for j := range i {
			if owner.Subs[i].Text == owner.Subs[j].Text {
				return api.Node{}, api.ErrArg
			}
		}
	}
	return m, api.OK
}

// P2.1, G14

func TestFree(t *testing.T) {
	for text, want := range map[string]string{
		"3": "", "x": "x", "x y": "x", "x + y": "x y", "y + x + y": "y x", "[ | :x | x ]": "", "[ | :x | y. x. z ]": "y z", "[ | :x | [ x. y ] ]": "y", "[ | x | x: 3 ]": "", "[ | :x | x: 3 ]": "x:", "[ | x | x: y ]": "y", "x: 3": "x:",
		"at: x Put: y": "at:Put: x y", "[ | at | at: x ]": "x", "[ | at | at: x Put: y ]": "at:Put: x y", "[ | x | [ | :x | x: x ] ]": "", "[ | :x. x | x: x ]": "", "self: x": "self: x", "foo: ( bar: x )": "foo: bar: x",
		"[ | x <- y z. a <- ( | b <- c | ) | x ]": "", "( | x <- y. z = ( y ) | )": "y", "[ | y | ( | x <- y. z = ( y ). + y = ( y. [ y ] ) | ) ]": "y", "( | x = ( | y | y. z: 3. y: 4 ) | )": "z:", "resend.x": "", "resend.x: y": "y", "a _B: b IfFail: c": "a b c",
		"[ ^ x ]": "x", "[ a ]": "a", "[ | x | x ] value": "", "( [ | x | x ] + x )": "x",
	} {
		if l, errno := parse.Free(expr(t, text)); errno != api.OK || strings.Join(l, " ") != want {
			t.Errorf("Free of %q: %q, %v", text, l, errno)
		}
	}
	for text, want := range map[string]string{"x = ( | y | y. z )": "z", "x <- y": "", "x = y z": "", "+ x = ( x. y )": "y", "at: x Put: y = ( x: y )": "x:"} {
		if l, errno := parse.Free(tree(t, parse.Slot, text)); errno != api.OK || strings.Join(l, " ") != want {
			t.Errorf("Free of %q: %q, %v", text, l, errno)
		}
	}
	if l, errno := parse.Free(imp("+", imp("x"))); errno != api.OK || !slices.Equal(l, []string{"+", "x"}) {
		t.Errorf("Free of an NImp +: %q, %v", l, errno)
	}
	if l, errno := parse.Free(method(1, arg("x"), imp("x"), ret(imp("y")))); errno != api.OK || !slices.Equal(l, []string{"y"}) {
		t.Errorf("Free of an NMethod: %q, %v", l, errno)
	}
}

// P2.1, G15

func TestResolve(t *testing.T) {
	for _, x := range []struct {
		text       string
		path       []int
		out, index int
		errno      api.Errno
	}{
		{"[ | :x | [ x ] ]", []int{1, 0}, 1, 0, api.OK},
		{"[ | :x | x ]", []int{1}, 0, 0, api.OK},
		{"[ | :y. x | x: 3 ]", []int{2}, 0, 1, api.OK},
		{"[ | :y. x | x: y ]", []int{2, 0}, 0, 0, api.OK},
		{"[ | x | [ | :x | x: x ] ]", []int{1, 1}, 1, 0, api.OK},
		{"[ | x | [ | :x | x: x ] ]", []int{1, 1, 0}, 0, 0, api.OK},
		{"[ | :x. x | x: x ]", []int{2}, 0, 1, api.OK},
		{"[ | :x. x | x: x ]", []int{2, 0}, 0, 0, api.OK},
		{"[ | x. y. x | x: x ]", []int{3}, 0, 0, api.OK},
		{"[ | x. x | x ]", []int{2}, 0, 0, api.OK},
		{"[ | :x | [ [ y. x ] ] ]", []int{1, 0, 1}, 2, 0, api.OK},
		{"[ | :x | [ [ y. x ] ] ]", []int{1, 0, 0}, 0, 0, api.ErrArg},
		{"[ | :x | x: 3 ]", []int{1}, 0, 0, api.ErrArg},
		{"[ | :x | x: 3 ]", []int{1, 0}, 0, 0, api.ErrArg},
		{"[ | :x | x: 3 ]", []int{0}, 0, 0, api.ErrArg},
		{"[ | :x | x: 3 ]", []int{}, 0, 0, api.ErrArg},
		{"[ | :x | x: 3 ]", []int{2}, 0, 0, api.ErrNone},
		{"[ | :x | x: 3 ]", []int{-1}, 0, 0, api.ErrNone},
		{"[ | :x | x: 3 ]", []int{1, 1}, 0, 0, api.ErrNone},
		{"[ | :x | x: 3 ]", []int{1, 0, 0}, 0, 0, api.ErrNone},
		{"[ | :x | x: 3 ]", []int{0, 0}, 0, 0, api.ErrNone},
		{"x", nil, 0, 0, api.ErrArg},
		{"[ | x. y <- x | x ]", []int{1, 0}, 0, 0, api.ErrArg},
		{"[ | x. y <- x z | x ]", []int{1, 0, 0}, 0, 0, api.ErrArg},
		{"[ | x | ( | y <- x. z = ( x ) | ) ]", []int{1, 1, 0, 0}, 0, 0, api.ErrArg},
		{"[ | x | ( | y <- x. z = ( x ) | ) ]", []int{1, 0, 0}, 0, 0, api.ErrArg},
		{"( | z: x = ( [ x ] ) | )", []int{0, 0, 1, 0}, 1, 0, api.OK},
		{"[ | :x | resend.x ]", []int{1}, 0, 0, api.ErrArg},
		{"[ | :x | self x ]", []int{1}, 0, 0, api.ErrArg},
		{"[ | at | at: 1 Put: 2 ]", []int{1}, 0, 0, api.ErrArg},
	} {
		out, index, errno := parse.Resolve(expr(t, x.text), x.path)
		if out != x.out || index != x.index || errno != x.errno {
			t.Errorf("Resolve of %q, %v: %d, %d, %v", x.text, x.path, out, index, errno)
		}
	}
	if out, index, errno := parse.Resolve(method(2, arg("y"), variable("x"), block(0, imp("x:", self()))), []int{2, 0}); out != 1 || index != 1 || errno != api.OK {
		t.Errorf("Resolve in an NMethod: %d, %d, %v", out, index, errno)
	}
}

// P2.1, G16

func TestRename(t *testing.T) {
	for _, x := range []struct {
		text string
		path []int
		name string
		want string // "": ErrArg
	}{
		{"[ | :x | x + y ]", []int{0}, "y", ""},
		{"[ | :x | x + y ]", []int{0}, "z", "[ | :z | z + y ]"},
		{"[ | :x | x + y ]", []int{0}, "x", "[ | :x | x + y ]"},
		{"[ | x | x: x + 1 ]", []int{0}, "y", "[ | y | y: y + 1 ]"},
		{"[ | :x | x: x + 1 ]", []int{0}, "y", "[ | :y | x: y + 1 ]"},
		{"[ | x | y: x ]", []int{0}, "y", ""},
		{"[ | :x | y: x ]", []int{0}, "y", "[ | :y | y: y ]"},
		{"[ | x | [ | y | x ] ]", []int{0}, "y", ""},
		{"[ | x | [ | y | y ] ]", []int{0}, "y", "[ | y | [ | y | y ] ]"},
		{"[ | x | [ | y | x: y ] ]", []int{1, 0}, "x", ""},
		{"[ | x | [ | :y | x: y ] ]", []int{1, 0}, "x", "[ | x | [ | :x | x: x ] ]"},
		{"[ | x | [ | :x | x: x ] ]", []int{0}, "z", "[ | z | [ | :x | z: x ] ]"},
		{"[ | x. y | x ]", []int{0}, "y", ""},
		{"[ | x. y | ]", []int{1}, "x", ""},
		{"[ | x. x | x ]", []int{0}, "y", "[ | y. x | y ]"},
		{"[ | x. x | x ]", []int{1}, "y", "[ | x. y | x ]"},
		{"[ | x. x | z ]", []int{0}, "y", "[ | y. x | z ]"},
		{"[ | x. x | z ]", []int{0}, "x", ""},
		{"[ | x. x. y | z ]", []int{2}, "z", ""},
		{"[ | :x. x | x ]", []int{1}, "y", "[ | :x. y | x ]"},
		{"[ | :x. x | x: x ]", []int{0}, "y", "[ | :y. x | x: y ]"},
		{"[ | :x. x | x: 3 ]", []int{0}, "y", "[ | :y. x | x: 3 ]"},
		{"[ | :x. x | x: x ]", []int{1}, "y", "[ | :x. y | y: x ]"},
		{"[ | x <- x y | x ]", []int{0}, "y", "[ | y <- x y | y ]"},
		{"[ | x | ( | y <- x. z = ( x ) | ). x ]", []int{0}, "w", "[ | w | ( | y <- x. z = ( x ) | ). w ]"},
		{"[ | x | ( | z = ( y ) | ). x ]", []int{0}, "y", "[ | y | ( | z = ( y ) | ). y ]"},
		{"[ | at | at: 1 Put: 2 ]", []int{0}, "x", "[ | x | at: 1 Put: 2 ]"},
		{"( | at: x = ( | y | x. y: x ) | )", []int{0, 0, 0}, "z", "( | at: z = ( | y | z. y: z ) | )"},
		{"( | at: x = ( | y | x. y: x ) | )", []int{0, 0, 1}, "z", "( | at: x = ( | z | x. z: x ) | )"},
		{"( | at: x = ( | y | x. y: x ) | )", []int{0}, "z", ""},
		{"( | at: x = ( | y | x. y: x ) | )", []int{0, 0}, "z", ""},
		{"[ | :x | x ]", []int{}, "z", ""}, {"[ | :x | x ]", []int{1}, "z", ""}, {"[ | :x | x ]", []int{0}, "", ""}, {"[ | :x | x ]", []int{0}, "self", ""}, {"[ | :x | x ]", []int{0}, "resend", ""}, {"[ | :x | x ]", []int{0}, "z:", ""},
		{"[ | :x | x ]", []int{0}, "Z", ""}, {"[ | :x | x ]", []int{0}, "+", ""}, {"[ | :x | x ]", []int{0}, "_A", ""}, {"[ | :x | x ]", []int{0}, strings.Repeat("a", 25), ""}, {"[ | :x | x ]", []int{0}, "a b", ""},
		{"[ | x | x: x ]", []int{0}, strings.Repeat("a", 24), "[ | " + strings.Repeat("a", 24) + " | " + strings.Repeat("a", 24) + ": " + strings.Repeat("a", 24) + " ]"},
	} {
		n := expr(t, x.text)
		m, errno := parse.Rename(n, x.path, x.name)
		want, wantErrno := renamed(n, x.path, x.name)
		if errno != wantErrno || !parse.Same(m, want) {
			t.Errorf("Rename of %q, %v, %q: %s, %v", x.text, x.path, x.name, shown(m), errno)
		}
		if x.want != "" && (errno != api.OK || !parse.Same(m, expr(t, x.want))) || x.want == "" && errno != api.ErrArg {
			t.Errorf("Rename of %q, %v, %q: %s, %v; it should be %q", x.text, x.path, x.name, shown(m), errno, x.want)
		}
	}
	for _, path := range [][]int{{2}, {-1}, {0, 0}, {1, 2}, {1, 0, 5}, {1 << 62}} {
		if m, errno := parse.Rename(expr(t, "[ | :x | x + y ]"), path, ""); errno != api.ErrNone || m.Kind != 0 {
			t.Errorf("Rename at %v: %v", path, errno)
		}
	}
	for _, n := range []api.Node{arg("x"), variable("x"), constant("x", imp("y"))} {
		if _, errno := parse.Rename(n, nil, "z"); errno != api.ErrArg {
			t.Errorf("Rename of %s: %v", shown(n), errno)
		}
	}
}

// P2.1 of G14 to G16, and P2.7 and P2.8, for trees at random.
func TestScopesAgree(t *testing.T) {
	done := 0
	trees(1500, true, func(m maker, n api.Node, p parser) {
		l, errno := parse.Free(n)
		if want := freeNames(n); errno != api.OK || !slices.Equal(l, want) {
			t.Fatalf("Free of %s: %q, %v; it should be %q", shown(n), l, errno, want)
		}
		all := uses(n)
		for _, path := range paths(n) {
			want := use{}
			wantErrno := api.ErrArg
			if i := slices.IndexFunc(all, func(u use) bool { return slices.Equal(u.path, path) }); i >= 0 && all[i].slot != nil {
				want, wantErrno = all[i], api.OK
			}
			if out, index, errno := parse.Resolve(n, path); out != want.out || index != want.index || errno != wantErrno {
				t.Fatalf("Resolve of %s, %v: %d, %d, %v", shown(n), path, out, index, errno)
			}
			name := pick(m.Rand, "x", "y", "z", "w", "self")
			if at(&n, path).Kind != api.NSlot && m.Intn(10) > 0 {
				continue
			}
			renamedTree, errno := parse.Rename(n, path, name)
			if want, wantErrno := renamed(n, path, name); errno != wantErrno || !parse.Same(renamedTree, want) {
				t.Fatalf("Rename of %s, %v, %q: %s, %v; it should be %s, %v", shown(n), path, name, shown(renamedTree), errno, shown(want), wantErrno)
			}
			if errno == api.OK {
				done++
				staysRenamed(t, n, renamedTree, path)
			}
		}
	})
	if done < 300 {
		t.Errorf("only %d trees were renamed", done)
	}
}

// staysRenamed checks what P2.7 promises of a tree and the one in which the NSlot at a path has another name.
func staysRenamed(t *testing.T, n, m api.Node, path []int) {
	t.Helper()
	slot, owner := at(&n, path), at(&n, path[:len(path)-1])
	twice := 0
	for _, s := range owner.Subs[:owner.Num] {
		if s.Text == slot.Text {
			twice++
		}
	}
	if back, errno := parse.Rename(m, path, slot.Text); twice == 1 && (errno != api.OK || !parse.Same(back, n)) {
		t.Fatalf("%s renamed back: %s, %v; it should be %s", shown(m), shown(back), errno, shown(n))
	}
	for _, p := range paths(n) {
		out, index, errno := parse.Resolve(n, p)
		if out2, index2, errno2 := parse.Resolve(m, p); out != out2 || index != index2 || errno != errno2 {
			t.Fatalf("%s, %s: Resolve at %v", shown(n), shown(m), p)
		}
	}
	a, _ := parse.Free(n)
	if b, _ := parse.Free(m); !slices.Equal(a, b) {
		t.Fatalf("%s, %s: Free %q, %q", shown(n), shown(m), a, b)
	}
	if parse.Check(m) != api.OK {
		t.Fatalf("%s: %v", shown(m), parse.Check(m))
	}
}

// P2.8
func TestFreeOfSubs(t *testing.T) {
	trees(3000, true, func(m maker, n api.Node, p parser) {
		for _, path := range paths(n) {
			x := *at(&n, path)
			if hasObject(x) || x.Kind == api.NMethod || x.Kind == api.NSlot {
				continue
			}
			var want []string
			add := func(name string) {
				if !slices.Contains(want, name) {
					want = append(want, name)
				}
			}
			if x.Kind == api.NImp {
				add(x.Text)
			}
			for _, s := range x.Subs {
				l, _ := parse.Free(s)
				for _, name := range l {
					if x.Kind != api.NBlock || refers(api.Node{Kind: 6, Num: x.Num, Subs: append(slices.Clone(x.Subs[:x.Num]), imp(name))}, []int{x.Num}, name).slot == nil {
						add(name)
					}
				}
			}
			if l, errno := parse.Free(x); errno != api.OK || !slices.Equal(l, want) {
				t.Fatalf("Free of %s: %q, %v; it should be %q", shown(x), l, errno, want)
			}
		}
	})
}

func hasObject(n api.Node) bool {
	return n.Kind == api.NObject || slices.ContainsFunc(n.Subs, hasObject)
}

// Nodes that stand in a tree several times, with the same memory.
func TestSharedNodes(t *testing.T) {
	inner := block(0, imp("x"))
	n := send("+", inner, block(1, arg("x"), inner))
	if out, index, errno := parse.Resolve(n, []int{1, 1, 0}); out != 1 || index != 0 || errno != api.OK {
		t.Errorf("Resolve: %d, %d, %v", out, index, errno)
	}
	if _, _, errno := parse.Resolve(n, []int{0, 0}); errno != api.ErrArg {
		t.Errorf("Resolve: %v", errno)
	}
	m, errno := parse.Rename(n, []int{1, 0}, "y")
	if want := send("+", inner, block(1, arg("y"), block(0, imp("y")))); errno != api.OK || !parse.Same(m, want) {
		t.Errorf("Rename: %s, %v", shown(m), errno)
	}
	if !parse.Same(inner, block(0, imp("x"))) {
		t.Errorf("an argument was changed: %s", shown(inner))
	}
}
