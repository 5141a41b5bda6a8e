package parse_test

import (
	"math/rand"
	"slices"
	"testing"

	"proteus/api"
	"proteus/parse"
)

// The document's rules R1, R3, R4, R7 and R8 for all functions.

// garbage makes trees of which most are not well-formed.
func garbage(r *rand.Rand, depth int) api.Node {
	n := api.Node{
		Kind: r.Intn(16) - 1,
		Text: pick(r, "", "", "x", "x", "+", "a:", "a:B:", "_A", "_A:", "3", "self", "p.x", "a:IfFail:", ".", ":", "\x00", "é"),
		Num:  pick(r, 0, 0, 0, 0, 1, 1, 2, 3, 4, 5, 6, -1, 1<<62, -1<<63),
	}
	for range r.Intn(4) {
		if depth > 0 {
			n.Subs = append(n.Subs, garbage(r, depth-1))
		}
	}
	return n
}

// answers returns what all functions of trees answer.
func answers(n api.Node, path []int, name string) (nodes []api.Node, tokens [][]api.Token, rest []any) {
	errno := parse.Check(n)
	l, errno1 := parse.Tokens(n)
	m, errno2 := parse.Listing(n)
	s, errno3 := parse.Print(n)
	free, errno4 := parse.Free(n)
	out, index, errno5 := parse.Resolve(n, path)
	to, errno6 := parse.Rename(n, path, name)
	rest = []any{errno, errno1, errno2, s, errno3, len(free), errno4, out, index, errno5, errno6, parse.Size(n), parse.Depth(n), parse.Same(n, n)}
	return []api.Node{to}, [][]api.Token{l, m}, rest
}

func checkAnswers(t *testing.T, n api.Node, path []int, name string) {
	t.Helper()
	before, pathBefore := clone(n), slices.Clone(path)
	nodes, tokens, rest := answers(n, path, name)
	if !parse.Same(before, n) || shown(before) != shown(n) || !slices.Equal(path, pathBefore) {
		t.Fatalf("%s was changed: %s", shown(before), shown(n))
	}
	// Results are new memory: what is done to them is not seen in what is answered later.
	for _, m := range nodes {
		for _, p := range paths(m) {
			at(&m, p).Kind = -7
			at(&m, p).Text = "gone"
		}
	}
	for _, l := range tokens {
		clear(l)
	}
	if !parse.Same(before, n) {
		t.Fatalf("%s shares memory with a result", shown(before))
	}
	if _, _, again := answers(n, path, name); !slices.Equal(rest, again) {
		t.Fatalf("%s: %v, and then %v", shown(n), rest, again)
	}
	errs := []any{rest[1], rest[2], rest[4], rest[6], rest[9], rest[10]}
	empty := []bool{len(tokens[0]) == 0, len(tokens[1]) == 0, rest[3] == "", rest[5] == 0, rest[7] == 0 && rest[8] == 0, nodes[0].Kind == 0}
	for i, errno := range errs {
		if errno != api.OK && !empty[i] {
			t.Fatalf("%s: the result %d beside an error", shown(n), i)
		}
		if rest[0] != api.OK && errno == api.OK {
			t.Fatalf("%s: the error %d of a tree that is not valid", shown(n), i)
		}
	}
}

func TestAllTrees(t *testing.T) {
	r := rand.New(rand.NewSource(4))
	somePath := func() []int {
		var l []int
		for range r.Intn(5) {
			l = append(l, pick(r, 0, 0, 0, 1, 1, 2, 3, -1, 40, 1<<62, -1<<63))
		}
		return l
	}
	someName := func() string { return pick(r, "x", "y", "w", "", "self", "a:", "+", "é") }
	for range 20000 {
		checkAnswers(t, garbage(r, r.Intn(4)), somePath(), someName())
	}
	trees(1500, true, func(m maker, n api.Node, p parser) {
		checkAnswers(t, n, somePath(), someName())
		checkAnswers(t, n, pick(r, paths(n)...), someName())
		// One field of one node is another one.
		odd := clone(n)
		x := at(&odd, pick(r, paths(n)...))
		g := garbage(r, 1)
		switch r.Intn(4) {
		case 0:
			x.Kind = g.Kind
		case 1:
			x.Text = g.Text
		case 2:
			x.Num = g.Num
		case 3:
			x.Subs = append(x.Subs, g)
		}
		checkAnswers(t, odd, somePath(), someName())
	})
}

// R4: empty lists and nil.
func TestEmptyLists(t *testing.T) {
	trees(300, false, func(m maker, n api.Node, p parser) {
		full := clone(n)
		for _, path := range paths(full) {
			if x := at(&full, path); len(x.Subs) == 0 {
				x.Subs = []api.Node{}
			}
		}
		a, errnoA := parse.Tokens(n)
		b, errnoB := parse.Tokens(full)
		if !parse.Same(n, full) || parse.Check(full) != api.OK || errnoA != errnoB || !slices.Equal(a, b) {
			t.Fatalf("%s: empty lists in place of nil", shown(n))
		}
	})
	if _, _, errno := parse.Resolve(imp("x"), []int{}); errno != api.ErrArg {
		t.Errorf("Resolve of an empty path: %v", errno)
	}
}

// R7: a list is not changed, and its tree has memory of its own, each node for itself.
func TestMemoryOfTrees(t *testing.T) {
	trees(500, false, func(m maker, n api.Node, p parser) {
		l, _ := parse.Tokens(n)
		before := slices.Clone(l)
		a, _, _ := p(l)
		b, _, _ := p(l)
		if !slices.Equal(l, before) {
			t.Fatalf("%v was changed", before)
		}
		for _, path := range slices.Backward(paths(a)) {
			x := at(&a, path)
			x.Kind, x.Text = 99, "gone"
			x.Subs = append(x.Subs, api.Node{})
			x.Subs = x.Subs[:len(x.Subs)-1]
		}
		if !parse.Same(b, n) || !slices.Equal(l, before) {
			t.Fatalf("%v: its trees share memory", l)
		}
		for _, path := range paths(a) {
			if at(&a, path).Kind != 99 {
				t.Fatalf("%v: nodes of its tree share memory", l)
			}
		}
	})
	var places []*api.Node
	n, _, _ := parse.Slot(lexed(t, "at: i Put: v = ( | x. y | [ | :a. b | a ]. x: y. resend.+ i. ^ v _At: i Put: x IfFail: [ 0 ] )"))
	m, _ := parse.Rename(n, []int{0, 2}, "z")
	for _, tree := range []*api.Node{&n, &m} {
		for _, path := range paths(*tree) {
			places = append(places, at(tree, path))
		}
	}
	for i, x := range places {
		if slices.Contains(places[:i], x) {
			t.Errorf("the node %d is another one, too", i)
		}
	}
}
