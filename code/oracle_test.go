package code_test

import (
	stdbig "math/big"
	"regexp"
	"slices"
	"strings"

	"proteus/api"
)

// The chapter once more, written down in another way: answers that owe nothing to the package.

var (
	unary   = regexp.MustCompile(`\A[a-z][a-zA-Z0-9]{0,23}\z`)
	binary  = regexp.MustCompile(`\A[-+*/%<>=~&@!?]{1,3}\z`)
	keyword = regexp.MustCompile(`\A[a-z][a-zA-Z0-9]{0,23}:([A-Z][a-zA-Z0-9]{0,23}:){0,7}\z`)
	prims   = regexp.MustCompile(`\A_[A-Z][a-zA-Z0-9]{0,23}(:([A-Z][a-zA-Z0-9]{0,23}:){0,7})?\z`)
	failing = regexp.MustCompile(`:IfFail:`)
	decimal = regexp.MustCompile(`\A(0|-?[1-9][0-9]{0,399})\z`)
	shown   = regexp.MustCompile(`\A[ -~]*\z`)
)

func isName(s string) bool { return unary.MatchString(s) && s != "self" && s != "resend" }

// arityOf returns the arity of a selector, and whether it is one.
func arityOf(s string) (int, bool) {
	switch {
	case isName(s):
		return 0, true
	case binary.MatchString(s) && s != "=" && s != "<-":
		return 1, true
	case keyword.MatchString(s) && !failing.MatchString(s) && len(s) <= 80:
		return strings.Count(s, ":"), true
	}
	return 0, false
}

// arityOfPrim returns the arity of a primitive selector, and whether it is one.
func arityOfPrim(s string) (int, bool) {
	return strings.Count(s, ":"), prims.MatchString(s) && !failing.MatchString(s) && len(s) <= 80
}

func isVal(v api.Val) bool {
	switch v.K {
	case api.VInt:
		return v.T == ""
	case api.VBig:
		n, _ := new(stdbig.Int).SetString(v.T, 10)
		return v.N == 0 && decimal.MatchString(v.T) && !n.IsInt64()
	case api.VStr:
		return v.N == 0 && len(v.T) <= 20000 && shown.MatchString(v.T)
	case api.VRef:
		return v.N >= 1 && v.N <= 1<<40 && v.T == ""
	}
	return false
}

var blockNames = []string{"value", "value:", "value:With:", "value:With:With:", "value:With:With:With:", "value:With:With:With:With:", "value:With:With:With:With:With:", "value:With:With:With:With:With:With:", "value:With:With:With:With:With:With:With:"}

// isRight reports whether pieces of code are right: the chapter's four points, each by itself.
func isRight(l []api.Code) bool {
	if len(l) > 800 {
		return false
	}
	for at := range l {
		if !hasRightPlace(l, at) || !hasRightVariables(l[at]) || !usesRight(l[at]) || !runsRight(l, at) {
			return false
		}
	}
	return true
}

// hasRightPlace is point 1.
func hasRightPlace(l []api.Code, at int) bool {
	c := l[at]
	if !c.Block {
		n, ok := arityOf(c.Name)
		return ok && n == c.Args && c.Outer == -1
	}
	if c.Outer < 0 || c.Outer >= at || c.Args < 0 || c.Args > 8 || c.Name != blockNames[c.Args] {
		return false
	}
	count := 0
	for _, d := range l {
		for _, i := range d.Instrs {
			if i.Op == api.OpBlock && i.A == at {
				count++
			}
		}
	}
	blocks := 0
	for i := at; i >= 0 && i < len(l) && l[i].Block && blocks < 30; i = l[i].Outer {
		blocks++
	}
	return count == 1 && blocks <= 20
}

// hasRightVariables is point 2.
func hasRightVariables(c api.Code) bool {
	names := map[string]bool{}
	for _, name := range c.Names {
		if !isName(name) {
			return false
		}
		names[name] = true
	}
	return len(names) == len(c.Names) && len(names) <= 40 && c.Args >= 0 && c.Args <= 8 && c.Args <= len(names) && len(c.Init) == len(names)-c.Args && !slices.ContainsFunc(c.Init, func(v api.Val) bool { return !isVal(v) })
}

// usesRight is point 3: the tables have what the instructions use, as it would be put down from the beginning on.
func usesRight(c api.Code) bool {
	var lits, sels []int
	note := func(l []int, i int) []int {
		if slices.Contains(l, i) {
			return l
		}
		return append(l, i)
	}
	for _, i := range c.Instrs {
		switch i.Op {
		case api.OpConst:
			lits = note(lits, i.A)
		case api.OpSend, api.OpImp, api.OpPrim:
			sels = note(sels, i.A)
		case api.OpResend:
			sels = note(sels, i.A)
			if i.C != 0 {
				sels = note(sels, i.C-1)
			}
		}
	}
	different := map[any]bool{}
	for _, v := range c.Lits {
		different[v] = isVal(v)
	}
	for _, s := range c.Sels {
		different[s] = true
	}
	for _, ok := range different {
		if !ok {
			return false
		}
	}
	return len(different) == len(c.Lits)+len(c.Sels) && countsUp(lits, len(c.Lits)) && countsUp(sels, len(c.Sels))
}

func countsUp(l []int, n int) bool {
	for i, x := range l {
		if x != i {
			return false
		}
	}
	return len(l) == n
}

// effect returns what an instruction takes and puts, and whether its operands are right.
func effect(l []api.Code, at int, x api.Instr) (int, int, bool) {
	c := l[at]
	plain := x.A == 0 && x.B == 0 && x.C == 0
	message := func() bool {
		if x.A < 0 || x.A >= len(c.Sels) {
			return false
		}
		n, ok := arityOf(c.Sels[x.A])
		return ok && n == x.B
	}
	switch x.Op {
	case api.OpConst:
		return 0, 1, x.A >= 0 && x.A < len(c.Lits) && x.B == 0 && x.C == 0
	case api.OpSelf:
		return 0, 1, plain
	case api.OpSend:
		return x.B + 1, 1, message() && x.C == 0
	case api.OpImp:
		return x.B, 1, message() && x.C == 0
	case api.OpResend:
		return x.B, 1, message() && (x.C == 0 || x.C >= 1 && x.C <= len(c.Sels) && isName(c.Sels[x.C-1]))
	case api.OpPrim:
		if x.A < 0 || x.A >= len(c.Sels) {
			return 0, 0, false
		}
		n, ok := arityOfPrim(c.Sels[x.A])
		return x.B + x.C + 1, 1, ok && n == x.B && (x.C == 0 || x.C == 1)
	case api.OpBlock:
		return 0, 1, x.A >= 0 && x.A < len(l) && x.B == 0 && x.C == 0 && l[x.A].Block && l[x.A].Outer == at
	case api.OpPop, api.OpRet:
		return 1, 0, plain
	case api.OpLeave:
		return 1, 0, plain && c.Block
	}
	return 0, 0, false
}

// runsRight is point 4.
func runsRight(l []api.Code, at int) bool {
	instrs := l[at].Instrs
	if len(instrs) < 1 || len(instrs) > 400 {
		return false
	}
	height := 0
	for i, x := range instrs {
		takes, puts, ok := effect(l, at, x)
		last := i == len(instrs)-1
		if !ok || takes > height || last != (x.Op == api.OpRet || x.Op == api.OpLeave) || last && height != 1 {
			return false
		}
		height += puts - takes
		if height > 100 || x.Op == api.OpPop && height != 0 {
			return false
		}
	}
	return true
}

// blocksOf returns the NBlocks of a tree, in the order in which they begin.
func blocksOf(n *api.Node) []*api.Node {
	var l []*api.Node
	if n.Kind == api.NBlock {
		l = append(l, n)
	}
	for i := range n.Subs {
		l = append(l, blocksOf(&n.Subs[i])...)
	}
	return l
}

// codeOf returns the pieces of code of an NMethod that has code: each scope by itself, when all of them have their indices.
func codeOf(n api.Node, name string, vals []api.Val) []api.Code {
	scopes := append([]*api.Node{&n}, blocksOf(&n)...)
	l := make([]api.Code, len(scopes))
	for at, s := range scopes {
		l[at].Name = name
		if at > 0 {
			l[at].Block, l[at].Name = true, blockNames[argsOf(*s)]
		}
		l[at].Outer = -1
		for outer := range at {
			if slices.Contains(blocksOf(scopes[outer])[min(outer, 1):], s) {
				l[at].Outer = outer // of those around it the one that begins last
			}
		}
		fill(&l[at], s, scopes, vals)
	}
	return l
}

func fill(c *api.Code, s *api.Node, scopes []*api.Node, vals []api.Val) {
	for _, slot := range s.Subs[:s.Num] {
		c.Names = append(c.Names, slot.Text)
		if slot.Num == api.SArg {
			c.Args++
		} else if len(slot.Subs) == 0 {
			c.Init = append(c.Init, null)
		} else {
			c.Init = append(c.Init, meant(slot.Subs[0], vals))
		}
	}
	end := api.OpRet
	for i := s.Num; i < len(s.Subs); i++ {
		if i > s.Num {
			c.Instrs = append(c.Instrs, api.Instr{Op: api.OpPop})
		}
		for _, n := range postfix(&s.Subs[i]) {
			c.Instrs = append(c.Instrs, instr(c, n, scopes, vals))
		}
		if s.Subs[i].Kind == api.NReturn && s.Kind == api.NBlock {
			end = api.OpLeave
		}
	}
	if len(s.Subs) == s.Num && s.Kind == api.NBlock {
		c.Lits, c.Instrs = []api.Val{null}, []api.Instr{{Op: api.OpConst}}
	} else if len(s.Subs) == s.Num {
		c.Instrs = []api.Instr{{Op: api.OpSelf}}
	}
	c.Instrs = append(c.Instrs, api.Instr{Op: end})
}

// meant returns the value that a literal or an NValue means.
func meant(n api.Node, vals []api.Val) api.Val {
	if n.Kind == api.NValue {
		return vals[n.Num]
	}
	if n.Kind == api.NStr {
		return quoted(n.Text)
	}
	x, _ := new(stdbig.Int).SetString(n.Text, 10)
	if x.IsInt64() {
		return whole(int(x.Int64()))
	}
	return large(n.Text)
}

// postfix returns the nodes of an expression, each behind its Subs, without those within blocks and without the NReturn around it.
func postfix(n *api.Node) []*api.Node {
	if n.Kind == api.NBlock {
		return []*api.Node{n}
	}
	var l []*api.Node
	for i := range n.Subs {
		l = append(l, postfix(&n.Subs[i])...)
	}
	if n.Kind == api.NReturn {
		return l
	}
	return append(l, n)
}

func instr(c *api.Code, n *api.Node, scopes []*api.Node, vals []api.Val) api.Instr {
	sel := func(s string) int {
		if !slices.Contains(c.Sels, s) {
			c.Sels = append(c.Sels, s)
		}
		return slices.Index(c.Sels, s)
	}
	switch n.Kind {
	case api.NSelf:
		return api.Instr{Op: api.OpSelf}
	case api.NBlock:
		return api.Instr{Op: api.OpBlock, A: slices.Index(scopes, n)}
	case api.NSend:
		return api.Instr{Op: api.OpSend, A: sel(n.Text), B: len(n.Subs) - 1}
	case api.NImp:
		return api.Instr{Op: api.OpImp, A: sel(n.Text), B: len(n.Subs)}
	case api.NPrim:
		return api.Instr{Op: api.OpPrim, A: sel(n.Text), B: len(n.Subs) - 1 - n.Num, C: n.Num}
	case api.NResend:
		x := api.Instr{Op: api.OpResend, B: len(n.Subs)}
		if i := strings.Index(n.Text, "."); i >= 0 {
			x.A = sel(n.Text[i+1:])
			x.C = sel(n.Text[:i]) + 1
		} else {
			x.A = sel(n.Text)
		}
		return x
	}
	v := meant(*n, vals)
	if !slices.Contains(c.Lits, v) {
		c.Lits = append(c.Lits, v)
	}
	return api.Instr{Op: api.OpConst, A: slices.Index(c.Lits, v)}
}

// heightsOf returns the height ahead of each instruction of the code of a scope, by its tree.
func heightsOf(s api.Node) []int {
	var l []int
	var walk func(n api.Node, height int)
	walk = func(n api.Node, height int) {
		if n.Kind == api.NReturn {
			walk(n.Subs[0], height)
			return
		}
		count := len(n.Subs)
		if n.Kind == api.NBlock {
			count = 0
		}
		for i := range count {
			walk(n.Subs[i], height+i)
		}
		l = append(l, height+count)
	}
	for i := s.Num; i < len(s.Subs); i++ {
		walk(s.Subs[i], 0)
		l = append(l, 1)
	}
	if len(l) == 0 {
		return []int{0, 1}
	}
	return l
}
