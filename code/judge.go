package code

import (
	"proteus/api"
	"proteus/parse"
)

// maxBlocks is how many blocks there are at most from a block by Outer on.
const maxBlocks = 20

// pieces are pieces of code that are judged.
type pieces struct {
	all     []api.Code
	shapes  [api.OpLeave + 1]shape
	depths  []int          // of each piece up to that which is judged: how many blocks there are from it by Outer on
	made    []int          // of each piece: how many instructions make it as a block
	arities map[string]int // of texts that were met, as most of them are met again
}

// judge judges one piece of code among all.
type judge struct {
	*api.Code
	*pieces
	at         int
	lits, sels int // how many of Lits and Sels were used so far
}

// areRight reports whether pieces of code, of which there are not too many, are right.
func areRight(l []api.Code) bool {
	p := &pieces{l, shapes(), make([]int, len(l)), make([]int, len(l)), map[string]int{}}
	for at := range l {
		j := judge{Code: &l[at], pieces: p, at: at}
		if !j.isNamed() || !j.hasVariables() || !j.isTight() {
			return false
		}
	}
	for at := range l {
		if l[at].Block && p.made[at] != 1 {
			return false
		}
	}
	return true
}

// has reports whether a text is a selector, or a primitive one, with so many arguments.
func (p *pieces) has(sel string, args int) bool {
	arity, known := p.arities[sel]
	if !known {
		arity = parse.Arity(sel)
		p.arities[sel] = arity
	}
	return args >= 0 && arity == args
}

func (p *pieces) isSelector(sel string, args int) bool {
	return !isPrimitive(sel) && p.has(sel, args)
}

// isName reports whether a text is a name, which is the same as a unary selector.
func (p *pieces) isName(s string) bool { return p.isSelector(s, 0) }

// isNamed judges what a piece is called, and where it stands.
func (j *judge) isNamed() bool {
	if !j.Block {
		return j.Outer == -1 && j.isSelector(j.Name, j.Args)
	}
	if j.Outer < 0 || j.Outer >= j.at {
		return false
	}
	j.depths[j.at] = j.depths[j.Outer] + 1
	name, errno := BlockName(j.Args)
	return errno == api.OK && j.Name == name && j.depths[j.at] <= maxBlocks
}

// hasVariables judges Names and Init. Args need no look: no selector has more parts than there may be arguments.
func (j *judge) hasVariables() bool {
	if len(j.Names) > api.MaxSlots {
		return false
	}
	return j.Args+len(j.Init) == len(j.Names) && allOf(j.Names, j.isName) && allDifferent(j.Names) && allOf(j.Init, isValue)
}

// isTight judges the instructions of a piece, and whether it has no more texts and values than they use.
func (j *judge) isTight() bool {
	if len(j.Instrs) == 0 || len(j.Instrs) > api.MaxInstrs || !j.runs() {
		return false
	}
	return j.lits == len(j.Lits) && j.sels == len(j.Sels) && allOf(j.Lits, isValue)
}

// runs judges the instructions one after the other, with the height of the stack.
func (j *judge) runs() bool {
	height, last := 0, len(j.Instrs)-1
	for at, i := range j.Instrs {
		if i.Op < api.OpConst || i.Op > api.OpLeave || ends(i.Op) != (at == last) {
			return false
		}
		s := &j.shapes[i.Op]
		if !s.right(j, i) || s.taken(i) > height || at == last && height != 1 {
			return false
		}
		height += s.puts - s.taken(i)
		if height > api.MaxStack || i.Op == api.OpPop && height != 0 {
			return false
		}
	}
	return true
}

func (j *judge) isPlain(i api.Instr) bool { return i == api.Instr{Op: i.Op} }

func (j *judge) isLeave(i api.Instr) bool { return j.Block && j.isPlain(i) }

func (j *judge) isConst(i api.Instr) bool {
	return i.B == 0 && i.C == 0 && uses(&j.lits, j.Lits, i.A)
}

func (j *judge) isSend(i api.Instr) bool { return i.C == 0 && j.sends(i) }

func (j *judge) isResend(i api.Instr) bool {
	if !j.sends(i) {
		return false
	}
	name := i.C - 1
	return i.C == 0 || uses(&j.sels, j.Sels, name) && j.isName(j.Sels[name])
}

// sends judges the selector and the number of arguments of a message.
func (j *judge) sends(i api.Instr) bool {
	return uses(&j.sels, j.Sels, i.A) && j.isSelector(j.Sels[i.A], i.B)
}

func (j *judge) isPrim(i api.Instr) bool {
	return (i.C == 0 || i.C == 1) && uses(&j.sels, j.Sels, i.A) && isPrimitive(j.Sels[i.A]) && j.has(j.Sels[i.A], i.B)
}

func (j *judge) isBlock(i api.Instr) bool {
	if i.B != 0 || i.C != 0 || i.A < 0 || i.A >= len(j.all) {
		return false
	}
	j.made[i.A]++
	block := &j.all[i.A]
	return block.Block && block.Outer == j.at
}

// uses reports whether the thing with an index may be used next: it is one of the first ones in its table, of which so many were used, or the one behind these, and none of them.
func uses[T comparable](used *int, table []T, at int) bool {
	if at == *used && at < len(table) && find(table, table[at]) == at {
		*used++
	}
	return 0 <= at && at < *used
}
