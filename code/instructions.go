package code

import "proteus/api"

// shape tells of the instructions with an Op how many values they take off the stack, but for arguments, how many they put there, and whether their operands are right.
type shape struct {
	takes, puts int
	right       func(j *judge, i api.Instr) bool
}

// shapes returns the shape of each Op.
func shapes() [api.OpLeave + 1]shape {
	return [...]shape{
		api.OpConst:  {0, 1, (*judge).isConst},
		api.OpSelf:   {0, 1, (*judge).isPlain},
		api.OpSend:   {1, 1, (*judge).isSend},
		api.OpImp:    {0, 1, (*judge).isSend},
		api.OpResend: {0, 1, (*judge).isResend},
		api.OpPrim:   {1, 1, (*judge).isPrim},
		api.OpBlock:  {0, 1, (*judge).isBlock},
		api.OpPop:    {1, 0, (*judge).isPlain},
		api.OpRet:    {1, 0, (*judge).isPlain},
		api.OpLeave:  {1, 0, (*judge).isLeave},
	}
}

// taken returns how many values a right instruction takes off the stack: B counts arguments wherever it is not 0.
func (s *shape) taken(i api.Instr) int {
	if i.Op == api.OpPrim {
		return s.takes + i.B + i.C
	}
	return s.takes + i.B
}

func heights(l []api.Instr) []int {
	all := shapes()
	var hs []int
	height := 0
	for _, i := range l {
		hs = append(hs, height)
		s := &all[i.Op]
		height += s.puts - s.taken(i)
	}
	return hs
}

// ends reports whether an Op ends a piece of code.
func ends(op int) bool { return op == api.OpRet || op == api.OpLeave }
