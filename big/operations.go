package big

import "proteus/api"

// operation is what is done with two numbers to make a third one.
type operation int

const (
	add operation = iota
	subtract
	multiply
	divide
	findRest
	findDivisor
	operationCount
)

// rule tells how an operation is done, and whether it divides by the second number.
type rule struct {
	do      func(a, b number) number
	divides bool
}

func rules() [operationCount]rule {
	return [...]rule{
		add:         {do: number.plus},
		subtract:    {do: number.minus},
		multiply:    {do: number.times},
		divide:      {do: number.quotient, divides: true},
		findRest:    {do: number.rest, divides: true},
		findDivisor: {do: number.divisor},
	}
}

// reckoned returns what an operation makes of two numbers.
func reckoned(op operation, a, b api.Val) (api.Val, api.Errno) {
	x, y, errno := numbersOf(a, b)
	if errno != api.OK {
		return api.Val{}, errno
	}
	r := rules()[op]
	if r.divides && y.sign == 0 {
		return api.Val{}, api.ErrZero
	}
	return limited(func() number { return r.do(x, y) })
}

// limited returns the number that a function makes, unless it is too large.
func limited(reckon func() number) (v api.Val, errno api.Errno) {
	defer func() {
		if _, ok := recover().(tooLarge); ok {
			v, errno = api.Val{}, api.ErrLimit
		}
	}()
	return valOf(reckon().text()), api.OK
}
