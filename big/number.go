package big

import (
	"strings"

	"proteus/api"
)

// number is a number: its sign, which is -1, 0 or 1, and the digits of its distance from 0.
type number struct {
	sign int
	digits
}

// tooLarge is that a number has more than MaxDigits digits: reckoning panics with it.
type tooLarge struct{}

// signed returns the number with a sign, or 0, and digits.
func signed(sign int, d digits) number {
	if d.count() > api.MaxDigits {
		panic(tooLarge{})
	}
	if len(d) == 0 {
		sign = 0
	}
	return number{sign, d}
}

// read returns the number with a text.
func read(text string) number {
	decimal, below := strings.CutPrefix(text, "-")
	if below {
		return signed(-1, digitsOf(decimal))
	}
	return signed(1, digitsOf(decimal))
}

// small returns a number above 0 that is less than the base.
func small(n int) number { return number{1, digits{n}} }

func (a number) text() string {
	if a.sign < 0 {
		return "-" + a.decimal()
	}
	return a.decimal()
}

// greaterFirst returns two things, the greater one first.
func greaterFirst[T any](a, b T, less func(a, b T) bool) (T, T) {
	if less(a, b) {
		return b, a
	}
	return a, b
}

// nearer reports whether a is nearer to 0 than b.
func (a number) nearer(b number) bool { return a.compare(b.digits) < 0 }

func (a number) less(b number) bool {
	if a.sign != b.sign {
		return a.sign < b.sign
	}
	return a.sign*a.compare(b.digits) < 0
}

func (a number) negated() number { return number{-a.sign, a.digits} }

// plus returns the sum, whose sign is that of the one further from 0.
func (a number) plus(b number) number {
	far, near := greaterFirst(a, b, number.nearer)
	return signed(far.sign, far.plusTimes(far.sign*near.sign, near.digits))
}

func (a number) minus(b number) number { return a.plus(b.negated()) }

func (a number) times(b number) number { return signed(a.sign*b.sign, a.product(b.digits)) }

// divided returns the quotient, rounded down, and the rest; b is not 0. The rest is not a less b times the quotient, as that product may be too large.
func (a number) divided(b number) (number, number) {
	q, r := a.over(b.digits)
	quotient, rest := signed(a.sign*b.sign, q), signed(a.sign, r)
	if rest.sign*b.sign < 0 {
		return quotient.minus(small(1)), rest.plus(b)
	}
	return quotient, rest
}

func (a number) quotient(b number) number {
	q, _ := a.divided(b)
	return q
}

func (a number) rest(b number) number {
	_, r := a.divided(b)
	return r
}

// divisor returns the greatest number that divides both.
func (a number) divisor(b number) number {
	for b.sign != 0 {
		a, b = b, a.rest(b)
	}
	return number{a.sign * a.sign, a.digits}
}

// power returns the product of n numbers a. Unless a is 0, no number on the way is further from 0 than the result, so none is too large if this is not.
func (a number) power(n int) number {
	if n == 0 {
		return small(1)
	}
	half := a.power(n / 2)
	square := half.times(half)
	if n%2 == 0 {
		return square
	}
	return square.times(a)
}

// root returns the root, rounded down, of a number that is not below 0: from above, step by step after Newton, as long as the steps lead down.
func (a number) root() number {
	if a.sign == 0 {
		return a
	}
	x := small(10).power((a.count() + 1) / 2)
	for {
		y := x.plus(a.quotient(x)).quotient(small(2))
		if !y.less(x) {
			return x
		}
		x = y
	}
}
