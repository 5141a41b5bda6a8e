package big

import (
	"cmp"
	"iter"
	"slices"
	"strconv"
	"strings"
)

// The base leaves room in 64 bits for numbers of three digits, and for sums of products of digits.
const (
	baseDigits = 6
	base       = 1_000_000
)

// digits are the digits to the base of a number that is not below 0, the lowest one first, without zeros at the end.
type digits []int

// carried yields the digits of the number that columns make, in each of which there may be more than a digit, or less than 0, if it is not below 0 altogether.
func carried(columns []int) iter.Seq[int] {
	return func(yield func(digit int) bool) {
		carry := 0
		for i := 0; i < len(columns) || carry > 0; i++ {
			if i < len(columns) {
				carry += columns[i]
			}
			digit := (carry%base + base) % base
			if !yield(digit) {
				return
			}
			carry = (carry - digit) / base
		}
	}
}

// settled returns the digits of the number that columns make.
func settled(columns []int) digits {
	d := make(digits, 0, len(columns)+1)
	for digit := range carried(columns) {
		d = append(d, digit)
	}
	for len(d) > 0 && d[len(d)-1] == 0 {
		d = d[:len(d)-1]
	}
	return d
}

// digitsOf returns the digits of a number that is written in decimal.
func digitsOf(decimal string) digits {
	var columns []int
	for end := len(decimal); end > 0; end -= baseDigits {
		digit, _ := strconv.Atoi(decimal[max(end-baseDigits, 0):end])
		columns = append(columns, digit)
	}
	return settled(columns)
}

// decimal returns the digits as they are written in decimal.
func (d digits) decimal() string {
	var b strings.Builder
	for _, digit := range slices.Backward(d) {
		b.WriteString(strconv.Itoa(base + digit)[1:]) // with zeros ahead
	}
	return cmp.Or(strings.TrimLeft(b.String(), "0"), "0")
}

// count returns the length of decimal.
func (d digits) count() int {
	if len(d) == 0 {
		return 1
	}
	last := len(d) - 1
	return last*baseDigits + len(strconv.Itoa(d[last]))
}

// at returns the digit with an index; 0 outside.
func (d digits) at(i int) int {
	if i < 0 || i >= len(d) {
		return 0
	}
	return d[i]
}

func (d digits) compare(e digits) int {
	if len(d) != len(e) {
		return cmp.Compare(len(d), len(e))
	}
	for i, digit := range slices.Backward(d) {
		if digit != e[i] {
			return cmp.Compare(digit, e[i])
		}
	}
	return 0
}

// plusTimes returns the sum of d and n times e, which is not below 0.
func (d digits) plusTimes(n int, e digits) digits {
	columns := make([]int, max(len(d), len(e)))
	copy(columns, d)
	for i, digit := range e {
		columns[i] += n * digit
	}
	return settled(columns)
}

func (d digits) product(e digits) digits {
	columns := make([]int, len(d)+len(e))
	for i, x := range d {
		for j, y := range e {
			columns[i+j] += x * y
		}
	}
	return settled(columns)
}

// over returns the quotient of d by e, which is not 0, and the rest: digit by digit from the highest one on, as it is done on paper.
func (d digits) over(e digits) (digits, digits) {
	quotient := make([]int, len(d))
	var rest digits
	for i, digit := range slices.Backward(d) {
		rest = settled(append([]int{digit}, rest...))
		q := rest.guess(e)
		for rest.compare(e.product(digits{q})) < 0 {
			q--
		}
		quotient[i] = q
		rest = rest.plusTimes(-q, e)
	}
	return settled(quotient), rest
}

// guess returns the quotient of d by e if it is less than the base, or one more: from three digits of d and two of e, which is not 0.
func (d digits) guess(e digits) int {
	top := len(e) - 1
	ahead := (d.at(top+1)*base+d.at(top))*base + d.at(top-1)
	return ahead / (e.at(top)*base + e.at(top-1))
}
