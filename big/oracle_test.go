package big_test

import (
	"iter"
	"math"
	stdbig "math/big"
	"math/rand/v2"
	"strconv"
	"strings"
	"testing"

	"proteus/api"
	"proteus/big"
)

type binary = func(a, b api.Val) (api.Val, api.Errno)

// valueOf returns the Val of a number, by another package and the chapter's section Numbers.
func valueOf(x *stdbig.Int) api.Val {
	if x.IsInt64() {
		return api.Val{K: api.VInt, N: int(x.Int64())}
	}
	return api.Val{K: api.VBig, T: x.String()}
}

func isTooLarge(x *stdbig.Int) bool { return len(new(stdbig.Int).Abs(x).String()) > api.MaxDigits }

// answerOf returns what a function answers whose result is a number.
func answerOf(x *stdbig.Int) (api.Val, api.Errno) {
	if isTooLarge(x) {
		return api.Val{}, api.ErrLimit
	}
	return valueOf(x), api.OK
}

// bigOf returns the number of a Val.
func bigOf(v api.Val) *stdbig.Int {
	if v.K == api.VInt {
		return stdbig.NewInt(int64(v.N))
	}
	x, _ := new(stdbig.Int).SetString(v.T, 10)
	return x
}

// number returns the number with a text, which is right.
func number(text string) api.Val {
	x, ok := new(stdbig.Int).SetString(text, 10)
	if !ok {
		panic(text)
	}
	return valueOf(x)
}

func whole(n int) api.Val { return api.Val{K: api.VInt, N: n} }

func nines(count int) string { return strings.Repeat("9", count) }

// ten returns the text of 10 to the power of a count.
func ten(count int) string { return "1" + strings.Repeat("0", count) }

// source returns random numbers, the same ones each time.
func source() *rand.Rand { return rand.New(rand.NewPCG(3, 9)) }

// randomText returns the text of a number with so many digits, of which many are 0 or 9, in rows.
func randomText(r *rand.Rand, count int) string {
	l := []byte{byte('1' + r.IntN(9))}
	for len(l) < count {
		digit, length := strconv.Itoa(r.IntN(10)), 1
		if r.IntN(3) == 0 {
			digit, length = []string{"0", "9", "5", "4"}[r.IntN(4)], 1+r.IntN(13)
		}
		l = append(l, strings.Repeat(digit, length)...)
	}
	sign := []string{"", "-"}[r.IntN(2)]
	return sign + string(l[:count])
}

// edges returns numbers at which something changes, and their neighbours.
func edges() []api.Val {
	var texts []string
	for _, e := range []int{1, 3, 6, 8, 9, 12, 16, 18, 19, 36, 199, 200, 399} {
		texts = append(texts, ten(e))
	}
	for _, e := range []uint{2, 31, 32, 53, 62, 63, 64, 128, 1328} {
		texts = append(texts, new(stdbig.Int).Lsh(stdbig.NewInt(1), e).String())
	}
	root := new(stdbig.Int).Sqrt(bigOf(number("5" + strings.Repeat("0", 399))))
	texts = append(texts, "0", root.String(), "5"+strings.Repeat("0", 399), "33"+strings.Repeat("0", 398))
	seen := map[api.Val]bool{}
	var l []api.Val
	for _, text := range texts {
		for d := int64(-1); d <= 1; d++ {
			x := bigOf(number(text))
			for _, y := range []*stdbig.Int{x.Add(x, stdbig.NewInt(d)), new(stdbig.Int).Neg(x)} {
				if v := valueOf(y); !seen[v] {
					seen[v] = true
					l = append(l, v)
				}
			}
		}
	}
	return append(l, number(nines(400)), number("-"+nines(400)))
}

// numbers returns the edges, and random numbers of all lengths.
func numbers() []api.Val {
	l := edges()
	r := source()
	for count := 1; count <= api.MaxDigits; count += 1 + count/8 {
		l = append(l, number(randomText(r, count)), number(randomText(r, count)))
	}
	return append(l, number(randomText(r, api.MaxDigits)), number(randomText(r, api.MaxDigits)))
}

// pairs yields each two of some numbers.
func pairs(l []api.Val) iter.Seq2[api.Val, api.Val] {
	return func(yield func(a, b api.Val) bool) {
		for _, a := range l {
			for _, b := range l {
				if !yield(a, b) {
					return
				}
			}
		}
	}
}

// triples yields some three numbers, of such lengths that many products of two, and some of three, are small enough.
func triples() iter.Seq2[[3]api.Val, int] {
	return func(yield func(l [3]api.Val, i int) bool) {
		r, all := source(), edges()
		for i := range 20000 {
			var l [3]api.Val
			for j := range l {
				l[j] = number(randomText(r, 1+r.IntN([]int{3, 20, 40, 134, 200, 260}[r.IntN(6)])))
				if r.IntN(4) == 0 {
					l[j] = all[r.IntN(len(all))]
				}
			}
			if !yield(l, i) {
				return
			}
		}
	}
}

// done returns what a function makes of two numbers, and whether it makes something.
func done(t *testing.T, f binary, a, b api.Val) (api.Val, bool) {
	t.Helper()
	v, errno := f(a, b)
	if errno == api.OK {
		if check := big.Check(v); check != api.OK {
			t.Fatalf("%v and %v give %v: %v", a, b, v, check)
		}
	}
	return v, errno == api.OK
}

// less reports what Less answers.
func less(t *testing.T, a, b api.Val) bool {
	t.Helper()
	is, errno := big.Less(a, b)
	if errno != api.OK {
		t.Fatalf("Less of %v and %v: %v", a, b, errno)
	}
	return is
}

// chain is what is done one by one, as far as no function returns an error.
type chain struct {
	t  *testing.T
	ok bool
}

// of does something with two numbers.
func (c *chain) of(f binary, a, b api.Val) api.Val {
	c.t.Helper()
	if !c.ok {
		return api.Val{}
	}
	v, ok := done(c.t, f, a, b)
	c.ok = ok
	return v
}

// power returns a power.
func (c *chain) power(a api.Val, n int) api.Val {
	c.t.Helper()
	return c.of(func(a, b api.Val) (api.Val, api.Errno) { return big.Pow(a, b.N) }, a, whole(n))
}

// counter counts how often a chain ended, so that no test checks nothing.
type counter struct{ ended, of int }

func (n *counter) count(c *chain) bool {
	n.of++
	if c.ok {
		n.ended++
	}
	return c.ok
}

func (n *counter) atLeast(t *testing.T, part float64) {
	t.Helper()
	if float64(n.ended) < part*float64(n.of) {
		t.Errorf("only %d of %d cases have results", n.ended, n.of)
	}
}

var (
	least    = whole(math.MinInt64)
	greatest = whole(math.MaxInt64)
	above    = api.Val{K: api.VBig, T: "9223372036854775808"}
	below    = api.Val{K: api.VBig, T: "-9223372036854775809"}
)
