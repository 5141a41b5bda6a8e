package big_test

import (
	"math"
	stdbig "math/big"
	"strings"
	"testing"

	"proteus/api"
	"proteus/big"
)

// P3.1

func TestExamples(t *testing.T) {
	div, mod := big.Div, big.Mod
	for _, x := range []struct {
		name string
		do   binary
		a, b string
		want api.Val
	}{
		{"Add", big.Add, "9223372036854775807", "1", api.Val{K: api.VBig, T: "9223372036854775808"}},
		{"Sub", big.Sub, "9223372036854775808", "1", api.Val{K: api.VInt, N: math.MaxInt64}},
		{"Mul", big.Mul, "4294967296", "4294967296", api.Val{K: api.VBig, T: "18446744073709551616"}},
		{"Div", div, "-7", "2", whole(-4)}, {"Mod", mod, "-7", "2", whole(1)},
		{"Div", div, "7", "-2", whole(-4)}, {"Mod", mod, "7", "-2", whole(-1)},
		{"Div", div, "7", "2", whole(3)}, {"Mod", mod, "7", "2", whole(1)},
		{"Div", div, "-7", "-2", whole(3)}, {"Mod", mod, "-7", "-2", whole(-1)},
		{"Div", div, "-8", "2", whole(-4)}, {"Mod", mod, "-8", "2", whole(0)},
		{"Gcd", big.Gcd, "12", "-18", whole(6)}, {"Gcd", big.Gcd, "0", "-5", whole(5)}, {"Gcd", big.Gcd, "0", "0", whole(0)},
	} {
		if v, errno := x.do(number(x.a), number(x.b)); v != x.want || errno != api.OK {
			t.Errorf("%s %s, %s: %v, %v", x.name, x.a, x.b, v, errno)
		}
	}
	for _, x := range []struct {
		a    int
		n    int
		want api.Val
	}{{2, 64, number("18446744073709551616")}, {0, 0, whole(1)}, {0, 1, whole(0)}, {7, 0, whole(1)}, {7, 1, whole(7)}, {-2, 63, whole(math.MinInt64)}, {-2, 2, whole(4)}} {
		if v, errno := big.Pow(whole(x.a), x.n); v != x.want || errno != api.OK {
			t.Errorf("Pow %d, %d: %v, %v", x.a, x.n, v, errno)
		}
	}
	if v, errno := big.Root(whole(99)); v != whole(9) || errno != api.OK {
		t.Errorf("Root 99: %v, %v", v, errno)
	}
}

// TestAgainstOracle compares all functions of two numbers with those of another package.
func TestAgainstOracle(t *testing.T) {
	for a, b := range pairs(numbers()) {
		x, y := bigOf(a), bigOf(b)
		checkAnswer(t, "Add", big.Add, a, b, new(stdbig.Int).Add(x, y))
		checkAnswer(t, "Sub", big.Sub, a, b, new(stdbig.Int).Sub(x, y))
		checkAnswer(t, "Mul", big.Mul, a, b, new(stdbig.Int).Mul(x, y))
		if y.Sign() != 0 {
			q, r := floor(x, y)
			checkAnswer(t, "Div", big.Div, a, b, q)
			checkAnswer(t, "Mod", big.Mod, a, b, r)
		}
		if is, errno := big.Less(a, b); is != (x.Cmp(y) < 0) || errno != api.OK {
			t.Fatalf("Less of %v and %v: %v, %v", a, b, is, errno)
		}
	}
}

// floor returns the quotient, rounded down, and the rest.
func floor(x, y *stdbig.Int) (*stdbig.Int, *stdbig.Int) {
	q, r := new(stdbig.Int).QuoRem(x, y, new(stdbig.Int))
	if r.Sign()*y.Sign() < 0 {
		q.Sub(q, stdbig.NewInt(1))
		r.Add(r, y)
	}
	return q, r
}

func checkAnswer(t *testing.T, name string, f binary, a, b api.Val, want *stdbig.Int) {
	t.Helper()
	v, errno := f(a, b)
	if wantV, wantErrno := answerOf(want); v != wantV || errno != wantErrno {
		t.Fatalf("%s of %v and %v: %v, %v; want %v, %v", name, a, b, v, errno, wantV, wantErrno)
	}
}

func TestDivisorsAgainstOracle(t *testing.T) {
	l := numbers()
	r := source()
	for range 4000 {
		a, b := l[r.IntN(len(l))], l[r.IntN(len(l))]
		x, y := bigOf(a), bigOf(b)
		checkAnswer(t, "Gcd", big.Gcd, a, b, new(stdbig.Int).GCD(nil, nil, x.Abs(x), y.Abs(y)))
	}
}

func TestPowersAndRootsAgainstOracle(t *testing.T) {
	for _, a := range numbers() {
		x := bigOf(a)
		for _, n := range []int{0, 1, 2, 3, 4, 5, 7, 8, 20, 21, 22, 57, 399, 400, 401, 1328, 1329, 1999, 2000} {
			v, errno := big.Pow(a, n)
			want, wantErrno := api.Val{}, api.ErrLimit
			if x.BitLen() < 2 || (x.BitLen()-1)*n < 1400 { // more than 1400 bits are too large
				want, wantErrno = answerOf(new(stdbig.Int).Exp(x, stdbig.NewInt(int64(n)), nil))
			}
			if v != want || errno != wantErrno {
				t.Fatalf("Pow of %v and %d: %v, %v", a, n, v, errno)
			}
		}
		if x.Sign() < 0 {
			continue
		}
		if v, errno := big.Root(a); v != valueOf(new(stdbig.Int).Sqrt(x)) || errno != api.OK {
			t.Fatalf("Root of %v: %v, %v", a, v, errno)
		}
	}
}

// TestSmallNumbers compares the quotients, divisors and roots of small numbers with what their rules say.
func TestSmallNumbers(t *testing.T) {
	const most = 45
	for a := -most; a <= most; a++ {
		for b := -most; b <= most; b++ {
			if b != 0 {
				q := most
				for b > 0 && b*q > a || b < 0 && b*q < a {
					q--
				}
				checkWhole(t, "Div", big.Div, a, b, q)
				checkWhole(t, "Mod", big.Mod, a, b, a-b*q)
			}
			d := most
			for d > 0 && (a%d != 0 || b%d != 0) {
				d--
			}
			if a == 0 && b == 0 {
				d = 0
			}
			checkWhole(t, "Gcd", big.Gcd, a, b, d)
		}
	}
	for a := range 5000 {
		q := a
		for q*q > a {
			q--
		}
		if v, errno := big.Root(whole(a)); v != whole(q) || errno != api.OK {
			t.Fatalf("Root of %d: %v, %v", a, v, errno)
		}
	}
}

func checkWhole(t *testing.T, name string, f binary, a, b, want int) {
	t.Helper()
	if v, errno := f(whole(a), whole(b)); v != whole(want) || errno != api.OK {
		t.Fatalf("%s of %d and %d: %v, %v; want %d", name, a, b, v, errno, want)
	}
}

// TestMostDigits has results with MaxDigits digits, and with one more.
func TestMostDigits(t *testing.T) {
	most, least, step := number(nines(400)), number("-"+nines(400)), whole(1)
	for _, x := range []struct {
		name string
		do   binary
		a, b api.Val
		want string // "" for ErrLimit
	}{
		{"Add", big.Add, number(ten(399)), number("8" + nines(399)), nines(400)},
		{"Add", big.Add, most, step, ""}, {"Add", big.Add, least, whole(-1), ""}, {"Add", big.Add, most, most, ""}, {"Add", big.Add, most, least, "0"},
		{"Sub", big.Sub, most, whole(-1), ""}, {"Sub", big.Sub, least, step, ""}, {"Sub", big.Sub, most, least, ""}, {"Sub", big.Sub, most, most, "0"}, {"Sub", big.Sub, whole(0), most, "-" + nines(400)},
		{"Mul", big.Mul, number(ten(200)), number(ten(199)), ten(399)}, {"Mul", big.Mul, number(ten(200)), number(ten(200)), ""},
		{"Mul", big.Mul, number(nines(200)), number(nines(200)), nines(199) + "8" + strings.Repeat("0", 199) + "1"},
		{"Mul", big.Mul, number(nines(201)), number(nines(201)), ""}, {"Mul", big.Mul, number("-" + nines(201)), number(nines(201)), ""}, {"Mul", big.Mul, number(nines(200)), number(nines(201)), ""},
		{"Mul", big.Mul, most, whole(-1), "-" + nines(400)}, {"Mul", big.Mul, most, whole(0), "0"}, {"Mul", big.Mul, most, most, ""},
		{"Div", big.Div, most, whole(-1), "-" + nines(400)}, {"Div", big.Div, least, whole(-1), nines(400)}, {"Div", big.Div, step, least, "-1"}, {"Div", big.Div, most, most, "1"},
		{"Mod", big.Mod, step, least, "-" + nines(399) + "8"}, {"Mod", big.Mod, most, number("-7" + strings.Repeat("0", 399)), "-4" + strings.Repeat("0", 398) + "1"},
		{"Gcd", big.Gcd, most, least, nines(400)}, {"Gcd", big.Gcd, whole(0), least, nines(400)},
	} {
		v, errno := x.do(x.a, x.b)
		if x.want == "" && (v != api.Val{} || errno != api.ErrLimit) || x.want != "" && (v != number(x.want) || errno != api.OK) {
			t.Errorf("%s of %v and %v: %v, %v", x.name, x.a, x.b, v, errno)
		}
	}
	for _, x := range []struct {
		a    api.Val
		n    int
		want string
	}{
		{whole(10), 399, ten(399)}, {whole(-10), 399, "-" + ten(399)}, {whole(10), 400, ""}, {whole(2), 1329, ""}, {whole(10), 2000, ""}, {most, 1, nines(400)}, {most, 0, "1"}, {most, 2, ""}, {most, 2000, ""},
		{whole(1), 2000, "1"}, {whole(-1), 2000, "1"}, {whole(-1), 1999, "-1"}, {whole(0), 2000, "0"}, {number(ten(199)), 2, ten(398)}, {number(ten(200)), 2, ""},
	} {
		v, errno := big.Pow(x.a, x.n)
		if x.want == "" && (v != api.Val{} || errno != api.ErrLimit) || x.want != "" && (v != number(x.want) || errno != api.OK) {
			t.Errorf("Pow of %v and %d: %v, %v", x.a, x.n, v, errno)
		}
	}
	if v, errno := big.Root(most); v != number(nines(200)) || errno != api.OK {
		t.Errorf("Root of 400 nines: %v, %v", v, errno)
	}
}

// TestCarries has quotients of products, and of what is 1 off from them, with many digits 0 and 9 in rows: there a digit of a quotient is easily guessed wrong, and carries go far.
func TestCarries(t *testing.T) {
	r := source()
	for range 30000 {
		d := bigOf(number(randomText(r, 1+r.IntN(60))))
		q := bigOf(number(randomText(r, 1+r.IntN(60))))
		a := new(stdbig.Int).Mul(d, q)
		a.Add(a, stdbig.NewInt(int64(r.IntN(3)-1)))
		wantQ, wantR := floor(a, d)
		checkAnswer(t, "Div", big.Div, valueOf(a), valueOf(d), wantQ)
		checkAnswer(t, "Mod", big.Mod, valueOf(a), valueOf(d), wantR)
		checkAnswer(t, "Mul", big.Mul, valueOf(d), valueOf(q), new(stdbig.Int).Mul(d, q))
		checkAnswer(t, "Sub", big.Sub, valueOf(a), valueOf(wantR), new(stdbig.Int).Sub(a, wantR))
	}
}
