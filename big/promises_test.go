package big_test

import (
	"math"
	stdbig "math/big"
	"math/bits"
	"strings"
	"testing"

	"proteus/api"
	"proteus/big"
)

// P3.2
func TestTexts(t *testing.T) {
	texts := []string{"0", "1", "-1", "9", "10", "-10", "100000", "999999", "1000000", "-1000000", "9223372036854775806", "9223372036854775807", "9223372036854775808", "-9223372036854775807", "-9223372036854775808", "-9223372036854775809", ten(399), "-" + ten(399), nines(400), "-" + nines(400)}
	r := source()
	for count := 1; count <= api.MaxDigits; count++ {
		texts = append(texts, randomText(r, count), nines(count), ten(count-1))
	}
	for n := -1100; n <= 1100; n++ {
		texts = append(texts, stdbig.NewInt(int64(n)).String())
	}
	for _, text := range texts {
		v, errno := big.Of(text)
		if errno != api.OK || v != number(text) || big.Check(v) != api.OK {
			t.Fatalf("Of %q: %v, %v, Check %v", text, v, errno, big.Check(v))
		}
		if s, errno := big.Text(v); s != text || errno != api.OK {
			t.Fatalf("Text of %v: %q, %v", v, s, errno)
		}
		if count, errno := big.Digits(v); count != len(strings.TrimPrefix(text, "-")) || errno != api.OK {
			t.Fatalf("Digits of %v: %d, %v", v, count, errno)
		}
	}
	for _, v := range append(numbers(), least, greatest, above, below) {
		s, errno := big.Text(v)
		if w, errnoOf := big.Of(s); errno != api.OK || errnoOf != api.OK || w != v {
			t.Fatalf("Of the Text of %v: %v, %v, %v", v, w, errno, errnoOf)
		}
	}
}

// P3.2: a text of more digits is that of a greater number.
func TestLongerTexts(t *testing.T) {
	for count := 1; count < api.MaxDigits; count++ {
		if a, b := number(nines(count)), number(ten(count)); !less(t, a, b) || less(t, b, a) {
			t.Errorf("%v is not less than %v", a, b)
		}
	}
	for a, b := range pairs(numbers()) {
		digitsA, _ := big.Digits(a)
		digitsB, _ := big.Digits(b)
		if less(t, whole(0), a) && less(t, whole(0), b) && digitsA < digitsB && !less(t, a, b) {
			t.Fatalf("%v is not less than %v", a, b)
		}
	}
}

// P3.3
func TestSumsAndProducts(t *testing.T) {
	var n counter
	for l, i := range triples() {
		a, b, c := l[0], l[1], l[2]
		for _, f := range []binary{big.Add, big.Mul} {
			order := &chain{t, true}
			if x, y := order.of(f, a, b), order.of(f, b, a); n.count(order) && x != y {
				t.Fatalf("%d: the order of %v and %v tells", i, a, b)
			}
			way := &chain{t, true}
			if x, y := way.of(f, way.of(f, a, b), c), way.of(f, a, way.of(f, b, c)); n.count(way) && x != y {
				t.Fatalf("%d: it tells how %v, %v and %v are put together", i, a, b, c)
			}
		}
		product := &chain{t, true}
		x := product.of(big.Mul, a, product.of(big.Add, b, c))
		y := product.of(big.Add, product.of(big.Mul, a, b), product.of(big.Mul, a, c))
		if n.count(product) && x != y {
			t.Fatalf("%d: the product of %v with the sum of %v and %v", i, a, b, c)
		}
		difference := &chain{t, true}
		if x := difference.of(big.Add, difference.of(big.Sub, a, b), b); n.count(difference) && x != a {
			t.Fatalf("%d: the difference of %v and %v", i, a, b)
		}
	}
	n.atLeast(t, 0.7)
}

// P3.4
func TestQuotients(t *testing.T) {
	var n counter
	for a, b := range pairs(numbers()) {
		if b == whole(0) {
			continue
		}
		rest, _ := done(t, big.Mod, a, b)
		if rest != whole(0) && less(t, rest, whole(0)) != less(t, b, whole(0)) {
			t.Fatalf("Mod of %v and %v: %v", a, b, rest)
		}
		if !less(t, distance(t, rest), distance(t, b)) {
			t.Fatalf("Mod of %v and %v: %v", a, b, rest)
		}
		sum := &chain{t, true}
		x := sum.of(big.Add, sum.of(big.Mul, b, sum.of(big.Div, a, b)), rest)
		if n.count(sum) && x != a {
			t.Fatalf("the quotient and the rest of %v and %v", a, b)
		}
		product := &chain{t, true}
		if x := product.of(big.Div, product.of(big.Mul, a, b), b); n.count(product) && x != a {
			t.Fatalf("Div of the product of %v and %v: %v", a, b, x)
		}
	}
	n.atLeast(t, 0.7)
}

// distance returns how far a number is from 0.
func distance(t *testing.T, v api.Val) api.Val {
	t.Helper()
	if !less(t, v, whole(0)) {
		return v
	}
	d, _ := done(t, big.Sub, whole(0), v)
	return d
}

// P3.5
func TestOrder(t *testing.T) {
	for a, b := range pairs(numbers()) {
		holding := 0
		for _, holds := range []bool{less(t, a, b), a == b, less(t, b, a)} {
			if holds {
				holding++
			}
		}
		if holding != 1 {
			t.Fatalf("%d of less, equal, greater hold of %v and %v", holding, a, b)
		}
	}
	var n counter
	for l, i := range triples() {
		a, b, c := l[0], l[1], l[2]
		sums := &chain{t, true}
		if x, y := sums.of(big.Add, a, c), sums.of(big.Add, b, c); n.count(sums) && less(t, x, y) != less(t, a, b) {
			t.Fatalf("%d: the sums of %v and %v with %v", i, a, b, c)
		}
		if !less(t, whole(0), c) {
			continue
		}
		products := &chain{t, true}
		if x, y := products.of(big.Mul, a, c), products.of(big.Mul, b, c); n.count(products) && less(t, x, y) != less(t, a, b) {
			t.Fatalf("%d: the products of %v and %v with %v", i, a, b, c)
		}
	}
	n.atLeast(t, 0.7)
}

// P3.6
func TestPowers(t *testing.T) {
	var n counter
	for l := range triples() {
		a, b := l[0], l[1]
		for _, x := range [][2]int{{0, 0}, {1, 0}, {1, 1}, {2, 1}, {2, 2}, {3, 4}, {5, 2}, {10, 7}, {30, 33}} {
			powers := &chain{t, true}
			p, q := powers.power(a, x[0]+x[1]), powers.of(big.Mul, powers.power(a, x[0]), powers.power(a, x[1]))
			if n.count(powers) && p != q {
				t.Fatalf("%v to %d and %d: %v, %v", a, x[0], x[1], p, q)
			}
		}
		for to := range 6 {
			products := &chain{t, true}
			p := products.power(products.of(big.Mul, a, b), to)
			q := products.of(big.Mul, products.power(a, to), products.power(b, to))
			if n.count(products) && p != q {
				t.Fatalf("the product of %v and %v, to %d: %v, %v", a, b, to, p, q)
			}
		}
	}
	n.atLeast(t, 0.3)
	for _, a := range []int{-3, -2, -1, 0, 1, 2, 3} {
		product := whole(1)
		for to := range 800 {
			if v, errno := big.Pow(whole(a), to); v != product || errno != api.OK {
				t.Fatalf("Pow of %d and %d: %v, %v", a, to, v, errno)
			}
			product, _ = done(t, big.Mul, product, whole(a))
		}
	}
}

// P3.7
func TestDivisors(t *testing.T) {
	for l, i := range triples() {
		if i == 2000 {
			break
		}
		a, b := l[0], l[1]
		if bigger, ok := done(t, big.Mul, a, l[2]); ok {
			a = bigger
		}
		if bigger, ok := done(t, big.Mul, b, l[2]); ok {
			b = bigger
		}
		checkDivisor(t, a, b, l[2])
	}
	for a := -12; a <= 12; a++ {
		for b := -12; b <= 12; b++ {
			for c := -12; c <= 12; c++ {
				checkDivisor(t, whole(a), whole(b), whole(c))
			}
		}
	}
	for a, b := range pairs([]api.Val{whole(0), whole(-1), least, greatest, above, below}) {
		checkDivisor(t, a, b, whole(2))
	}
}

// checkDivisor checks Gcd of two numbers, and a number that may divide both.
func checkDivisor(t *testing.T, a, b, c api.Val) {
	t.Helper()
	d, ok := done(t, big.Gcd, a, b)
	if !ok || less(t, d, whole(0)) || !divides(t, d, a) || !divides(t, d, b) {
		t.Fatalf("Gcd of %v and %v: %v, %v", a, b, d, ok)
	}
	if divides(t, c, a) && divides(t, c, b) && !divides(t, c, d) {
		t.Fatalf("Gcd of %v and %v: %v, which %v does not divide", a, b, d, c)
	}
	if b == whole(0) {
		return
	}
	rest, _ := done(t, big.Mod, a, b)
	if e, ok := done(t, big.Gcd, b, rest); !ok || e != d {
		t.Fatalf("Gcd of %v and %v: %v, but %v with the rest", a, b, d, e)
	}
}

// divides reports whether a number is a product with another one.
func divides(t *testing.T, d, a api.Val) bool {
	t.Helper()
	if d == whole(0) {
		return a == whole(0)
	}
	rest, ok := done(t, big.Mod, a, d)
	return ok && rest == whole(0)
}

// P3.8
func TestRoots(t *testing.T) {
	l := numbers()
	for _, a := range numbers() {
		square := &chain{t, true}
		x := square.of(big.Mul, a, a)
		for _, step := range []int{-1, 0, 1} {
			if y := square.of(big.Add, x, whole(step)); square.ok {
				l = append(l, y)
			}
		}
	}
	rooted := 0
	for _, a := range l {
		if less(t, a, whole(0)) {
			continue
		}
		root, errno := big.Root(a)
		if errno != api.OK || less(t, root, whole(0)) {
			t.Fatalf("Root of %v: %v, %v", a, root, errno)
		}
		square, ok := done(t, big.Mul, root, root)
		if !ok || less(t, a, square) {
			t.Fatalf("Root of %v: %v, whose square is %v", a, root, square)
		}
		next := &chain{t, true}
		above := next.of(big.Add, root, whole(1))
		// The square of the next one may be too large: then it is above the number.
		if square := next.of(big.Mul, above, above); next.ok && !less(t, a, square) {
			t.Fatalf("Root of %v: %v", a, root)
		}
		rooted++
	}
	if rooted < 300 {
		t.Errorf("only %d roots", rooted)
	}
}

// P3.9
func TestMachineArithmetic(t *testing.T) {
	var l []api.Val
	for _, shift := range []int{0, 2, 3, 20, 30, 31, 32, 33, 61, 62, 63} {
		for step := -2; step <= 2; step++ {
			l = append(l, whole(1<<shift+step), whole(-(1<<shift)+step))
		}
	}
	r := source()
	for range 100 {
		l = append(l, whole(int(r.Uint64())), whole(int(r.Uint64())>>r.IntN(64)))
	}
	l = append(l, whole(3037000499), whole(3037000500), whole(-3037000499), whole(-3037000500), least, greatest)
	for a, b := range pairs(l) {
		sum, difference := a.N+b.N, a.N-b.N
		fits := (a.N < 0) != (b.N < 0) || (sum < 0) == (a.N < 0)
		checkMachine(t, "Add", big.Add, a, b, sum, fits)
		fits = (a.N < 0) == (b.N < 0) || (difference < 0) == (a.N < 0)
		checkMachine(t, "Sub", big.Sub, a, b, difference, fits)
		high, low := bits.Mul64(unsigned(a.N), unsigned(b.N))
		below := (a.N < 0) != (b.N < 0)
		fits = high == 0 && (low <= math.MaxInt64 || below && low == 1<<63)
		checkMachine(t, "Mul", big.Mul, a, b, a.N*b.N, fits)
		if b.N != 0 {
			q, rest := a.N/b.N, a.N%b.N
			if rest != 0 && (rest < 0) != (b.N < 0) {
				q, rest = q-1, rest+b.N
			}
			checkMachine(t, "Div", big.Div, a, b, q, a.N != math.MinInt64 || b.N != -1)
			checkMachine(t, "Mod", big.Mod, a, b, rest, true)
		}
		if is := less(t, a, b); is != (a.N < b.N) {
			t.Fatalf("Less of %v and %v: %v", a, b, is)
		}
	}
}

// unsigned returns how far a number of the machine is from 0.
func unsigned(n int) uint64 {
	if n < 0 {
		return -uint64(n)
	}
	return uint64(n)
}

// checkMachine checks what a function makes of two numbers of 64 bits, if the result has 64 bits, and that it is a VBig otherwise.
func checkMachine(t *testing.T, name string, f binary, a, b api.Val, want int, fits bool) {
	t.Helper()
	v, errno := f(a, b)
	if errno != api.OK || fits && v != whole(want) || !fits && (v.K != api.VBig || bigOf(v).IsInt64()) {
		t.Fatalf("%s of %d and %d: %v, %v", name, a.N, b.N, v, errno)
	}
}

// P3.9: results of Kind VBig have no 64 bits.
func TestKinds(t *testing.T) {
	fs := binaries()
	for l, i := range triples() {
		if i == 4000 {
			break
		}
		for name, f := range fs {
			if v, errno := f(l[0], l[1]); errno == api.OK && (v.K == api.VInt) != bigOf(v).IsInt64() {
				t.Fatalf("%s of %v and %v: %v", name, l[0], l[1], v)
			}
		}
	}
	for a, b := range pairs([]api.Val{whole(0), whole(1), whole(-1), whole(2), whole(-2), least, greatest, above, below}) {
		for name, f := range fs {
			if v, errno := f(a, b); errno == api.OK && (v.K == api.VInt) != bigOf(v).IsInt64() {
				t.Fatalf("%s of %v and %v: %v", name, a, b, v)
			}
		}
	}
}

// P3.10
func TestNines(t *testing.T) {
	var n counter
	for a, b := range pairs(numbers()) {
		sum := &chain{t, true}
		if v := sum.of(big.Add, a, b); n.count(sum) && restBy9(v) != (restBy9(a)+restBy9(b))%9 {
			t.Fatalf("the sum of %v and %v: %v", a, b, v)
		}
		product := &chain{t, true}
		if v := product.of(big.Mul, a, b); n.count(product) && restBy9(v) != restBy9(a)*restBy9(b)%9 {
			t.Fatalf("the product of %v and %v: %v", a, b, v)
		}
	}
	n.atLeast(t, 0.7)
}

// restBy9 returns the rest by 9 that the digits of a number tell.
func restBy9(v api.Val) int {
	text, _ := big.Text(v)
	decimal, below := strings.CutPrefix(text, "-")
	sum := 0
	for _, digit := range decimal {
		sum += int(digit - '0')
	}
	if below {
		sum = -sum
	}
	return (sum%9 + 9) % 9
}
