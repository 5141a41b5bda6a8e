package big_test

import (
	"fmt"
	"math"
	"strings"
	"testing"

	"proteus/api"
	"proteus/big"
)

// P3.1: values that are no numbers, and errors

// noTexts returns texts of no number.
func noTexts() []string {
	return []string{
		"", "-", "+", "007", "00", "01", "-0", "-00", "-01", "+0", "+ 1", "+1", "--1", "- 1", " 1", "1 ", "1-", "1-1", "1.0", "1e5", "0x10", "1_000", "a", "1a", "a1", "1a1", "1\n", "1\x00", "\x00", "٣", "１", "\xff", "−1", "∞", "NaN",
		"0" + nines(19), "-0" + nines(19), "0" + nines(399), nines(401), "-" + nines(401), "0" + nines(400), ten(400), "-" + ten(400), nines(200) + "x" + nines(199), nines(399) + "x", "x" + nines(399), "/" + nines(30), ":" + nines(30), nines(30) + "/", nines(30) + ":",
		strings.Repeat("9", 1<<22), strings.Repeat("0", 1<<22), strings.Repeat("-", 1<<22), strings.Repeat("x", 1<<22),
	}
}

// noNumbers returns values that are no numbers.
func noNumbers() []api.Val {
	l := []api.Val{
		{}, {N: 3}, {T: "3"}, {K: 0, T: nines(20)}, {K: -1, N: 3}, {K: 6, N: 3}, {K: math.MaxInt, N: 3}, {K: math.MinInt, T: nines(20)},
		{K: api.VStr}, {K: api.VStr, T: "3"}, {K: api.VStr, T: nines(20)}, {K: api.VStr, N: 3}, {K: api.VRef, N: 3}, {K: api.VRef, T: nines(20)}, {K: api.VMeth, N: 3}, {K: api.VMeth},
		{K: api.VInt, T: "0"}, {K: api.VInt, N: 3, T: "3"}, {K: api.VInt, N: 3, T: " "}, {K: api.VInt, T: nines(20)},
		{K: api.VBig}, {K: api.VBig, N: 3}, {K: api.VBig, T: "0"}, {K: api.VBig, T: "3"}, {K: api.VBig, T: "-3"}, {K: api.VBig, T: "9223372036854775807"}, {K: api.VBig, T: "-9223372036854775808"},
		{K: api.VBig, T: nines(20), N: 1}, {K: api.VBig, T: nines(20), N: -1}, {K: api.VBig, T: "9223372036854775808", N: math.MinInt64},
	}
	for _, text := range noTexts() {
		l = append(l, api.Val{K: api.VBig, T: text})
	}
	return l
}

// shown returns a value as it is shown, though its text may be long.
func shown(v api.Val) string { return fmt.Sprintf("{%d %d %.60q}", v.K, v.N, v.T) }

func binaries() map[string]binary {
	return map[string]binary{"Add": big.Add, "Sub": big.Sub, "Mul": big.Mul, "Div": big.Div, "Mod": big.Mod, "Gcd": big.Gcd}
}

func TestNoTexts(t *testing.T) {
	for _, text := range noTexts() {
		if v, errno := big.Of(text); v != (api.Val{}) || errno != api.ErrDigit {
			t.Errorf("Of %.60q: %v, %v", text, v, errno)
		}
	}
}

func TestNoNumbers(t *testing.T) {
	for _, v := range noNumbers() {
		if errno := big.Check(v); errno != api.ErrDigit {
			t.Errorf("Check of %s: %v", shown(v), errno)
		}
		if text, errno := big.Text(v); text != "" || errno != api.ErrDigit {
			t.Errorf("Text of %s: %q, %v", shown(v), text, errno)
		}
		if count, errno := big.Digits(v); count != 0 || errno != api.ErrDigit {
			t.Errorf("Digits of %s: %d, %v", shown(v), count, errno)
		}
		if w, errno := big.Root(v); w != (api.Val{}) || errno != api.ErrDigit {
			t.Errorf("Root of %s: %v, %v", shown(v), w, errno)
		}
		for _, n := range []int{-1, 0, 1, api.MaxSteps, api.MaxSteps + 1} {
			if w, errno := big.Pow(v, n); w != (api.Val{}) || errno != api.ErrDigit {
				t.Errorf("Pow of %s and %d: %v, %v", shown(v), n, w, errno)
			}
		}
		for _, w := range []api.Val{whole(0), whole(-1), number(nines(400)), {}, v} {
			checkNoNumbers(t, v, w)
			checkNoNumbers(t, w, v)
		}
	}
}

// checkNoNumbers checks the functions of two values that are not both numbers.
func checkNoNumbers(t *testing.T, a, b api.Val) {
	t.Helper()
	for name, f := range binaries() {
		if v, errno := f(a, b); v != (api.Val{}) || errno != api.ErrDigit {
			t.Errorf("%s of %s and %s: %v, %v", name, shown(a), shown(b), v, errno)
		}
	}
	if is, errno := big.Less(a, b); is || errno != api.ErrDigit {
		t.Errorf("Less of %s and %s: %v, %v", shown(a), shown(b), is, errno)
	}
}

func TestZeroAsDivisor(t *testing.T) {
	for _, a := range numbers() {
		for _, f := range []binary{big.Div, big.Mod} {
			if v, errno := f(a, whole(0)); v != (api.Val{}) || errno != api.ErrZero {
				t.Errorf("%v by 0: %v, %v", a, v, errno)
			}
		}
	}
}

func TestArguments(t *testing.T) {
	for _, n := range []int{-1, -2, math.MinInt, api.MaxSteps + 1, 1 << 20, 1 << 62, math.MaxInt} {
		for _, a := range []api.Val{whole(0), whole(1), whole(-1), whole(10), number(nines(400))} {
			if v, errno := big.Pow(a, n); v != (api.Val{}) || errno != api.ErrArg {
				t.Errorf("Pow of %v and %d: %v, %v", a, n, v, errno)
			}
		}
	}
	for _, a := range []api.Val{whole(-1), whole(-99), least, below, number("-" + nines(400)), number("-" + ten(399))} {
		if v, errno := big.Root(a); v != (api.Val{}) || errno != api.ErrArg {
			t.Errorf("Root of %v: %v, %v", a, v, errno)
		}
	}
}
