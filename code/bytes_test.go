package code_test

import (
	"bytes"
	"fmt"
	"slices"
	"strings"
	"testing"

	"proteus/api"
	"proteus/code"
)

// encoding returns the bytes of pieces of code, as the chapter says them.
func encoding(l []api.Code) string {
	texts := func(l []string) string {
		s := fmt.Sprintf("%d;", len(l))
		for _, x := range l {
			s += fmt.Sprintf("%d;%s", len(x), x)
		}
		return s
	}
	values := func(l []api.Val) string {
		s := fmt.Sprintf("%d;", len(l))
		for _, v := range l {
			s += fmt.Sprintf("%d;%d;%d;%s", v.K, v.N, len(v.T), v.T)
		}
		return s
	}
	var b strings.Builder
	fmt.Fprintf(&b, "%d;", len(l))
	for _, c := range l {
		truth := map[bool]int{true: 1, false: 0}[c.Block]
		fmt.Fprintf(&b, "%d;%s%d;%d;%d;%s%s%s%s%d;", len(c.Name), c.Name, truth, c.Outer, c.Args, texts(c.Names), values(c.Init), values(c.Lits), texts(c.Sels), len(c.Instrs))
		for _, i := range c.Instrs {
			fmt.Fprintf(&b, "%d;%d;%d;%d;", i.Op, i.A, i.B, i.C)
		}
	}
	return b.String()
}

// P4.1, D13
func TestEncodeExamples(t *testing.T) {
	for want, l := range map[string][]api.Code{
		"0;":                                     nil,
		"1;1;m0;-1;0;0;0;0;0;2;2;0;0;0;9;0;0;0;": ofText(t, "m = ( )"),
		"2;1;m0;-1;0;0;0;0;0;2;7;1;0;0;9;0;0;0;5;value1;0;0;0;0;1;4;1;0;0;2;1;0;0;0;9;0;0;0;": ofText(t, "m = ( [ ] )"),
		"1;1;+0;-1;1;1;1;a0;1;2;0;20;123456789012345678900;2;1;0;0;0;9;0;0;0;":                ofText(t, "+ a = ( 12345678901234567890 )"),
		"1;1;m0;-1;0;1;1;v1;3;0;5;it's 0;2;1;x5;_Abc:4;4;0;0;0;4;0;0;0;6;1;1;0;9;0;0;0;":      ofText(t, "m = ( | v <- 'it''s ' | x _Abc: x )"),
		"1;1;m0;-1;0;0;0;0;2;1;x1;p2;5;0;0;2;9;0;0;0;":                                        ofText(t, "m = ( p.x )"),
		"1;1;m0;-1;0;0;0;1;1;-9223372036854775808;0;0;2;1;0;0;0;9;0;0;0;":                     made(t, method(0, value(0)), "m", whole(-1<<63)),
		"1;1;m0;-1;0;0;0;1;4;1099511627776;0;0;2;1;0;0;0;9;0;0;0;":                            made(t, method(0, value(0)), "m", ref(1<<40)),
	} {
		if b, errno := code.Encode(l); errno != api.OK || string(b) != want {
			t.Errorf("Encode: %q, %v, not %q", b, errno, want)
		}
		if m, errno := code.Decode([]byte(want)); errno != api.OK || !equal(m, l) {
			t.Errorf("Decode of %q: %v\n%s", want, errno, brief(m))
		}
	}
}

// P4.7; P4.1, D13, D14
func TestEncodeAndDecode(t *testing.T) {
	var last []api.Code
	for l := range programs(t, 600) {
		b, errno := code.Encode(l)
		if errno != api.OK || string(b) != encoding(l) {
			t.Fatalf("Encode of\n%s\n%v, %q", brief(l), errno, brief(string(b)))
		}
		if m, errno := code.Decode(b); errno != api.OK || !equal(m, l) || !code.Same(m, l) {
			t.Fatalf("Decode of %q: %v\n%s", brief(string(b)), errno, brief(m))
		}
		method := slices.IndexFunc(last, func(c api.Code) bool { return !c.Block })
		if method >= 0 {
			moved, errno := code.Take(last, method, len(l))
			both, errnoOf := code.Join(l, moved)
			whole, errnoAll := code.Encode(both)
			if errno != api.OK || errnoOf != api.OK || errnoAll != api.OK || !bytes.HasPrefix(behind(whole), behind(b)) {
				t.Fatalf("Encode of what is joined: %v, %v, %v", errno, errnoOf, errnoAll)
			}
		}
		last = l
	}
}

// behind returns what stands behind the number of pieces.
func behind(b []byte) []byte { return b[bytes.IndexByte(b, ';')+1:] }

// decodes fails unless bytes are the encoding of what Decode makes of them, or Decode answers ErrCode; it reports whether they are.
func decodes(t *testing.T, b []byte) bool {
	t.Helper()
	l, errno := code.Decode(b)
	if errno != api.OK {
		if errno != api.ErrCode || len(l) > 0 {
			t.Fatalf("Decode of %q: %v, %s", brief(string(b)), errno, brief(l))
		}
		return false
	}
	c, errno := code.Encode(l)
	if errno != api.OK || !bytes.Equal(b, c) || encoding(l) != string(b) || !isRight(l) {
		t.Fatalf("Decode of %q returns\n%s\nof which this is the encoding: %q, %v", brief(string(b)), brief(l), brief(string(c)), errno)
	}
	return true
}

// Each byte of an encoding changed, left out, put in.
func TestDecodeOfChangedBytes(t *testing.T) {
	taken, all := 0, 0
	for _, text := range []string{"m = ( )", "at: i Put: v = ( | x. y <- 'a;3;' | x: i. [ | :z | z + 17. ^ p.size ] value: 1 size )", "m = ( x _IntAdd: 1 IfFail: [ ] )"} {
		b, errno := code.Encode(ofText(t, text))
		if errno != api.OK {
			t.Fatal(errno)
		}
		for i := range b {
			for x := range 256 {
				other := bytes.Clone(b)
				other[i] = byte(x)
				for _, c := range [][]byte{other, slices.Insert(bytes.Clone(b), i, byte(x))} {
					all++
					if decodes(t, c) {
						taken++
					}
				}
			}
			if decodes(t, b[:i]) || decodes(t, append(bytes.Clone(b), b[i])) {
				t.Fatalf("the beginning of %q up to %d, or the byte there behind it, is taken", b, i)
			}
			decodes(t, b[i+1:])
			decodes(t, slices.Delete(bytes.Clone(b), i, i+1))
		}
	}
	if taken < 500 || taken > all/10 {
		t.Errorf("of %d changed encodings %d are taken", all, taken)
	}
}

// Bytes that are no encoding: other spellings of numbers, lengths that are none, and code that is not right.
func TestDecodeOfOtherBytes(t *testing.T) {
	right := "1;1;m0;-1;0;0;0;0;0;2;2;0;0;0;9;0;0;0;"
	if !decodes(t, []byte(right)) {
		t.Fatalf("%q is an encoding", right)
	}
	for _, text := range []string{
		"", ";", "0", "0;0", "0;;", "-1;", "00;", "+0;", "-0;", " 0;", "0 ;", "0x0;", "0_0;", "1;", "-", "-;", "1", "x;", "9223372036854775807;", "9223372036854775808;", "-9223372036854775808;", strings.Repeat("9", 1<<20) + ";", strings.Repeat("9", 1<<20), strings.Repeat(";", 1<<20), strings.Repeat("0;", 1<<19),
		"1;" + strings.Repeat("0;", 9), "1;01;m0;-1;0;0;0;0;0;2;2;0;0;0;9;0;0;0;", "01;1;m0;-1;0;0;0;0;0;2;2;0;0;0;9;0;0;0;", "1;1;m2;-1;0;0;0;0;0;2;2;0;0;0;9;0;0;0;", "1;1;m-1;-1;0;0;0;0;0;2;2;0;0;0;9;0;0;0;", "1;1;m0;-01;0;0;0;0;0;2;2;0;0;0;9;0;0;0;",
		"1;1;m0;-1;0;0;0;0;0;2;2;0;0;0;9;0;0;-0;", "1;1;m0;-1;0;-1;0;0;0;2;2;0;0;0;9;0;0;0;", "1;1;m1;-1;0;0;0;0;0;2;2;0;0;0;9;0;0;0;", "1;1;m0;-1;0;0;0;0;0;1;2;0;0;0;", "1;1;m0;-1;0;0;0;0;0;0;", "1;-1;m0;-1;0;0;0;0;0;2;2;0;0;0;9;0;0;0;", "1;99;m0;-1;0;0;0;0;0;2;2;0;0;0;9;0;0;0;",
		"1;9223372036854775807;m0;", "1;1;m0;-1;0;9223372036854775807;", "2;" + right[2:], right + "0;", right + right[2:], "1;1;M0;-1;0;0;0;0;0;2;2;0;0;0;9;0;0;0;", "1;1;m0;-1;0;0;0;0;0;2;2;0;0;0;10;0;0;0;", "1;1;m0;-1;0;0;0;1;3;0;0;0;2;2;0;0;0;9;0;0;0;", "1;1;m0;-1;0;0;0;1;3;0;1;\n0;2;1;0;0;0;9;0;0;0;",
		"801;" + strings.Repeat(right[2:], 801),
	} {
		if decodes(t, []byte(text)) {
			t.Errorf("%q is taken", brief(text))
		}
	}
	if !decodes(t, []byte("800;"+strings.Repeat(right[2:], 800))) || !decodes(t, []byte("0;")) {
		t.Error("an encoding is not taken")
	}
	r := source()
	for range 20000 {
		b := make([]byte, r.Intn(60))
		for i := range b {
			b[i] = oneOf(r, []byte("0123456789;;;;-mx:"))
		}
		decodes(t, b)
	}
}

// A right list whose encoding has as many bytes as there may be, and one more.
func TestEncodeLimit(t *testing.T) {
	fill := func(bytes int) []api.Code {
		var vals []api.Val
		c := piece(nil, nil)
		for i := range 53 {
			vals = append(vals, quoted(strings.Repeat("x", 19000+i)))
			c.Instrs = append(c.Instrs, api.Instr{Op: api.OpConst, A: i}, opPop)
		}
		c.Lits, c.Instrs[len(c.Instrs)-1] = vals, opRet
		left := bytes - len(encoding([]api.Code{c}))
		for i := range vals {
			more := min(left, 900)
			vals[i].T += strings.Repeat("y", more)
			left -= more
		}
		return []api.Code{c}
	}
	for _, more := range []int{-1, 0, 1, 2, 1000} {
		l := fill(1<<20 + more)
		if len(encoding(l)) != 1<<20+more || !isRight(l) {
			t.Fatalf("%d bytes", len(encoding(l)))
		}
		b, errno := code.Encode(l)
		want := api.OK
		if more > 0 {
			want = api.ErrLimit
		}
		if errno != want || (errno == api.OK) != (string(b) == encoding(l)) || errno != api.OK && len(b) > 0 {
			t.Errorf("%d bytes: %v", 1<<20+more, errno)
		}
		if decodes(t, []byte(encoding(l))) != (more <= 0) {
			t.Errorf("%d bytes: Decode", 1<<20+more)
		}
	}
}
