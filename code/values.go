package code

import (
	"strings"

	"proteus/api"
	"proteus/big"
)

// noValue returns what a variable holds at first, and what a block without statements answers.
func noValue() api.Val { return api.Val{K: api.VRef, N: api.ONil} }

func isValue(v api.Val) bool {
	switch v.K {
	case api.VInt, api.VBig:
		return big.Check(v) == api.OK
	case api.VStr:
		return v.N == 0 && isString(v.T)
	case api.VRef:
		return 1 <= v.N && v.N <= api.MaxNumber && v.T == ""
	}
	return false
}

func isString(s string) bool {
	if len(s) > api.MaxText {
		return false
	}
	for i := range len(s) {
		if s[i] < 32 || s[i] > 126 {
			return false
		}
	}
	return true
}

// isPrimitive reports whether a selector is a primitive one.
func isPrimitive(sel string) bool { return strings.HasPrefix(sel, "_") }

func blockName(args int) string {
	if args == 0 {
		return "value"
	}
	return "value:" + strings.Repeat("With:", args-1)
}

// find returns the index of a thing in a table; the number of things in it, if it is not there.
func find[T comparable](table []T, x T) int {
	for i := range table {
		if table[i] == x {
			return i
		}
	}
	return len(table)
}

func allOf[T any](l []T, such func(x T) bool) bool {
	for i := range l {
		if !such(l[i]) {
			return false
		}
	}
	return true
}

func allDifferent[T comparable](l []T) bool {
	for i := range l {
		if find(l, l[i]) < i {
			return false
		}
	}
	return true
}

// fault is the error by which a way through a tree, or through bytes, ends: it panics with it.
type fault api.Errno

// caught returns what a function makes, or the error by which it ends.
func caught[T any](do func() T) (x T, errno api.Errno) {
	defer func() {
		if f, ok := recover().(fault); ok {
			var zero T
			x, errno = zero, api.Errno(f)
		}
	}()
	return do(), api.OK
}
