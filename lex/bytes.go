package lex

import "strings"

// kinds has a function for each kind of byte: whether a byte is of it.
type kinds struct {
	small, capital, digit, operator, sign, blank, shown func(b byte) bool
}

const (
	operators = "+-*/%<>=~&@!?"
	signs     = "()[]|.^:;"
)

func byteKinds() kinds {
	return kinds{
		small:    func(b byte) bool { return 'a' <= b && b <= 'z' },
		capital:  func(b byte) bool { return 'A' <= b && b <= 'Z' },
		digit:    func(b byte) bool { return '0' <= b && b <= '9' },
		operator: func(b byte) bool { return strings.IndexByte(operators, b) >= 0 },
		sign:     func(b byte) bool { return strings.IndexByte(signs, b) >= 0 },
		blank:    func(b byte) bool { return b == ' ' || b == '\t' || b == '\n' },
		shown:    func(b byte) bool { return 32 <= b && b <= 126 },
	}
}

func (k *kinds) letter(b byte) bool { return k.small(b) || k.capital(b) }

func (k *kinds) wordByte(b byte) bool { return k.letter(b) || k.digit(b) }

// inString reports whether a byte of a string stands for itself alone.
func (k *kinds) inString(b byte) bool { return k.shown(b) && b != '\'' }

// joined reports whether a byte may follow a dot that joins.
func (k *kinds) joined(b byte) bool { return k.letter(b) || k.operator(b) }

// run returns how many elements at the beginning of a list are such ones.
func run[T any](l []T, such func(x T) bool) int {
	for i, x := range l {
		if !such(x) {
			return i
		}
	}
	return len(l)
}
