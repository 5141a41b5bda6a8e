package lex_test

import (
	"iter"
	"regexp"
	"strings"

	"proteus/api"
)

// The chapter's table of tokens as regular expressions, and what follows from them: an answer that owes nothing to the package.

const (
	word = `[a-zA-Z0-9]{0,23}`
	ops  = `[-+*/%<>=~&@!?]`
)

var table = []struct {
	kind     int
	spelling *regexp.Regexp
}{
	{api.TkName, regexp.MustCompile(`\A[a-z]` + word + `\z`)},
	{api.TkKey, regexp.MustCompile(`\A[a-z]` + word + `:\z`)},
	{api.TkCap, regexp.MustCompile(`\A[A-Z]` + word + `:\z`)},
	{api.TkPrim, regexp.MustCompile(`\A_[A-Z]` + word + `:?\z`)},
	{api.TkNum, regexp.MustCompile(`\A(?:0|[1-9][0-9]{0,399})\z`)},
	{api.TkStr, regexp.MustCompile(`\A'(?:[ -&(-~]|'')*'\z`)},
	{api.TkOp, regexp.MustCompile(`\A` + ops + `{1,3}\z`)},
	{api.TkSign, regexp.MustCompile(`\A[()\[\]|.^:;]\z`)},
}

var (
	passed = regexp.MustCompile(`\A(?:[ \t\n]|"[^"]*")+`)
	runs   = regexp.MustCompile(`\A(?:[a-zA-Z_][a-zA-Z0-9]*:?|[0-9]+|` + ops + `+|[()\[\]|.^:;])`)
	quotes = regexp.MustCompile(`\A'(?:[^']|'')*'`)
	joined = regexp.MustCompile(`\A\.(?:[a-zA-Z]|` + ops + `)`)
)

func kindOf(spelling string) int {
	for _, row := range table {
		if row.spelling.MatchString(spelling) {
			return row.kind
		}
	}
	return 0
}

// division is what a text is divided into, or what is wrong with it.
type division struct {
	tokens       []api.Token
	starts, ends []int
	errno        api.Errno
	index        int
}

func wrong(errno api.Errno, index int) division { return division{errno: errno, index: index} }

func divided(text string) division {
	if len(text) > 20000 {
		return wrong(api.ErrLimit, 0)
	}
	var d division
	for i := 0; ; {
		i += len(passed.FindString(text[i:]))
		if i == len(text) {
			return d
		}
		spelling, errno := spelt(text[i:])
		if errno != api.OK {
			return wrong(errno, i)
		}
		if len(d.tokens) == 6000 {
			return wrong(api.ErrLimit, i)
		}
		n := len(d.tokens)
		behindName := n > 0 && d.tokens[n-1].Kind == api.TkName && d.ends[n-1] == i
		t := api.Token{Kind: kindOf(spelling), Text: spelling}
		if t.Kind == api.TkStr {
			t.Text = strings.ReplaceAll(spelling[1:len(spelling)-1], "''", "'")
		} else if behindName && joined.MatchString(text[i:]) {
			t.Kind = api.TkDot
		}
		t.Line = 1 + strings.Count(text[:i], "\n")
		t.Col = i - strings.LastIndex(text[:i], "\n")
		d.tokens = append(d.tokens, t)
		d.starts = append(d.starts, i)
		i += len(spelling)
		d.ends = append(d.ends, i)
	}
}

// spelt returns the spelling of the token with which a text begins.
func spelt(text string) (string, api.Errno) {
	if text[0] == '"' {
		return "", api.ErrOpen
	}
	if text[0] == '\'' {
		s := quotes.FindString(text)
		if s == "" || strings.HasPrefix(text[len(s):], "'") || kindOf(s) == 0 {
			return "", api.ErrOpen
		}
		return s, api.OK
	}
	s := runs.FindString(text)
	if s == "" {
		return "", api.ErrByte
	}
	if kindOf(s) == 0 {
		return "", api.ErrWord
	}
	return s, api.OK
}

// edited returns what Edit is to answer, by its definition.
func edited(text string, from, to int, with string) (string, int, int, api.Errno, int) {
	if from < 0 || to < from || to > len(text) {
		return "", 0, 0, api.ErrArg, 0
	}
	old := divided(text)
	if old.errno != api.OK {
		return "", 0, 0, old.errno, old.index
	}
	s := text[:from] + with + text[to:]
	fresh := divided(s)
	if fresh.errno != api.OK {
		return "", 0, 0, fresh.errno, fresh.index
	}
	head := 0
	for _, end := range old.ends {
		if end < from {
			head++
		}
	}
	tail := 0
	for n := range min(len(old.tokens), len(fresh.tokens)) + 1 {
		if tailIs(n, head, to, old, fresh, len(s)-len(text)) {
			tail = n
		}
	}
	return s, head, tail, api.OK, 0
}

func tailIs(n, head, to int, old, fresh division, longer int) bool {
	i, j := len(old.tokens)-n, len(fresh.tokens)-n
	if i < head || j < head {
		return false
	}
	for k := range n {
		a, b := old.tokens[i+k], fresh.tokens[j+k]
		if a.Kind != b.Kind || a.Text != b.Text || old.starts[i+k]+longer != fresh.starts[j+k] || old.starts[i+k] < to {
			return false
		}
	}
	return true
}

// over yields all texts of at most so many bytes, each of them one of those given.
func over(bytes string, most int) iter.Seq[string] {
	return func(yield func(string) bool) { extended("", bytes, most, yield) }
}

func extended(text, bytes string, more int, yield func(string) bool) bool {
	if !yield(text) {
		return false
	}
	for i := 0; more > 0 && i < len(bytes); i++ {
		if !extended(text+bytes[i:i+1], bytes, more-1, yield) {
			return false
		}
	}
	return true
}

// pieces are parts of texts; between them they have everything that the chapter tells apart.
var pieces = []string{
	"a", "ab1", "resend", "at:", "Put:", "_At", "_IntAdd:", "_at", "_", "Self", "0", "17", "007", "'x'", "''", "'it''s'", "'",
	"\"so\"", "\"", "+", "<-", "<=>", "++", ".", ".", ".", ":", ";", "(", ")", "[", "]", "|", "^", " ", " ", "\t", "\n", "\n", "#", "\x00", "\r", "é",
}

// mixed yields texts of random pieces, the same ones each time; more of the first pieces than of the last.
func mixed(count, most int) iter.Seq[string] {
	return func(yield func(string) bool) {
		state := uint32(1)
		next := func(n int) int {
			state = state*1664525 + 1013904223
			return int(state>>8) % n
		}
		for range count {
			var b strings.Builder
			for range next(most + 1) {
				b.WriteString(pieces[next(1+next(len(pieces)))])
			}
			if !yield(b.String()) {
				return
			}
		}
	}
}

// each yields texts with each of the 256 bytes, by itself and beside others.
func each() iter.Seq[string] {
	return func(yield func(string) bool) {
		for i := range 256 {
			b := string([]byte{byte(i)})
			for _, s := range []string{b, b + ":", "a" + b, "a." + b, "A" + b + ":", "_" + b, "1" + b, "+" + b, "'" + b + "'", "\"" + b + "\"", "a" + b + "a"} {
				if !yield(s) {
					return
				}
			}
		}
	}
}

// texts yields texts of all sorts.
func texts() iter.Seq[string] {
	return func(yield func(string) bool) {
		for _, l := range []iter.Seq[string]{each(), over("aB1_:.'\"+ \n#(", 4), over("ab.+ ", 6), over("'\"a ", 6), mixed(4000, 30)} {
			for s := range l {
				if !yield(s) {
					return
				}
			}
		}
	}
}
