package code

import (
	"strconv"

	"proteus/api"
)

// maxEncoding is how many bytes an encoding has at most.
const maxEncoding = 1 << 20

// writer makes an encoding.
type writer struct{ bytes []byte }

func encoded(l []api.Code) []byte {
	w := &writer{}
	writeList(w, l, w.code)
	return w.bytes
}

func (w *writer) put(s string) {
	if len(w.bytes)+len(s) > maxEncoding {
		panic(fault(api.ErrLimit))
	}
	w.bytes = append(w.bytes, s...)
}

func (w *writer) numbers(l ...int) {
	for _, n := range l {
		w.put(strconv.Itoa(n))
		w.put(";")
	}
}

func (w *writer) text(s string) {
	w.numbers(len(s))
	w.put(s)
}

func (w *writer) truth(b bool) {
	if b {
		w.numbers(1)
	} else {
		w.numbers(0)
	}
}

func writeList[T any](w *writer, l []T, write func(x T)) {
	w.numbers(len(l))
	for _, x := range l {
		write(x)
	}
}

func (w *writer) code(c api.Code) {
	w.text(c.Name)
	w.truth(c.Block)
	w.numbers(c.Outer, c.Args)
	writeList(w, c.Names, w.text)
	writeList(w, c.Init, w.value)
	writeList(w, c.Lits, w.value)
	writeList(w, c.Sels, w.text)
	writeList(w, c.Instrs, w.instr)
}

func (w *writer) value(v api.Val) {
	w.numbers(v.K, v.N)
	w.text(v.T)
}

func (w *writer) instr(i api.Instr) { w.numbers(i.Op, i.A, i.B, i.C) }

// reader reads what is left of an encoding. It need not see everything that is wrong, as what it returns is written again.
type reader struct{ left []byte }

func decoded(b []byte) []api.Code {
	r := &reader{b}
	return readList(r, r.code)
}

// next returns so many bytes, and passes over them.
func (r *reader) next(count int) string {
	if count < 0 || count > len(r.left) {
		panic(fault(api.ErrCode))
	}
	s := string(r.left[:count])
	r.left = r.left[count:]
	return s
}

func (r *reader) number() int {
	n, err := strconv.Atoi(r.next(find(r.left, ';')))
	if err != nil {
		panic(fault(api.ErrCode))
	}
	r.next(1)
	return n
}

func (r *reader) text() string {
	count := r.number()
	return r.next(count)
}

func readList[T any](r *reader, read func() T) []T {
	var l []T
	for range r.number() {
		l = append(l, read())
	}
	return l
}

func (r *reader) code() api.Code {
	c := api.Code{}
	c.Name = r.text()
	c.Block = r.number() != 0
	c.Outer = r.number()
	c.Args = r.number()
	c.Names = readList(r, r.text)
	c.Init = readList(r, r.value)
	c.Lits = readList(r, r.value)
	c.Sels = readList(r, r.text)
	c.Instrs = readList(r, r.instr)
	return c
}

func (r *reader) value() api.Val {
	v := api.Val{}
	v.K = r.number()
	v.N = r.number()
	v.T = r.text()
	return v
}

func (r *reader) instr() api.Instr {
	i := api.Instr{}
	i.Op = r.number()
	i.A = r.number()
	i.B = r.number()
	i.C = r.number()
	return i
}
