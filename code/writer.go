package code

import "jacquard/api"

// mark is what each image's bytes begin with.
const mark = "JQ01"

// mostNumber is the greatest number that is told without a sign, and what MinInt is told as.
const mostNumber = 1<<62 - 1

// writer goes on where an image is too long, without the bytes: a number that may not be comes ahead of that, wherever it stands.
type writer struct {
	b     []byte
	wrong bool // a number may not be
	long  bool // there were more than MaxImage bytes
}

func (w *writer) text(s string) {
	if len(s) > api.MaxImage-len(w.b) {
		w.long = true
		return
	}
	w.b = append(w.b, s...)
}

func (w *writer) put(c byte) {
	if len(w.b) == api.MaxImage {
		w.long = true
		return
	}
	w.b = append(w.b, c)
}

func (w *writer) number(n int) {
	if n < 0 || n > mostNumber {
		w.wrong = true
		return
	}
	for ; n >= 128; n >>= 7 {
		w.put(byte(n&127 + 128))
	}
	w.put(byte(n))
}

func (w *writer) signed(z int) {
	switch {
	case z < api.MinInt || z > api.MaxInt:
		w.wrong = true
	case z < 0:
		w.number(-2*z - 1)
	default:
		w.number(2 * z)
	}
}

// writeList tells how many there are, and each of them as one is told.
func writeList[T any](w *writer, l []T, one func(T)) {
	w.number(len(l))
	for _, x := range l {
		one(x)
	}
}

func (w *writer) numbers(l []int) {
	writeList(w, l, func(n int) { w.number(n) })
}

func (w *writer) image(im api.Image) {
	w.text(mark)
	writeList(w, im.Strs, func(s string) {
		w.number(len(s))
		w.text(s)
	})
	writeList(w, im.Keys, func(l []int) { w.numbers(l) })
	w.number(im.Globals)
	writeList(w, im.Funs, func(c api.Code) { w.fun(c) })
}

func (w *writer) fun(c api.Code) {
	w.number(c.Params)
	w.number(c.Slots)
	w.numbers(c.Boxes)
	writeList(w, c.Caps, func(p api.Cap) {
		w.number(p.Own)
		w.number(p.N)
	})
	writeList(w, c.Code, func(i api.Instr) {
		w.number(i.Op)
		w.signed(i.A)
		w.signed(i.B)
	})
	writeList(w, c.Tries, func(t api.Try) {
		w.number(t.From)
		w.number(t.To)
		w.number(t.Target)
		w.number(t.Depth)
	})
}
