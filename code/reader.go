package code

import "jacquard/api"

const (
	// mostBytes is how many bytes a number has at most.
	mostBytes = 9
	// mostLast is the greatest byte that the last of so many may be: what is left of mostNumber.
	mostLast = mostNumber >> (7 * (mostBytes - 1))
)

// reader stays at the first fault: behind it each number is 0, so that lists and texts are empty.
type reader struct {
	b     []byte
	at    int // the next byte; where there is a fault, its place
	fault api.Errno
}

func (r *reader) fail(e api.Errno, at int) {
	if r.fault == api.OK {
		r.fault, r.at = e, at
	}
}

func (r *reader) next() byte {
	if r.at == len(r.b) {
		r.fail(api.ErrForm, r.at)
	}
	if r.fault != api.OK {
		return 0
	}
	c := r.b[r.at]
	r.at++
	return c
}

func (r *reader) mark() {
	for i := range len(mark) {
		if r.next() != mark[i] {
			r.fail(api.ErrForm, i)
		}
	}
}

func (r *reader) number() int {
	n := 0
	for i := range mostBytes {
		c := r.next()
		if i > 0 && c == 0 || i == mostBytes-1 && c > mostLast {
			r.fail(api.ErrForm, r.at-1)
		}
		if r.fault != api.OK {
			return 0
		}
		n += int(c&127) << (7 * i)
		if c < 128 {
			break
		}
	}
	return n
}

func (r *reader) signed() int {
	n := r.number()
	if n%2 == 1 {
		return -(n / 2) - 1
	}
	return n / 2
}

// count is a number that says how many, or how long: each of them needs a byte at least.
func (r *reader) count() int {
	first := r.at
	n := r.number()
	if n > len(r.b)-r.at {
		r.fail(api.ErrMany, first)
		return 0
	}
	return n
}

// readList reads how many there are, and each of them as one is read. It has no room ahead of what has come: a great number may be all that there is.
func readList[T any](r *reader, one func() T) []T {
	var l []T
	for range r.count() {
		x := one()
		if r.fault != api.OK {
			return nil
		}
		l = append(l, x)
	}
	return l
}

func (r *reader) text() string {
	n := r.count()
	from := r.at
	r.at += n
	return string(r.b[from:r.at])
}

func (r *reader) numbers() []int {
	return readList(r, func() int { return r.number() })
}

func (r *reader) image() api.Image {
	r.mark()
	var im api.Image
	im.Strs = readList(r, func() string { return r.text() })
	im.Keys = readList(r, func() []int { return r.numbers() })
	im.Globals = r.number()
	im.Funs = readList(r, func() api.Code { return r.fun() })
	return im
}

func (r *reader) fun() api.Code {
	var c api.Code
	c.Params = r.number()
	c.Slots = r.number()
	c.Boxes = r.numbers()
	c.Caps = readList(r, func() api.Cap {
		return api.Cap{Own: r.number(), N: r.number()}
	})
	c.Code = readList(r, func() api.Instr {
		return api.Instr{Op: r.number(), A: r.signed(), B: r.signed()}
	})
	c.Tries = readList(r, func() api.Try {
		return api.Try{From: r.number(), To: r.number(), Target: r.number(), Depth: r.number()}
	})
	return c
}

// end: behind the image there is nothing.
func (r *reader) end() {
	if r.at < len(r.b) {
		r.fail(api.ErrForm, r.at)
	}
}
