package print

import (
	"jacquard/api"
	"jacquard/show"
)

// writer keeps a text as long as it has room for it. What comes when it is full is dropped, so that those who write need not ask.
type writer struct {
	text []byte
	full bool
}

// takes: is there room for so many bytes more? If not, the writer is full from then on.
func (w *writer) takes(n int) bool {
	w.full = w.full || n > api.MaxShow-len(w.text)
	return !w.full
}

func (w *writer) put(piece string) {
	if w.takes(len(piece)) {
		w.text = append(w.text, piece...)
	}
}

func (w *writer) blanks(n int) {
	if !w.takes(n) {
		return
	}
	for range n {
		w.text = append(w.text, ' ')
	}
}

// quote asks for room ahead: a text gets no shorter, and one that has no room may be great.
func (w *writer) quote(text string) {
	if w.takes(len(text)) {
		w.put(string(show.Quote([]byte(text))))
	}
}

// whole is what was written, if there was room for all of it.
func (w *writer) whole() ([]byte, api.Errno) {
	if w.full {
		return nil, api.ErrLong
	}
	return w.text, api.OK
}
