package show

import (
	"strconv"
	"strings"

	"jacquard/api"
	"jacquard/heap"
	"jacquard/tag"
)

const hexDigits = "0123456789abcdef"

// shower shows values of one heap. What it calls says no where there is no room left, and so breaks all off.
type shower struct {
	h      *heap.Heap
	within map[api.Value]int // the objects that one is within, and how many of them each is within
	put    func(piece string) bool
}

// Text: what a value looks like.
func Text(h *heap.Heap, v api.Value) ([]byte, api.Errno) {
	if h == nil {
		return nil, api.ErrNil
	}
	var text []byte
	put := func(piece string) bool {
		if len(text)+len(piece) > api.MaxShow {
			return false
		}
		text = append(text, piece...)
		return true
	}
	s := shower{h: h, within: map[api.Value]int{}, put: put}
	if !s.value(v) {
		return nil, api.ErrLong
	}
	return text, api.OK
}

// Quote: bytes as a string's text.
func Quote(b []byte) []byte {
	text := []byte{'"'}
	for _, c := range b {
		switch {
		case c == '"' || c == '\\':
			text = append(text, '\\', c)
		case c == '\n':
			text = append(text, '\\', 'n')
		case c == '\t':
			text = append(text, '\\', 't')
		case c >= 0x20 && c <= 0x7e:
			text = append(text, c)
		default:
			text = append(text, '\\', 'x', hexDigits[c>>4], hexDigits[c&15])
		}
	}
	return append(text, '"')
}

// value shows any word.
func (s *shower) value(v api.Value) bool {
	if hasParts(s.h.Kind(v)) {
		return s.nested(v)
	}
	return s.put(plain(s.h, v))
}

// nested shows an object that has parts.
func (s *shower) nested(v api.Value) bool {
	depth := len(s.within)
	if at, inside := s.within[v]; inside {
		return s.put("^" + strconv.Itoa(depth-at))
	}
	s.within[v] = depth
	if !s.parts(v) {
		return false
	}
	delete(s.within, v)
	return true
}

// parts shows what is in an object, and what stands about it.
func (s *shower) parts(v api.Value) bool {
	switch s.h.Kind(v) {
	case api.ObjArr:
		return s.put("[") && s.entries(v) && s.put("]")
	case api.ObjRec:
		return s.put("{") && s.fields(v) && s.put("}")
	}
	x, _ := s.h.At(v, 0)
	return s.put("&") && s.value(x)
}

// entries shows an array's.
func (s *shower) entries(v api.Value) bool {
	n, _ := s.h.Len(v)
	for i := range n {
		x, _ := s.h.At(v, i)
		if !s.put(between(i)) || !s.value(x) {
			return false
		}
	}
	return true
}

// fields shows a record's.
func (s *shower) fields(v api.Value) bool {
	keys, _ := s.h.Keys(v)
	for i, key := range keys {
		x, _ := s.h.Field(v, key)
		if !s.put(between(i)) || !s.put(key) || !s.put(": ") || !s.value(x) {
			return false
		}
	}
	return true
}

// between is what stands ahead of the i-th part.
func between(i int) string {
	if i == 0 {
		return ""
	}
	return ", "
}

// plain is the text of a word that is no reference of an object with parts.
func plain(h *heap.Heap, v api.Value) string {
	switch tag.Kind(v) {
	case api.KindInt:
		n, _ := tag.Num(v)
		return strconv.Itoa(n)
	case api.KindAtom:
		return atom(v)
	case api.KindPrim:
		i, _ := tag.Index(v)
		return "prim:" + strconv.Itoa(i)
	case api.KindRef:
		return object(h, v)
	}
	return "?"
}

func atom(v api.Value) string {
	switch v {
	case api.False:
		return "false"
	case api.True:
		return "true"
	}
	return "nil"
}

// object is the text of a reference of an object without parts, or of none.
func object(h *heap.Heap, v api.Value) string {
	switch h.Kind(v) {
	case api.ObjStr:
		b, _ := h.Bytes(v)
		return string(Quote(b))
	case api.ObjFun:
		f, _, _ := h.FunOf(v)
		return "fn:" + strconv.Itoa(f)
	case api.ObjCplx:
		re, im, _ := h.CplxOf(v)
		return "(" + bits(re) + "," + bits(im) + ")"
	case api.ObjMon:
		return "monitor:" + number(h, v)
	case api.ObjBox:
		return "box:" + number(h, v)
	case api.ObjThr:
		return "thread:" + number(h, v)
	}
	return "?"
}

// bits is a part's, in 16 digits.
func bits(part uint64) string {
	digits := strconv.FormatUint(part, 16)
	return strings.Repeat("0", 16-len(digits)) + digits
}

// number is an item's.
func number(h *heap.Heap, v api.Value) string {
	n, _ := h.ItemOf(v)
	return strconv.Itoa(n)
}
