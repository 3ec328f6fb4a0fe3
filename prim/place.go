package prim

import (
	"jacquard/api"
	"jacquard/heap"
	"jacquard/tag"
)

// Index: an entry.
func Index(h *heap.Heap, a, i api.Value) (api.Value, int) {
	if h == nil {
		return 0, api.FaultHeap
	}
	switch h.Kind(a) {
	case api.ObjStr: // its bytes are read as an array's entries are
		fallthrough
	case api.ObjArr:
		n, isNum := tag.Num(i)
		if !isNum {
			return 0, api.FaultType
		}
		v, e := h.At(a, n)
		if e != api.OK {
			return 0, api.FaultRange
		}
		return v, api.FaultNone
	case api.ObjRec:
		if key, isString := keyOf(h, i); isString {
			return Field(h, a, key)
		}
	}
	return 0, api.FaultType
}

// SetIndex: an entry is written.
func SetIndex(h *heap.Heap, a, i, x api.Value) int {
	if h == nil {
		return api.FaultHeap
	}
	switch h.Kind(a) {
	case api.ObjArr:
		if n, isNum := tag.Num(i); isNum {
			return setEntry(h, a, n, x)
		}
	case api.ObjRec:
		if key, isString := keyOf(h, i); isString {
			return SetField(h, a, key, x)
		}
	}
	return api.FaultType
}

// Field: a field.
func Field(h *heap.Heap, r api.Value, key string) (api.Value, int) {
	if h == nil {
		return 0, api.FaultHeap
	}
	v, e := h.Field(r, key)
	switch e {
	case api.OK:
		return v, api.FaultNone
	case api.ErrNone:
		return 0, api.FaultField
	}
	return 0, api.FaultType
}

// SetField: a field is written.
func SetField(h *heap.Heap, r api.Value, key string, x api.Value) int {
	if h == nil {
		return api.FaultHeap
	}
	e := h.Put(r, key, x)
	if e == api.ErrArg && isFull(h, r, key) {
		// The heap asks for x first; here the room comes first.
		e = api.ErrLong
	}
	return writtenFault(e)
}

// setEntry asks for the entry first, since the heap would ask for x first.
func setEntry(h *heap.Heap, a api.Value, n int, x api.Value) int {
	if _, e := h.At(a, n); e != api.OK {
		return api.FaultRange
	}
	return writtenFault(h.Set(a, n, x))
}

// isFull: has a record neither the key nor room for it?
func isFull(h *heap.Heap, r api.Value, key string) bool {
	_, e := h.Field(r, key)
	n, _ := h.Len(r)
	return e == api.ErrNone && n >= api.MaxFields
}

// writtenFault is the fault by which a value is not written.
func writtenFault(e api.Errno) int {
	switch e {
	case api.OK:
		return api.FaultNone
	case api.ErrLong:
		return api.FaultLong
	}
	return api.FaultType
}

// keyOf tells a string as a record's key.
func keyOf(h *heap.Heap, k api.Value) (string, bool) {
	b, e := h.Bytes(k)
	return string(b), e == api.OK
}
