package prim

import (
	"jacquard/api"
	"jacquard/cplx"
	"jacquard/heap"
	"jacquard/show"
	"jacquard/tag"
)

// Pure: a primitive that concerns values alone.
func Pure(h *heap.Heap, p int, args []api.Value) (api.Value, int) {
	switch {
	case h == nil:
		return 0, api.FaultHeap
	case p < api.PrimLen || p > api.PrimKind:
		return 0, api.FaultCall
	case len(args) != Arity(p):
		return 0, api.FaultArgs
	}
	switch p {
	case api.PrimLen:
		return length(h, args[0])
	case api.PrimPush:
		return done(writtenFault(h.Push(args[0], args[1])))
	case api.PrimPop:
		return popped(h, args[0])
	case api.PrimKeys:
		return keys(h, args[0])
	case api.PrimHas, api.PrimGet, api.PrimPut:
		return keyed(h, p, args)
	case api.PrimSame:
		return same(h, args[0], args[1])
	case api.PrimText:
		return text(h, args[0])
	case api.PrimCx:
		return complexFrom(h, args[0], args[1])
	case api.PrimRe, api.PrimIm:
		return part(h, args[0], p == api.PrimIm)
	}
	return kindName(h, args[0])
}

// done is what a primitive answers that only writes.
func done(fault int) (api.Value, int) {
	if fault != api.FaultNone {
		return 0, fault
	}
	return api.Nil, api.FaultNone
}

func length(h *heap.Heap, v api.Value) (api.Value, int) {
	n, e := h.Len(v)
	if e != api.OK {
		return 0, api.FaultType
	}
	return tag.Int(n), api.FaultNone
}

func popped(h *heap.Heap, a api.Value) (api.Value, int) {
	v, e := h.Pop(a)
	switch e {
	case api.OK:
		return v, api.FaultNone
	case api.ErrNone:
		return 0, api.FaultRange
	}
	return 0, api.FaultType
}

func keys(h *heap.Heap, r api.Value) (api.Value, int) {
	names, e := h.Keys(r)
	if e != api.OK {
		return 0, api.FaultType
	}
	// A key may be too long for a string; that must be known before the first one is made.
	for _, name := range names {
		if len(name) > api.MaxStr {
			return 0, api.FaultLong
		}
	}
	texts := make([]api.Value, len(names))
	for i, name := range names {
		v, fault := newString(h, []byte(name))
		if fault != api.FaultNone {
			return 0, fault
		}
		texts[i] = v
	}
	v, e := h.Arr(texts)
	return v, madeFault(e)
}

// keyed does what concerns a record and a key.
func keyed(h *heap.Heap, p int, args []api.Value) (api.Value, int) {
	r := args[0]
	key, isString := keyOf(h, args[1])
	if !isString || h.Kind(r) != api.ObjRec {
		return 0, api.FaultType
	}
	if p == api.PrimPut {
		return done(writtenFault(h.Put(r, key, args[2])))
	}
	v, e := h.Field(r, key)
	switch {
	case p == api.PrimHas:
		return tag.Bool(e == api.OK), api.FaultNone
	case e != api.OK:
		return api.Nil, api.FaultNone
	}
	return v, api.FaultNone
}

func same(h *heap.Heap, a, b api.Value) (api.Value, int) {
	alike, e := show.Deep(h, a, b)
	if e != api.OK {
		return 0, api.FaultLong
	}
	return tag.Bool(alike), api.FaultNone
}

func text(h *heap.Heap, x api.Value) (api.Value, int) {
	b, e := show.Text(h, x)
	if e != api.OK {
		return 0, api.FaultLong
	}
	return newString(h, b)
}

func complexFrom(h *heap.Heap, a, b api.Value) (api.Value, int) {
	re, isNum := tag.Num(a)
	im, isAlso := tag.Num(b)
	if !isNum || !isAlso {
		return 0, api.FaultType
	}
	return newComplex(h, cplx.Make(re, im))
}

func part(h *heap.Heap, z api.Value, im bool) (api.Value, int) {
	if h.Kind(z) != api.ObjCplx {
		return 0, api.FaultType
	}
	n, e := cplx.Part(complexOf(h, z), im)
	if e != api.OK {
		return 0, api.FaultRange
	}
	return tag.Int(n), api.FaultNone
}

func kindName(h *heap.Heap, x api.Value) (api.Value, int) {
	kind := kindOf(h, x)
	if kind == 0 {
		return 0, api.FaultType
	}
	return newString(h, []byte(kindNames[kind]))
}
