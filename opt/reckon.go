package opt

import (
	"jacquard/api"
	"jacquard/tag"
)

// numbersAlone are the bits of an operation that had to do with two numbers, and with nothing else.
const numbersAlone = 1 | 16

// bin: what is known is reckoned ahead; what had to do with numbers alone counts on them.
func (b *body) bin(at int, i api.Instr) {
	l := b.take(2)
	x, isX := b.value(l[0])
	y, isY := b.value(l[1])
	if isX && isY && b.folds() {
		if v, is := reckoned(i.A, x, y); is {
			b.push(b.constant(v))
			return
		}
	}
	op := api.OpBin
	if b.guards(at, l) {
		op = StepNum
	}
	s := b.newStep(op, i.A, l...)
	s.mark = b.markAt(at + 1)
	s.To = b.pushResult()
	b.add(s)
}

// single: not and neg.
func (b *body) single(at int, i api.Instr) {
	l := b.take(1)
	if x, is := b.value(l[0]); is && b.folds() {
		if v, is := reckonedSingle(i.Op, x); is {
			b.push(b.constant(v))
			return
		}
	}
	op := i.Op
	if op == api.OpNeg && b.guards(at, l) {
		op = StepMinus
	}
	s := b.newStep(op, i.A, l...)
	s.mark = b.markAt(at + 1)
	s.To = b.pushResult()
	b.add(s)
}

// guards: does an operation count on numbers? (Not with a constant that is none: it would never hold.)
func (b *body) guards(at int, l []thing) bool {
	for _, x := range l {
		if v, is := b.value(x); is && tag.Kind(v) != api.KindInt {
			return false
		}
	}
	return b.how.Guard == 1 && b.seen[place{b.number, at}] == numbersAlone
}

// reckoned is what an operation on two values makes, if that can be told without objects and is no fault.
func reckoned(op int, x, y api.Value) (api.Value, bool) {
	if op == api.BinEq || op == api.BinNe {
		return tag.Bool((x == y) == (op == api.BinEq)), x == y || !areReferences(x, y)
	}
	v, e := ofNumbers(op, x, y)
	return v, e == api.OK
}

// areReferences: are both? Then they may be the same, though they are unlike.
func areReferences(x, y api.Value) bool {
	return tag.Kind(x) == api.KindRef && tag.Kind(y) == api.KindRef
}

func ofNumbers(op int, x, y api.Value) (api.Value, api.Errno) {
	switch op {
	case api.BinAdd:
		return tag.Add(x, y)
	case api.BinSub:
		return tag.Sub(x, y)
	case api.BinMul:
		return tag.Mul(x, y)
	case api.BinDiv:
		return tag.Div(x, y)
	case api.BinMod:
		return tag.Mod(x, y)
	case api.BinLt:
		less, e := tag.Less(x, y)
		return tag.Bool(less), e
	case api.BinLe:
		more, e := tag.Less(y, x)
		return tag.Bool(!more), e
	case api.BinGt:
		more, e := tag.Less(y, x)
		return tag.Bool(more), e
	}
	less, e := tag.Less(x, y)
	return tag.Bool(!less), e
}

func reckonedSingle(op int, x api.Value) (api.Value, bool) {
	if op == api.OpNot {
		return tag.Bool(!tag.Truth(x)), true
	}
	v, e := tag.Neg(x)
	return v, e == api.OK
}
