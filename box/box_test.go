package box

import (
	"fmt"
	"math"
	"slices"
	"testing"

	"jacquard/api"
)

// made is boxes with rooms of these sizes.
func made(t *testing.T, rooms ...int) *Boxes {
	t.Helper()
	b := New()
	for i, room := range rooms {
		wantMake(t, b, room, i)
	}
	return b
}

func wantMake(t *testing.T, b *Boxes, room, want int) {
	t.Helper()
	if i, e := b.Make(room); i != want || e != api.OK {
		t.Fatalf("Make(%d) = %d, %d, not %d", room, i, e, want)
	}
}

func wantMakeWrong(t *testing.T, b *Boxes, room int, want api.Errno) {
	t.Helper()
	if i, e := b.Make(room); i != 0 || e != want {
		t.Errorf("Make(%d) = %d, %d, not %d", room, i, e, want)
	}
}

func wantSend(t *testing.T, b *Boxes, i int, v api.Value, want api.Errno) {
	t.Helper()
	if e := b.Send(i, v); e != want {
		t.Errorf("Send(%d, %d) = %d, not %d", i, v, e, want)
	}
}

func wantRecv(t *testing.T, b *Boxes, i int, want ...api.Value) {
	t.Helper()
	for _, w := range want {
		if v, e := b.Recv(i); v != w || e != api.OK {
			t.Errorf("Recv(%d) = %d, %d, not %d", i, v, e, w)
		}
	}
}

func wantRecvWrong(t *testing.T, b *Boxes, i int, want api.Errno) {
	t.Helper()
	if v, e := b.Recv(i); v != 0 || e != want {
		t.Errorf("Recv(%d) = %d, %d, not %d", i, v, e, want)
	}
}

// wantIn asks all that can be asked of a box in whose room these values are.
func wantIn(t *testing.T, b *Boxes, i, room int, want ...api.Value) {
	t.Helper()
	if n, e := b.Len(i); n != len(want) || e != api.OK {
		t.Errorf("Len(%d) = %d, %d, not %d", i, n, e, len(want))
	}
	if l, e := b.All(i); !slices.Equal(l, want) || e != api.OK {
		t.Errorf("All(%d) = %v, %d, not %v", i, l, e, want)
	}
	if full := b.Full(i); full != (len(want) == room) {
		t.Errorf("Full(%d) = %v with %v in a room of %d", i, full, want, room)
	}
	if empty := b.Empty(i); empty != (len(want) == 0) {
		t.Errorf("Empty(%d) = %v with %v", i, empty, want)
	}
}

// wantNone asks all that can be asked of a box that there is not.
func wantNone(t *testing.T, b *Boxes, i int, want api.Errno) {
	t.Helper()
	if n, e := b.Len(i); n != 0 || e != want {
		t.Errorf("Len(%d) = %d, %d, not %d", i, n, e, want)
	}
	if l, e := b.All(i); len(l) != 0 || e != want {
		t.Errorf("All(%d) = %v, %d, not %d", i, l, e, want)
	}
	if b.Full(i) || b.Empty(i) {
		t.Errorf("Full(%d) = %v, Empty(%d) = %v", i, b.Full(i), i, b.Empty(i))
	}
	wantSend(t, b, i, 4, want)
	wantRecvWrong(t, b, i, want)
}

// wantSame makes calls that must change nothing.
func wantSame(t *testing.T, b *Boxes, calls func()) {
	t.Helper()
	before := fmt.Sprint(*b)
	calls()
	if after := fmt.Sprint(*b); after != before {
		t.Errorf("changed:\n%v\n%v", before, after)
	}
}

// numbersOfNone are numbers of no box, where there are so many.
func numbersOfNone(boxes int) []int {
	return []int{-1, boxes, boxes + 1, api.MaxBoxes, math.MaxInt, math.MinInt}
}

// The chapter's example.
func TestExample(t *testing.T) {
	b := made(t, 1)
	wantSend(t, b, 0, 4, api.OK)
	wantSend(t, b, 0, 8, api.ErrTime)
	wantRecv(t, b, 0, 4)
	wantRecvWrong(t, b, 0, api.ErrTime)
}

// P19.1: without boxes, each object by itself.
func TestNew(t *testing.T) {
	b, other := New(), New()
	for _, i := range append(numbersOfNone(0), 1) {
		wantNone(t, b, i, api.ErrArg)
	}
	wantMake(t, b, 2, 0)
	wantSend(t, b, 0, 4, api.OK)
	wantNone(t, other, 0, api.ErrArg)
	wantMake(t, other, 1, 0)
	wantIn(t, other, 0, 1)
	wantIn(t, b, 0, 2, 4)
}

// P19.1: numbers from 0 on, each box empty and with room for just so many.
func TestMake(t *testing.T) {
	rooms := []int{1, 2, 3, api.MaxRoom - 1, api.MaxRoom, 1}
	b := made(t, rooms...)
	for i, room := range rooms {
		wantIn(t, b, i, room)
		for k := range room {
			wantSend(t, b, i, api.Value(k), api.OK)
		}
		wantSend(t, b, i, 0, api.ErrTime)
	}
}

// P19.1: a box made later leaves those ahead of it as they are.
func TestMakeAmong(t *testing.T) {
	b := made(t, 2)
	wantSend(t, b, 0, 4, api.OK)
	for i := range 20 {
		wantMake(t, b, 3, i+1)
		wantIn(t, b, i+1, 3)
		wantIn(t, b, 0, 2, 4)
	}
}

// P19.1: rooms of 1 to MaxRoom, MaxBoxes boxes; ErrRange ahead of ErrMany.
func TestMakeBounds(t *testing.T) {
	wrong := []int{0, -1, api.MaxRoom + 1, math.MaxInt, math.MinInt}
	b := made(t, 1)
	wantSame(t, b, func() {
		for _, room := range wrong {
			wantMakeWrong(t, b, room, api.ErrRange)
		}
	})
	for i := 1; i < api.MaxBoxes; i++ {
		wantMake(t, b, 1+i%api.MaxRoom, i)
	}
	wantSame(t, b, func() {
		wantMakeWrong(t, b, 1, api.ErrMany)
		wantMakeWrong(t, b, api.MaxRoom, api.ErrMany)
		for _, room := range wrong {
			wantMakeWrong(t, b, room, api.ErrRange)
		}
	})
	wantNone(t, b, api.MaxBoxes, api.ErrArg)
	wantSend(t, b, api.MaxBoxes-1, 4, api.OK)
	wantIn(t, b, api.MaxBoxes-1, api.MaxRoom, 4)
	wantIn(t, b, 0, 1)
}

// P19.1: ErrArg, and false, of a box that there is not; nothing changes.
func TestNoBox(t *testing.T) {
	b := made(t, 1, 2)
	wantSend(t, b, 0, 4, api.OK)
	wantSame(t, b, func() {
		for _, i := range numbersOfNone(2) {
			wantNone(t, b, i, api.ErrArg)
		}
	})
}

// P19.1: ErrNil ahead of all else.
func TestNil(t *testing.T) {
	var b *Boxes
	for _, room := range []int{1, 0, -1, api.MaxRoom + 1} {
		wantMakeWrong(t, b, room, api.ErrNil)
	}
	for _, i := range append(numbersOfNone(0), 1) {
		wantNone(t, b, i, api.ErrNil)
	}
}

// P19.2: what a box tells while it is filled and emptied.
func TestFill(t *testing.T) {
	b := made(t, 3)
	wantIn(t, b, 0, 3)
	wantSend(t, b, 0, 4, api.OK)
	wantIn(t, b, 0, 3, 4)
	wantSend(t, b, 0, 8, api.OK)
	wantIn(t, b, 0, 3, 4, 8)
	wantSend(t, b, 0, 12, api.OK)
	wantIn(t, b, 0, 3, 4, 8, 12)
	wantRecv(t, b, 0, 4)
	wantIn(t, b, 0, 3, 8, 12)
	wantSend(t, b, 0, 16, api.OK)
	wantIn(t, b, 0, 3, 8, 12, 16)
	wantRecv(t, b, 0, 8, 12, 16)
	wantIn(t, b, 0, 3)
}

// P19.2: ErrTime of a full and of an empty one, in which nothing changes.
func TestErrTime(t *testing.T) {
	b := made(t, 2)
	wantSame(t, b, func() { wantRecvWrong(t, b, 0, api.ErrTime) })
	wantSend(t, b, 0, 4, api.OK)
	wantSend(t, b, 0, 8, api.OK)
	wantSame(t, b, func() {
		wantSend(t, b, 0, 12, api.ErrTime)
		wantSend(t, b, 0, 12, api.ErrTime)
	})
	wantRecv(t, b, 0, 4, 8)
	wantSame(t, b, func() { wantRecvWrong(t, b, 0, api.ErrTime) })
	wantSend(t, b, 0, 16, api.OK)
	wantIn(t, b, 0, 2, 16)
}

// P19.2: any word, the same one several times too, goes in and comes out as it is.
func TestWords(t *testing.T) {
	words := []api.Value{0, api.Nil, api.False, api.True, 3, 4, 4, 4, math.MaxUint64, 1 << 63, 0}
	b := made(t, len(words))
	for _, v := range words {
		wantSend(t, b, 0, v, api.OK)
	}
	wantIn(t, b, 0, len(words), words...)
	wantRecv(t, b, 0, words...)
}

// P19.2: boxes have nothing to do with one another.
func TestApart(t *testing.T) {
	b := made(t, 1, 2, 2)
	wantSend(t, b, 1, 4, api.OK)
	wantSend(t, b, 0, 8, api.OK)
	wantSend(t, b, 1, 12, api.OK)
	wantIn(t, b, 0, 1, 8)
	wantIn(t, b, 1, 2, 4, 12)
	wantIn(t, b, 2, 2)
	wantRecv(t, b, 1, 4)
	wantRecv(t, b, 0, 8)
	wantIn(t, b, 0, 1)
	wantIn(t, b, 1, 2, 12)
	wantIn(t, b, 2, 2)
}

// P19.2: asking changes nothing.
func TestAsk(t *testing.T) {
	b := made(t, 3, 1)
	wantSend(t, b, 0, 4, api.OK)
	wantSend(t, b, 1, 8, api.OK)
	wantSame(t, b, func() {
		for range 3 {
			wantIn(t, b, 0, 3, 4)
			wantIn(t, b, 1, 1, 8)
		}
	})
}

// P19.2, and the rule of memory: what All answered is nobody else's, where the values wrap too.
func TestMemory(t *testing.T) {
	b := made(t, 4)
	for k := range 7 {
		wantSend(t, b, 0, api.Value(4*k), api.OK)
		wantSend(t, b, 0, api.Value(4*k+1), api.OK)
		l, _ := b.All(0)
		twin, _ := b.All(0)
		whole := l[:cap(l)]
		for i := range whole {
			whole[i] = 99
		}
		_ = append(l, 98)
		wantIn(t, b, 0, 4, twin...)
		wantSend(t, b, 0, 5, api.OK)
		if !slices.Equal(twin, []api.Value{api.Value(4 * k), api.Value(4*k + 1)}) {
			t.Error(twin)
		}
		wantRecv(t, b, 0, twin...)
		wantRecv(t, b, 0, 5)
	}
}
