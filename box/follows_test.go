package box

import (
	"math/rand"
	"slices"
	"testing"

	"jacquard/api"
)

// The model of a box goes through all that was ever put into it: so many of these have come out.
type mailbox struct {
	room int
	sent []api.Value
	out  int
}

func (x *mailbox) in() []api.Value {
	return x.sent[x.out:]
}

func (x *mailbox) send(v api.Value) api.Errno {
	if len(x.in()) == x.room {
		return api.ErrTime
	}
	x.sent = append(x.sent, v)
	return api.OK
}

func (x *mailbox) recv() (api.Value, api.Errno) {
	if len(x.in()) == 0 {
		return 0, api.ErrTime
	}
	x.out++
	return x.sent[x.out-1], api.OK
}

// some makes boxes with drawn rooms, and models of them.
func some(t *testing.T, r *rand.Rand, most int) (*Boxes, []*mailbox) {
	t.Helper()
	b := New()
	var l []*mailbox
	for i := range 1 + r.Intn(4) {
		room := 1 + r.Intn(most)
		wantMake(t, b, room, i)
		l = append(l, &mailbox{room: room})
	}
	return b, l
}

// drawnCall makes one call of a box and of its model: where fill is, it rather sends.
func drawnCall(t *testing.T, r *rand.Rand, b *Boxes, i int, x *mailbox, fill bool) {
	t.Helper()
	if fill == (r.Intn(4) > 0) {
		v := api.Value(r.Uint64() >> r.Intn(64))
		wantSend(t, b, i, v, x.send(v))
		return
	}
	want, wantE := x.recv()
	if v, e := b.Recv(i); v != want || e != wantE {
		t.Errorf("Recv(%d) = %d, %d, not %d, %d", i, v, e, want, wantE)
	}
}

// P19.1 to P19.3: drawn calls, more that send at one time, more that receive at another.
func TestDrawn(t *testing.T) {
	r := rand.New(rand.NewSource(19))
	for range 2000 {
		b, l := some(t, r, 7)
		for range 10 {
			fill := r.Intn(2) == 0
			for range r.Intn(20) {
				i := r.Intn(len(l))
				drawnCall(t, r, b, i, l[i], fill)
				for k, x := range l {
					wantIn(t, b, k, x.room, x.in()...)
				}
				wrong := numbersOfNone(len(l))
				wantNone(t, b, wrong[r.Intn(len(wrong))], api.ErrArg)
			}
		}
		if t.Failed() {
			return
		}
	}
}

// P19.3: told by the answers alone: what came out, and is in it still, is what went in; never is there more than there is room for.
func TestAnyTime(t *testing.T) {
	r := rand.New(rand.NewSource(193))
	for _, room := range []int{1, 2, 3, 64, api.MaxRoom - 1, api.MaxRoom} {
		b := made(t, room)
		var in, out []api.Value
		for next := range api.Value(20 * room) {
			if e := b.Send(0, next); e == api.OK {
				in = append(in, next)
			}
			if len(in)-len(out) > room {
				t.Fatalf("%d of a room of %d", len(in)-len(out), room)
			}
			for r.Intn(2*room) == 0 || room < 4 && r.Intn(2) == 0 {
				for range r.Intn(room + 2) {
					if v, e := b.Recv(0); e == api.OK {
						out = append(out, v)
					}
				}
			}
		}
		left, _ := b.All(0)
		if !slices.Equal(slices.Concat(out, left), in) {
			t.Errorf("a room of %d: not what went in", room)
		}
	}
}

// P19.3: each place at which a room may begin, each number of values from there on.
func TestEachPlace(t *testing.T) {
	for room := 1; room <= 9; room++ {
		for first := range 2 * room {
			for count := range room + 1 {
				b := made(t, room)
				for k := range first {
					wantSend(t, b, 0, api.Value(k), api.OK)
					wantRecv(t, b, 0, api.Value(k))
				}
				var l []api.Value
				for k := range count {
					l = append(l, api.Value(100+k))
					wantSend(t, b, 0, l[k], api.OK)
				}
				wantIn(t, b, 0, room, l...)
				wantRecv(t, b, 0, l...)
				wantIn(t, b, 0, room)
			}
		}
	}
}
