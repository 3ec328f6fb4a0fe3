package lock

import (
	"math"
	"math/rand"
	"slices"
	"testing"

	"jacquard/api"
)

const drawnMonitors, drawnThreads, drawnTimes = 3, 5, 6

// The model has a queue for each monitor, and numbers those who come to wait, so that those of several queues have an order.
type queued struct {
	thread, times, until, came int
}

type room struct {
	thread, times int
	queue         []queued
}

type roused struct {
	m, times int
	told     bool
}

type model struct {
	rooms  [drawnMonitors]room
	roused [drawnThreads][]roused
	came   int
}

func (x *model) has(m, thread int) bool {
	return x.rooms[m].times > 0 && x.rooms[m].thread == thread
}

func (x *model) free(m, thread int) bool {
	return x.rooms[m].times == 0 || x.rooms[m].thread == thread
}

func (x *model) away(thread int) bool {
	for _, r := range x.rooms {
		for _, q := range r.queue {
			if q.thread == thread {
				return true
			}
		}
	}
	return len(x.roused[thread]) > 0
}

func (x *model) lock(m, thread int) api.Errno {
	if !x.free(m, thread) || x.away(thread) {
		return api.ErrTime
	}
	x.rooms[m].thread = thread
	x.rooms[m].times++
	return api.OK
}

func (x *model) unlock(m, thread int) api.Errno {
	if !x.has(m, thread) {
		return api.ErrKind
	}
	x.rooms[m].times--
	return api.OK
}

func (x *model) wait(m, thread, until int) api.Errno {
	if !x.has(m, thread) {
		return api.ErrKind
	}
	r := &x.rooms[m]
	x.came++
	r.queue = append(r.queue, queued{thread, r.times, until, x.came})
	r.times = 0
	return api.OK
}

func (x *model) rouse(m int, told bool, l []queued) []int {
	var threads []int
	for _, q := range l {
		x.roused[q.thread] = append(x.roused[q.thread], roused{m, q.times, told})
		threads = append(threads, q.thread)
	}
	return threads
}

func (x *model) notify(m, thread int, all bool) ([]int, api.Errno) {
	if !x.has(m, thread) {
		return nil, api.ErrKind
	}
	r := &x.rooms[m]
	n := len(r.queue)
	if !all {
		n = min(n, 1)
	}
	woken := r.queue[:n]
	r.queue = slices.Clone(r.queue[n:])
	return x.rouse(m, true, woken), api.OK
}

// expire goes time by time, and wakes whoever came first, one by one.
func (x *model) expire(now int) []int {
	var threads []int
	for time := 0; time <= min(now, drawnTimes); time++ {
		for {
			m, at := x.firstAt(time)
			if m < 0 {
				break
			}
			r := &x.rooms[m]
			threads = append(threads, x.rouse(m, false, r.queue[at:at+1])...)
			r.queue = slices.Concat(r.queue[:at], r.queue[at+1:])
		}
	}
	return threads
}

func (x *model) firstAt(time int) (m, at int) {
	m, least := -1, math.MaxInt
	for i, r := range x.rooms {
		for j, q := range r.queue {
			if q.until == time && q.came < least {
				m, at, least = i, j, q.came
			}
		}
	}
	return m, at
}

func (x *model) relock(thread int) api.Errno {
	l := x.roused[thread]
	if len(l) == 0 || !x.free(l[0].m, thread) {
		return api.ErrTime
	}
	x.rooms[l[0].m].thread, x.rooms[l[0].m].times = thread, l[0].times
	x.roused[thread] = l[1:]
	return api.OK
}

func (x *model) drop(thread int) {
	for m := range x.rooms {
		r := &x.rooms[m]
		if x.has(m, thread) {
			r.times = 0
		}
		r.queue = slices.DeleteFunc(r.queue, func(q queued) bool { return q.thread == thread })
	}
	x.roused[thread] = nil
}

func (x *model) next() (int, bool) {
	for time := range drawnTimes + 1 {
		if m, _ := x.firstAt(time); m >= 0 {
			return time, true
		}
	}
	return 0, false
}

// drawn is a call, drawn.
type drawn struct {
	name             string
	m, thread, until int
	all              bool
}

// draw draws a call, one in twenty with a wrong argument.
func draw(r *rand.Rand) drawn {
	names := []string{"lock", "lock", "lock", "lock", "unlock", "wait", "wait", "wait", "notify", "expire", "relock", "relock", "drop"}
	c := drawn{names[r.Intn(len(names))], r.Intn(drawnMonitors), r.Intn(drawnThreads), r.Intn(drawnTimes+2) - 1, r.Intn(2) == 0}
	if r.Intn(20) == 0 {
		switch r.Intn(3) {
		case 0:
			c.m = []int{-1, drawnMonitors}[r.Intn(2)]
		case 1:
			c.thread = []int{-1, api.MaxThreads}[r.Intn(2)]
		default:
			c.until = -2 - r.Intn(2)
		}
	}
	return c
}

// ofThreadAlone says whether a call names no monitor.
func (c drawn) ofThreadAlone() bool {
	return c.name == "relock" || c.name == "drop"
}

func (c drawn) isWrong() bool {
	switch {
	case c.name == "expire":
		return false
	case c.thread < 0 || c.thread >= api.MaxThreads:
		return true
	case !c.ofThreadAlone() && (c.m < 0 || c.m >= drawnMonitors):
		return true
	}
	return c.name == "wait" && c.until < -1
}

// make makes a call of the locks.
func (c drawn) make(l *Locks) ([]int, api.Errno) {
	switch c.name {
	case "lock":
		return nil, l.Lock(c.m, c.thread)
	case "unlock":
		return nil, l.Unlock(c.m, c.thread)
	case "wait":
		return nil, l.Wait(c.m, c.thread, c.until)
	case "notify":
		return l.Notify(c.m, c.thread, c.all)
	case "expire":
		return l.Expire(c.until), api.OK
	case "relock":
		return nil, l.Relock(c.thread)
	}
	l.Drop(c.thread)
	return nil, api.OK
}

// foretell makes a call of the model.
func (c drawn) foretell(x *model) ([]int, api.Errno) {
	if c.isWrong() {
		if c.name == "drop" {
			return nil, api.OK
		}
		return nil, api.ErrArg
	}
	switch c.name {
	case "lock":
		return nil, x.lock(c.m, c.thread)
	case "unlock":
		return nil, x.unlock(c.m, c.thread)
	case "wait":
		return nil, x.wait(c.m, c.thread, c.until)
	case "notify":
		return x.notify(c.m, c.thread, c.all)
	case "expire":
		return x.expire(c.until), api.OK
	case "relock":
		return nil, x.relock(c.thread)
	}
	x.drop(c.thread)
	return nil, api.OK
}

// hold holds all that can be asked against the model.
func hold(t *testing.T, l *Locks, x *model) {
	t.Helper()
	for m, r := range x.rooms {
		if r.times == 0 {
			wantOwner(t, l, m, -1, 0)
		} else {
			wantOwner(t, l, m, r.thread, r.times)
		}
		for thread := range drawnThreads {
			if free := l.Free(m, thread); free != x.free(m, thread) {
				t.Errorf("Free(%d, %d) = %v", m, thread, free)
			}
		}
	}
	for thread, w := range x.roused {
		if len(w) > 0 {
			wantWoken(t, l, thread, w[0].m, w[0].told)
		} else {
			wantNotWoken(t, l, thread)
		}
	}
	n, ok := x.next()
	wantNext(t, l, n, ok)
}

// P18.1 to P18.3: drawn calls, right and wrong ones.
func TestDrawn(t *testing.T) {
	r := rand.New(rand.NewSource(18))
	for range 4000 {
		l, x := made(t, drawnMonitors), &model{}
		var calls []drawn
		for range r.Intn(100) {
			c := draw(r)
			calls = append(calls, c)
			want, wantE := c.foretell(x)
			if got, e := c.make(l); !slices.Equal(got, want) || e != wantE {
				t.Errorf("%v: %v, %d, not %v, %d", c, got, e, want, wantE)
			}
			hold(t, l, x)
		}
		if t.Failed() {
			t.Fatal(calls)
		}
	}
}

// pair is a monitor and a thread.
type pair struct{ m, thread int }

// ledger is what P18.4 speaks of, told by what calls answered alone.
type ledger struct {
	has, kept map[pair]int // how often; what was given up by waiting
	waits     map[pair]int // its until and 2; 0: it does not wait
}

// enter writes down a call that was OK, and whom it woke; at is the monitor that Woken told ahead of it.
func (x *ledger) enter(c drawn, at int) {
	p := pair{c.m, c.thread}
	switch c.name {
	case "lock":
		x.has[p]++
	case "unlock":
		x.has[p]--
	case "wait":
		x.kept[p], x.waits[p] = x.has[p], c.until+2
		x.has[p] = 0
	case "relock":
		p.m = at
		x.has[p] = x.kept[p]
		x.kept[p] = 0
	case "drop":
		for m := range drawnMonitors {
			p.m = m
			x.has[p], x.kept[p], x.waits[p] = 0, 0, 0
		}
	}
}

// wake writes down who was woken: by a time all whose time has come, by a thread one or all of those in its monitor.
func (x *ledger) wake(t *testing.T, c drawn, woken []int) {
	t.Helper()
	var may []int
	for p, until := range x.waits {
		mayBe := until > 0 && (c.name == "expire" && until-2 >= 0 && until-2 <= c.until || c.name == "notify" && p.m == c.m)
		if mayBe {
			may = append(may, p.thread)
		}
		if mayBe && slices.Contains(woken, p.thread) {
			x.waits[p] = 0
		}
	}
	want := len(may)
	if c.name == "notify" && !c.all {
		want = min(want, 1)
	}
	slices.Sort(may)
	told := slices.Sorted(slices.Values(woken))
	if len(told) != want || len(told) == len(may) && !slices.Equal(told, may) || len(told) == 1 && !slices.Contains(may, told[0]) {
		t.Errorf("%v woke %v of %v", c, told, may)
	}
}

// P18.4: a monitor is one thread's at a time, who waits has it not, Relock gives back what Wait took.
func TestAnyTime(t *testing.T) {
	r := rand.New(rand.NewSource(184))
	for range 2000 {
		l := made(t, drawnMonitors)
		x := &ledger{map[pair]int{}, map[pair]int{}, map[pair]int{}}
		for range r.Intn(120) {
			c := draw(r)
			at, _, _ := l.Woken(c.thread)
			woken, e := c.make(l)
			if e == api.OK && !c.isWrong() {
				x.enter(c, at)
				if c.name == "notify" || c.name == "expire" {
					x.wake(t, c, woken)
				}
			}
			x.hold(t, l)
		}
		wantNobodyLost(t, l, x)
		if t.Failed() {
			return
		}
	}
}

func (x *ledger) hold(t *testing.T, l *Locks) {
	t.Helper()
	for m := range drawnMonitors {
		owner, times := -1, 0
		for thread := range drawnThreads {
			p := pair{m, thread}
			if x.has[p] == 0 {
				continue
			}
			if owner >= 0 || x.kept[p] > 0 {
				t.Errorf("monitor %d: both %d and %d, or one that waits, have it", m, owner, thread)
			}
			owner, times = thread, x.has[p]
		}
		wantOwner(t, l, m, owner, times)
	}
}

// wantNobodyLost: whoever still waits is woken by time, or by one that has the monitor, and nobody else is.
func wantNobodyLost(t *testing.T, l *Locks, x *ledger) {
	t.Helper()
	const waker = drawnThreads
	x.wake(t, drawn{name: "expire", until: math.MaxInt}, l.Expire(math.MaxInt))
	for m := range drawnMonitors {
		if thread, _, _ := l.Owner(m); thread >= 0 {
			l.Drop(thread)
			x.enter(drawn{name: "drop", thread: thread}, 0)
		}
		wantLock(t, l, m, waker, api.OK)
		woken, _ := l.Notify(m, waker, true)
		x.wake(t, drawn{name: "notify", m: m, all: true}, woken)
		wantUnlock(t, l, m, waker, api.OK)
	}
	for p, n := range x.waits {
		if n != 0 {
			t.Errorf("thread %d waits in %d, and is lost", p.thread, p.m)
		}
	}
	for thread := range drawnThreads {
		for m, _, ok := l.Woken(thread); ok; m, _, ok = l.Woken(thread) {
			want := x.kept[pair{m, thread}]
			wantRelock(t, l, thread, api.OK)
			wantOwner(t, l, m, thread, want)
			for range want {
				wantUnlock(t, l, m, thread, api.OK)
			}
			x.kept[pair{m, thread}] = 0
		}
	}
	for p, n := range x.kept {
		if n != 0 {
			t.Errorf("thread %d gave up monitor %d, and did not have it again", p.thread, p.m)
		}
	}
}

// Asking changes nothing, and locks know nothing of each other.
func TestAskedAndApart(t *testing.T) {
	l, other := some(t), some(t)
	wantSame(t, l, func() {
		for m := range 4 {
			for thread := range 6 {
				l.Free(m, thread)
				l.Woken(thread)
			}
			l.Owner(m)
			l.Next()
		}
		wantUnlock(t, other, 0, 1, api.OK)
		wantExpire(t, other, 9, 3)
		wantNotify(t, other, 0, 1, true)
		wantUnlock(t, other, 0, 1, api.OK)
		wantRelock(t, other, 5, api.OK)
		other.Drop(2)
		if m, e := other.Make(); m != 3 || e != api.OK {
			t.Errorf("Make() = %d, %d", m, e)
		}
	})
	if l == New() || New() == New() {
		t.Error("New told one twice")
	}
}

// Memory: an answer may be written over, its spare room too, and stays as it was told.
func TestAnswersAreNew(t *testing.T) {
	l := made(t, 1)
	for thread := range 6 {
		goWait(t, l, 0, thread, 1, 3+thread/4)
	}
	wantLock(t, l, 0, 9, api.OK)
	one, _ := l.Notify(0, 9, false)
	expired := l.Expire(3)
	all, _ := l.Notify(0, 9, true)
	wantSame(t, l, func() {
		for _, answer := range [][]int{one, expired, all} {
			before := slices.Concat(one, expired, all)
			told := slices.Clone(answer)
			for i := range answer[:cap(answer)] {
				answer[:cap(answer)][i] = 99
			}
			copy(answer, told)
			if after := slices.Concat(one, expired, all); !slices.Equal(before, after) {
				t.Errorf("told %v, then %v", before, after)
			}
		}
	})
	if !slices.Equal(slices.Concat(one, expired, all), []int{0, 1, 2, 3, 4, 5}) {
		t.Error(one, expired, all)
	}
}
