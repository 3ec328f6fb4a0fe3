package lock

import (
	"fmt"
	"math"
	"slices"
	"testing"

	"jacquard/api"
)

// made is locks with so many monitors.
func made(t *testing.T, monitors int) *Locks {
	t.Helper()
	l := New()
	for i := range monitors {
		if m, e := l.Make(); m != i || e != api.OK {
			t.Fatalf("Make() = %d, %d, not %d", m, e, i)
		}
	}
	return l
}

func wantLock(t *testing.T, l *Locks, m, thread int, want api.Errno) {
	t.Helper()
	if e := l.Lock(m, thread); e != want {
		t.Errorf("Lock(%d, %d) = %d, not %d", m, thread, e, want)
	}
}

func wantUnlock(t *testing.T, l *Locks, m, thread int, want api.Errno) {
	t.Helper()
	if e := l.Unlock(m, thread); e != want {
		t.Errorf("Unlock(%d, %d) = %d, not %d", m, thread, e, want)
	}
}

func wantWait(t *testing.T, l *Locks, m, thread, until int, want api.Errno) {
	t.Helper()
	if e := l.Wait(m, thread, until); e != want {
		t.Errorf("Wait(%d, %d, %d) = %d, not %d", m, thread, until, e, want)
	}
}

// goWait has a thread lock a monitor that is nobody's, so often, and wait in it.
func goWait(t *testing.T, l *Locks, m, thread, times, until int) {
	t.Helper()
	for range times {
		wantLock(t, l, m, thread, api.OK)
	}
	wantWait(t, l, m, thread, until, api.OK)
}

func wantNotify(t *testing.T, l *Locks, m, thread int, all bool, want ...int) {
	t.Helper()
	if w, e := l.Notify(m, thread, all); !slices.Equal(w, want) || e != api.OK {
		t.Errorf("Notify(%d, %d, %v) = %v, %d, not %v", m, thread, all, w, e, want)
	}
}

func wantNotifyWrong(t *testing.T, l *Locks, m, thread int, want api.Errno) {
	t.Helper()
	for _, all := range []bool{false, true} {
		if w, e := l.Notify(m, thread, all); len(w) != 0 || e != want {
			t.Errorf("Notify(%d, %d, %v) = %v, %d, not %d", m, thread, all, w, e, want)
		}
	}
}

func wantExpire(t *testing.T, l *Locks, now int, want ...int) {
	t.Helper()
	if w := l.Expire(now); !slices.Equal(w, want) {
		t.Errorf("Expire(%d) = %v, not %v", now, w, want)
	}
}

func wantWoken(t *testing.T, l *Locks, thread, m int, told bool) {
	t.Helper()
	if x, y, ok := l.Woken(thread); x != m || y != told || !ok {
		t.Errorf("Woken(%d) = %d, %v, %v, not %d, %v", thread, x, y, ok, m, told)
	}
}

func wantNotWoken(t *testing.T, l *Locks, threads ...int) {
	t.Helper()
	for _, thread := range threads {
		if m, told, ok := l.Woken(thread); m != 0 || told || ok {
			t.Errorf("Woken(%d) = %d, %v, %v", thread, m, told, ok)
		}
	}
}

func wantRelock(t *testing.T, l *Locks, thread int, want api.Errno) {
	t.Helper()
	if e := l.Relock(thread); e != want {
		t.Errorf("Relock(%d) = %d, not %d", thread, e, want)
	}
}

func wantOwner(t *testing.T, l *Locks, m, thread, times int) {
	t.Helper()
	if x, n, e := l.Owner(m); x != thread || n != times || e != api.OK {
		t.Errorf("Owner(%d) = %d, %d, %d, not %d, %d", m, x, n, e, thread, times)
	}
}

// wantFree asks of threads 0 to 5 for which of them a monitor is free.
func wantFree(t *testing.T, l *Locks, m int, want ...int) {
	t.Helper()
	var free []int
	for thread := range 6 {
		if l.Free(m, thread) {
			free = append(free, thread)
		}
	}
	if !slices.Equal(free, want) {
		t.Errorf("monitor %d is free for %v, not %v", m, free, want)
	}
}

func wantNext(t *testing.T, l *Locks, want int, wantOk bool) {
	t.Helper()
	if n, ok := l.Next(); n != want || ok != wantOk {
		t.Errorf("Next() = %d, %v, not %d, %v", n, ok, want, wantOk)
	}
}

// wantSame makes calls that must change nothing.
func wantSame(t *testing.T, l *Locks, calls func()) {
	t.Helper()
	before := fmt.Sprint(*l)
	calls()
	if after := fmt.Sprint(*l); after != before {
		t.Errorf("changed:\n%v\n%v", before, after)
	}
}

// some has three monitors: 0 is thread 1's, twice, and 5 was woken in it; 2 and 3 wait in 1, which is nobody's; 2 is thread 4's.
func some(t *testing.T) *Locks {
	t.Helper()
	l := made(t, 3)
	goWait(t, l, 0, 5, 1, 7)
	wantLock(t, l, 0, 1, api.OK)
	wantLock(t, l, 0, 1, api.OK)
	wantNotify(t, l, 0, 1, false, 5)
	goWait(t, l, 1, 2, 1, -1)
	goWait(t, l, 1, 3, 2, 9)
	wantLock(t, l, 2, 4, api.OK)
	return l
}

// numbersOfNone are those of no monitor in some, threadsOfNone those of no thread.
var (
	numbersOfNone = []int{math.MinInt, -1025, -257, -256, -3, -2, -1, 3, 4, 1023, 1024, 1 << 16, 1 << 32, 1<<32 + 1, math.MaxInt}
	threadsOfNone = []int{math.MinInt, -1025, -257, -256, -3, -2, -1, 256, 257, 1024, 1 << 16, 1 << 32, 1<<32 + 1, math.MaxInt}
)

// P18.1
func TestMake(t *testing.T) {
	l := made(t, api.MaxMonitors)
	for m := range api.MaxMonitors {
		wantOwner(t, l, m, -1, 0)
	}
	wantSame(t, l, func() {
		for range 3 {
			if m, e := l.Make(); m != 0 || e != api.ErrMany {
				t.Errorf("Make() = %d, %d", m, e)
			}
		}
	})
	last := api.MaxMonitors - 1
	wantLock(t, l, last, api.MaxThreads-1, api.OK)
	wantOwner(t, l, last, api.MaxThreads-1, 1)
	wantLock(t, l, api.MaxMonitors, 0, api.ErrArg)
}

// P18.1: without monitors, nobody waits, nobody was woken.
func TestNewIsEmpty(t *testing.T) {
	l := New()
	if l == nil {
		t.Fatal("New() is nil")
	}
	wantLock(t, l, 0, 0, api.ErrArg)
	wantFree(t, l, 0)
	wantNext(t, l, 0, false)
	wantExpire(t, l, math.MaxInt)
	for thread := range api.MaxThreads {
		wantNotWoken(t, l, thread)
		wantRelock(t, l, thread, api.ErrTime)
	}
	if x, n, e := l.Owner(0); x != 0 || n != 0 || e != api.ErrArg {
		t.Errorf("Owner(0) = %d, %d, %d", x, n, e)
	}
	m, e := l.Make()
	if m != 0 || e != api.OK {
		t.Errorf("Make() = %d, %d", m, e)
	}
	wantFree(t, l, 0, 0, 1, 2, 3, 4, 5)
	wantFree(t, l, 1)
}

// P18.1: what is wrong with the others does not matter then.
func TestNilLocks(t *testing.T) {
	var l *Locks
	if m, e := l.Make(); m != 0 || e != api.ErrNil {
		t.Errorf("Make() = %d, %d", m, e)
	}
	for _, x := range append([]int{0, 1, 255}, threadsOfNone...) {
		wantLock(t, l, x, x, api.ErrNil)
		wantUnlock(t, l, x, x, api.ErrNil)
		wantWait(t, l, x, x, x, api.ErrNil)
		wantNotifyWrong(t, l, x, x, api.ErrNil)
		wantRelock(t, l, x, api.ErrNil)
		wantExpire(t, l, x)
		wantNotWoken(t, l, x)
		l.Drop(x)
		if l.Free(x, x) {
			t.Errorf("Free(%d, %d)", x, x)
		}
		if thread, n, e := l.Owner(x); thread != 0 || n != 0 || e != api.ErrNil {
			t.Errorf("Owner(%d) = %d, %d, %d", x, thread, n, e)
		}
	}
	wantNext(t, l, 0, false)
}

// P18.1: of all that name one; it comes ahead of the other errors.
func TestNoMonitor(t *testing.T) {
	l := some(t)
	wantSame(t, l, func() {
		for _, m := range numbersOfNone {
			for _, thread := range append([]int{0, 1, 2, 4, 5, 255}, threadsOfNone...) {
				wantWrong(t, l, m, thread)
			}
			if x, n, e := l.Owner(m); x != 0 || n != 0 || e != api.ErrArg {
				t.Errorf("Owner(%d) = %d, %d, %d", m, x, n, e)
			}
		}
	})
}

// P18.1
func TestNoThread(t *testing.T) {
	l := some(t)
	wantSame(t, l, func() {
		for _, thread := range threadsOfNone {
			for m := range 3 {
				wantWrong(t, l, m, thread)
			}
			wantRelock(t, l, thread, api.ErrArg)
			wantNotWoken(t, l, thread)
			l.Drop(thread)
		}
	})
}

// wantWrong makes all calls that name a monitor and a thread.
func wantWrong(t *testing.T, l *Locks, m, thread int) {
	t.Helper()
	wantLock(t, l, m, thread, api.ErrArg)
	wantUnlock(t, l, m, thread, api.ErrArg)
	for _, until := range []int{math.MinInt, -2, -1, 0, 5, math.MaxInt} {
		wantWait(t, l, m, thread, until, api.ErrArg)
	}
	wantNotifyWrong(t, l, m, thread, api.ErrArg)
	if l.Free(m, thread) {
		t.Errorf("Free(%d, %d)", m, thread)
	}
}

// P18.1: an until below -1, whoever it is that would wait; -1 and 0 are allowed.
func TestNoTime(t *testing.T) {
	l := some(t)
	wantSame(t, l, func() {
		for _, until := range []int{math.MinInt, -1 << 32, -1024, -3, -2} {
			for thread := range 6 {
				for m := range 3 {
					wantWait(t, l, m, thread, until, api.ErrArg)
				}
			}
		}
	})
	wantWait(t, l, 0, 1, -1, api.OK)
	wantWait(t, l, 2, 4, 0, api.OK)
	wantNext(t, l, 0, true)
	wantLock(t, l, 2, 0, api.OK)
	wantWait(t, l, 2, 0, math.MaxInt, api.OK)
	wantExpire(t, l, math.MaxInt-1, 4, 3)
	wantNext(t, l, math.MaxInt, true)
	wantExpire(t, l, math.MaxInt, 0)
	wantNext(t, l, 0, false)
}

// P18.2
func TestFree(t *testing.T) {
	l := some(t)
	wantFree(t, l, 0, 1)
	wantFree(t, l, 1, 0, 1, 2, 3, 4, 5) // for those who wait, too
	wantFree(t, l, 2, 4)
	wantUnlock(t, l, 0, 1, api.OK)
	wantFree(t, l, 0, 1)
	wantUnlock(t, l, 0, 1, api.OK)
	wantFree(t, l, 0, 0, 1, 2, 3, 4, 5)
	wantLock(t, l, 0, 0, api.OK)
	wantFree(t, l, 0, 0)
	if !l.Free(1, api.MaxThreads-1) || l.Free(0, api.MaxThreads-1) {
		t.Error("of the last thread")
	}
}

// P18.2
func TestLock(t *testing.T) {
	l := made(t, 2)
	for times := 1; times <= 3; times++ {
		wantLock(t, l, 0, 2, api.OK)
		wantOwner(t, l, 0, 2, times)
	}
	wantOwner(t, l, 1, -1, 0)
	wantSame(t, l, func() {
		for _, thread := range []int{0, 1, 3, 255} {
			wantLock(t, l, 0, thread, api.ErrTime)
		}
	})
	wantLock(t, l, 1, 2, api.OK) // a thread may have several
	wantLock(t, l, 0, 2, api.OK)
	wantOwner(t, l, 0, 2, 4)
	wantOwner(t, l, 1, 2, 1)
}

// P18.2: who waits, or was woken, locks nothing, though it is free.
func TestLockWhileWaiting(t *testing.T) {
	l := some(t)
	if m, _ := l.Make(); m != 3 {
		t.Fatal(m)
	}
	wantUnlock(t, l, 0, 1, api.OK)
	wantUnlock(t, l, 0, 1, api.OK)
	wantSame(t, l, func() {
		for _, thread := range []int{2, 3, 5} {
			for _, m := range []int{0, 1, 3} {
				if !l.Free(m, thread) {
					t.Errorf("monitor %d is not free for %d", m, thread)
				}
				wantLock(t, l, m, thread, api.ErrTime)
			}
		}
	})
	wantRelock(t, l, 5, api.OK)
	for _, m := range []int{0, 1, 3} {
		wantLock(t, l, m, 5, api.OK)
	}
	wantOwner(t, l, 0, 5, 2)
}

// P18.2: what it has already it does not lock again, either, as long as it waits or was woken elsewhere.
func TestLockOwnWhileWaiting(t *testing.T) {
	l := made(t, 2)
	wantLock(t, l, 1, 0, api.OK)
	goWait(t, l, 0, 0, 1, 3)
	wantLock(t, l, 1, 0, api.ErrTime)
	wantExpire(t, l, 3, 0)
	wantLock(t, l, 1, 0, api.ErrTime)
	wantOwner(t, l, 1, 0, 1)
	wantRelock(t, l, 0, api.OK)
	wantLock(t, l, 1, 0, api.OK)
	wantOwner(t, l, 1, 0, 2)
}

// P18.2: so many calls are too many for a test, so the count is set.
func TestLockMaxCount(t *testing.T) {
	l := made(t, 1)
	wantLock(t, l, 0, 7, api.OK)
	l.monitors[0].times = api.MaxCount - 1
	wantLock(t, l, 0, 7, api.OK)
	wantOwner(t, l, 0, 7, api.MaxCount)
	wantSame(t, l, func() {
		wantLock(t, l, 0, 7, api.ErrMany)
		wantLock(t, l, 0, 6, api.ErrTime)
	})
	wantWait(t, l, 0, 7, 0, api.OK)
	wantLock(t, l, 0, 7, api.ErrTime)
	wantExpire(t, l, 0, 7)
	wantLock(t, l, 0, 7, api.ErrTime)
	wantRelock(t, l, 7, api.OK)
	wantOwner(t, l, 0, 7, api.MaxCount)
	wantUnlock(t, l, 0, 7, api.OK)
	wantLock(t, l, 0, 7, api.OK)
	wantLock(t, l, 0, 7, api.ErrMany)
}

// P18.2
func TestUnlock(t *testing.T) {
	l := made(t, 2)
	for range 3 {
		wantLock(t, l, 0, 2, api.OK)
	}
	for times := 2; times > 0; times-- {
		wantUnlock(t, l, 0, 2, api.OK)
		wantOwner(t, l, 0, 2, times)
		wantSame(t, l, func() {
			wantUnlock(t, l, 0, 1, api.ErrKind)
			wantUnlock(t, l, 0, 0, api.ErrKind)
			wantUnlock(t, l, 1, 2, api.ErrKind)
		})
	}
	wantUnlock(t, l, 0, 2, api.OK)
	wantOwner(t, l, 0, -1, 0)
	for _, thread := range []int{0, 2, 255} {
		wantUnlock(t, l, 0, thread, api.ErrKind)
	}
	wantOwner(t, l, 0, -1, 0)
	wantLock(t, l, 0, 1, api.OK)
	wantOwner(t, l, 0, 1, 1)
	wantUnlock(t, l, 0, 2, api.ErrKind)
}

// P18.2: what it has elsewhere is still its own while it waits; what it waits in is not.
func TestUnlockWhileWaiting(t *testing.T) {
	l := made(t, 2)
	wantLock(t, l, 1, 0, api.OK)
	goWait(t, l, 0, 0, 2, 5)
	wantUnlock(t, l, 0, 0, api.ErrKind)
	wantNotify(t, l, 1, 0, true)
	wantUnlock(t, l, 1, 0, api.OK)
	wantOwner(t, l, 1, -1, 0)
	wantExpire(t, l, 5, 0)
	wantUnlock(t, l, 0, 0, api.ErrKind)
	wantUnlock(t, l, 1, 0, api.ErrKind)
	wantRelock(t, l, 0, api.OK)
	wantOwner(t, l, 0, 0, 2)
}

// P18.3
func TestWait(t *testing.T) {
	l := made(t, 2)
	wantLock(t, l, 0, 3, api.OK)
	wantSame(t, l, func() {
		for _, until := range []int{-1, 0, 4} {
			wantWait(t, l, 0, 2, until, api.ErrKind)
			wantWait(t, l, 0, 0, until, api.ErrKind)
			wantWait(t, l, 1, 3, until, api.ErrKind)
			wantWait(t, l, 1, 0, until, api.ErrKind)
		}
	})
	wantWait(t, l, 0, 3, 4, api.OK)
	wantOwner(t, l, 0, -1, 0)
	wantNotWoken(t, l, 3)
	wantRelock(t, l, 3, api.ErrTime)
	wantNext(t, l, 4, true)
	wantSame(t, l, func() {
		wantWait(t, l, 0, 3, 4, api.ErrKind) // it is not its own any more
	})
}

// P18.3: the first one, in order of waiting, whatever their numbers and times are.
func TestNotifyOne(t *testing.T) {
	l := made(t, 2)
	goWait(t, l, 0, 5, 1, -1)
	goWait(t, l, 1, 6, 1, -1)
	goWait(t, l, 0, 3, 1, 9)
	goWait(t, l, 0, 4, 1, 2)
	wantLock(t, l, 0, 1, api.OK)
	wantNotify(t, l, 0, 1, false, 5)
	wantWoken(t, l, 5, 0, true)
	wantNotWoken(t, l, 3, 4, 6)
	wantNext(t, l, 2, true)
	wantNotify(t, l, 0, 1, false, 3)
	wantWoken(t, l, 3, 0, true)
	wantNotWoken(t, l, 4, 6)
	wantNotify(t, l, 0, 1, false, 4)
	wantNext(t, l, 0, false)
	wantSame(t, l, func() {
		wantNotify(t, l, 0, 1, false) // nobody is there any more
		wantNotify(t, l, 0, 1, true)
	})
	wantOwner(t, l, 0, 1, 1)
	wantNotWoken(t, l, 6)
	wantLock(t, l, 1, 1, api.OK)
	wantNotify(t, l, 1, 1, false, 6)
	wantWoken(t, l, 6, 1, true)
}

// P18.3
func TestNotifyAll(t *testing.T) {
	l := made(t, 2)
	for _, thread := range []int{9, 2, 255, 0, 7} {
		goWait(t, l, 1, thread, 1, 300-thread)
		goWait(t, l, 0, thread+(thread+1)%2-thread%2, 1, -1)
	}
	wantLock(t, l, 1, 4, api.OK)
	wantLock(t, l, 1, 4, api.OK)
	wantNotify(t, l, 1, 4, true, 9, 2, 255, 0, 7)
	for _, thread := range []int{9, 2, 255, 0, 7} {
		wantWoken(t, l, thread, 1, true)
	}
	wantNotWoken(t, l, 8, 3, 254, 1, 6)
	wantOwner(t, l, 1, 4, 2)
	wantNext(t, l, 0, false)
	wantLock(t, l, 0, 4, api.OK)
	wantNotify(t, l, 0, 4, true, 8, 3, 254, 1, 6)
}

// P18.3
func TestNotifyWrong(t *testing.T) {
	l := some(t)
	wantSame(t, l, func() {
		for m := range 3 {
			for _, thread := range []int{0, 2, 3, 5, 255} {
				wantNotifyWrong(t, l, m, thread, api.ErrKind)
			}
		}
		wantNotifyWrong(t, l, 0, 4, api.ErrKind)
		wantNotifyWrong(t, l, 2, 1, api.ErrKind)
	})
}

// P18.3: by their times, then in order of waiting, in whatever monitor; not those without end.
func TestExpire(t *testing.T) {
	l := made(t, 3)
	for i, until := range []int{5, 3, -1, 5, 0, 3, 8, 5} {
		goWait(t, l, i%3, 9-i, 1, until)
	}
	wantNext(t, l, 0, true)
	wantSame(t, l, func() {
		for _, now := range []int{math.MinInt, -2, -1} {
			wantExpire(t, l, now)
		}
	})
	wantExpire(t, l, 0, 5)
	wantWoken(t, l, 5, 1, false)
	wantNext(t, l, 3, true)
	wantExpire(t, l, 2)
	wantExpire(t, l, 5, 8, 4, 9, 6, 2)
	for i, thread := range []int{8, 4, 9, 6, 2} {
		wantWoken(t, l, thread, []int{1, 2, 0, 0, 1}[i], false)
	}
	wantNext(t, l, 8, true)
	wantNotWoken(t, l, 7, 3)
	wantExpire(t, l, 7)
	wantExpire(t, l, 5)
	wantExpire(t, l, math.MaxInt, 3)
	wantNext(t, l, 0, false)
	wantExpire(t, l, math.MaxInt)
	wantNotWoken(t, l, 7)
	wantLock(t, l, 2, 0, api.OK)
	wantNotify(t, l, 2, 0, true, 7)
}

// P18.3: nobody need have the monitor, and whoever has it keeps it.
func TestExpireInOwned(t *testing.T) {
	l := made(t, 1)
	goWait(t, l, 0, 1, 3, 4)
	wantLock(t, l, 0, 2, api.OK)
	wantExpire(t, l, 4, 1)
	wantOwner(t, l, 0, 2, 1)
	wantRelock(t, l, 1, api.ErrTime)
	wantWoken(t, l, 1, 0, false)
	wantUnlock(t, l, 0, 2, api.OK)
	wantRelock(t, l, 1, api.OK)
	wantOwner(t, l, 0, 1, 3)
}

// P18.3: who was woken by its time is not there to be told, and the other way round.
func TestWokenOnce(t *testing.T) {
	l := made(t, 1)
	goWait(t, l, 0, 1, 1, 4)
	goWait(t, l, 0, 2, 1, 4)
	wantLock(t, l, 0, 0, api.OK)
	wantNotify(t, l, 0, 0, false, 1)
	wantExpire(t, l, 4, 2)
	wantNotify(t, l, 0, 0, true)
	wantExpire(t, l, 4)
	wantWoken(t, l, 1, 0, true)
	wantWoken(t, l, 2, 0, false)
}

// P18.3
func TestRelock(t *testing.T) {
	l := made(t, 2)
	goWait(t, l, 1, 3, 4, -1)
	goWait(t, l, 1, 0, 2, -1)
	wantSame(t, l, func() {
		for _, thread := range []int{0, 1, 3, 255} {
			wantRelock(t, l, thread, api.ErrTime) // nobody was woken
		}
	})
	wantLock(t, l, 1, 5, api.OK)
	wantNotify(t, l, 1, 5, true, 3, 0)
	wantSame(t, l, func() {
		wantRelock(t, l, 3, api.ErrTime)
		wantRelock(t, l, 0, api.ErrTime)
	})
	wantWoken(t, l, 3, 1, true)
	wantUnlock(t, l, 1, 5, api.OK)
	wantRelock(t, l, 0, api.OK) // not in the order in which they were woken
	wantOwner(t, l, 1, 0, 2)
	wantNotWoken(t, l, 0)
	wantRelock(t, l, 0, api.ErrTime)
	wantRelock(t, l, 3, api.ErrTime)
	wantWait(t, l, 1, 0, 6, api.OK)
	wantRelock(t, l, 0, api.ErrTime)
	wantRelock(t, l, 3, api.OK)
	wantOwner(t, l, 1, 3, 4)
	wantOwner(t, l, 0, -1, 0)
	for range 4 {
		wantUnlock(t, l, 1, 3, api.OK)
	}
	wantExpire(t, l, 6, 0)
	wantRelock(t, l, 0, api.OK)
	wantOwner(t, l, 1, 0, 2)
}

// P18.3: who waits again stands behind the others.
func TestWaitAgain(t *testing.T) {
	l := made(t, 1)
	goWait(t, l, 0, 1, 1, -1)
	goWait(t, l, 0, 2, 1, -1)
	wantLock(t, l, 0, 0, api.OK)
	wantNotify(t, l, 0, 0, false, 1)
	wantUnlock(t, l, 0, 0, api.OK)
	wantRelock(t, l, 1, api.OK)
	wantWait(t, l, 0, 1, -1, api.OK)
	wantLock(t, l, 0, 0, api.OK)
	wantNotify(t, l, 0, 0, true, 2, 1)
}

// P18.3: nothing is said of a thread that waits and has another monitor, so that it may wait in that one, too;
// it is woken in each of them, and has each again.
func TestWaitInSeveral(t *testing.T) {
	l := made(t, 3)
	wantLock(t, l, 2, 0, api.OK)
	wantLock(t, l, 1, 0, api.OK)
	wantLock(t, l, 1, 0, api.OK)
	goWait(t, l, 0, 0, 3, 9)
	wantWait(t, l, 1, 0, 4, api.OK)
	wantLock(t, l, 0, 1, api.OK)
	wantExpire(t, l, 5, 0)
	wantWoken(t, l, 0, 1, false)
	wantWait(t, l, 2, 0, 4, api.OK)
	wantNotify(t, l, 0, 1, true, 0)
	wantWoken(t, l, 0, 1, false) // there it was woken first
	wantRelock(t, l, 0, api.OK)
	wantOwner(t, l, 1, 0, 2)
	wantWoken(t, l, 0, 0, true)
	wantRelock(t, l, 0, api.ErrTime)
	wantExpire(t, l, 5, 0)
	wantUnlock(t, l, 0, 1, api.OK)
	wantRelock(t, l, 0, api.OK)
	wantOwner(t, l, 0, 0, 3)
	wantWoken(t, l, 0, 2, false)
	wantRelock(t, l, 0, api.OK)
	wantOwner(t, l, 2, 0, 1)
	wantNotWoken(t, l, 0)
}

// P18.3
func TestDrop(t *testing.T) {
	l := some(t)
	wantSame(t, l, func() {
		l.Drop(0)
		l.Drop(255)
	})
	l.Drop(1)
	wantOwner(t, l, 0, -1, 0)
	wantOwner(t, l, 2, 4, 1)
	wantWoken(t, l, 5, 0, true)
	l.Drop(3)
	wantNext(t, l, 0, false)
	wantExpire(t, l, math.MaxInt)
	l.Drop(5)
	wantNotWoken(t, l, 5)
	wantRelock(t, l, 5, api.ErrTime)
	wantLock(t, l, 1, 5, api.OK) // it does not wait, and is not woken
	wantNotify(t, l, 1, 5, true, 2)
	wantLock(t, l, 1, 3, api.ErrTime)
	l.Drop(5)
	wantLock(t, l, 1, 3, api.OK)
	l.Drop(4)
	wantOwner(t, l, 2, -1, 0)
}

// P18.3: all that it has, and all its places.
func TestDropAll(t *testing.T) {
	l := made(t, 6)
	for _, m := range []int{0, 1, 3, 5} {
		wantLock(t, l, m, 0, api.OK)
		wantLock(t, l, m, 0, api.OK)
	}
	wantLock(t, l, 2, 1, api.OK)
	wantWait(t, l, 0, 0, 2, api.OK)
	goWait(t, l, 0, 2, 1, 2)
	wantWait(t, l, 1, 0, 3, api.OK)
	wantWait(t, l, 5, 0, 6, api.OK)
	wantExpire(t, l, 2, 0, 2)
	wantExpire(t, l, 3, 0)
	l.Drop(0)
	for _, m := range []int{0, 1, 3, 4, 5} {
		wantOwner(t, l, m, -1, 0)
	}
	wantOwner(t, l, 2, 1, 1)
	wantNotWoken(t, l, 0)
	wantWoken(t, l, 2, 0, false)
	wantNext(t, l, 0, false)
	wantLock(t, l, 5, 0, api.OK)
}

// P18.3
func TestOwnerAndNext(t *testing.T) {
	l := some(t)
	wantOwner(t, l, 0, 1, 2)
	wantOwner(t, l, 1, -1, 0)
	wantOwner(t, l, 2, 4, 1)
	wantNext(t, l, 9, true) // who was woken does not wait
	goWait(t, l, 1, 0, 1, 9)
	wantNext(t, l, 9, true)
	wantWait(t, l, 2, 4, 6, api.OK)
	wantNext(t, l, 6, true)
	goWait(t, l, 1, 6, 1, 7)
	wantNext(t, l, 6, true)
	wantExpire(t, l, 6, 4)
	wantNext(t, l, 7, true)
	wantLock(t, l, 1, 7, api.OK)
	wantNotify(t, l, 1, 7, false, 2)
	wantNext(t, l, 7, true)
	wantNotify(t, l, 1, 7, false, 3)
	wantNotify(t, l, 1, 7, false, 0)
	wantNotify(t, l, 1, 7, false, 6)
	wantNext(t, l, 0, false)
}

// The chapter's example.
func TestExample(t *testing.T) {
	l := made(t, 1)
	wantLock(t, l, 0, 1, api.OK)
	wantLock(t, l, 0, 1, api.OK)
	wantWait(t, l, 0, 1, -1, api.OK)
	wantLock(t, l, 0, 2, api.OK)
	wantNotify(t, l, 0, 2, false, 1)
	wantRelock(t, l, 1, api.ErrTime)
	wantUnlock(t, l, 0, 2, api.OK)
	wantRelock(t, l, 1, api.OK)
	wantOwner(t, l, 0, 1, 2)
}
