package lock

import "cmp"

// owner is a thread, and how often it has a monitor: not at all, if it is nobody's.
type owner struct {
	thread, times int
}

// isNobodys says that nobody has it.
func (o owner) isNobodys() bool {
	return o.times == 0
}

// isOf says whether it is a thread's.
func (o owner) isOf(t int) bool {
	return !o.isNobodys() && o.thread == t
}

// isFree says whether it may be a thread's.
func (o owner) isFree(t int) bool {
	return o.isNobodys() || o.thread == t
}

// monitor is known by its owner alone: who waits in it stands in one row with those who wait in others,
// so that they have an order, too.
type monitor struct {
	owner
}

// endless is the time until which those wait who wait without end.
const endless = -1

// waiter is one that waits: the owner that its monitor had, and will have again.
type waiter struct {
	owner
	in    int // the monitor
	until int
}

// isTimed says whether it waits until a time.
func (w waiter) isTimed() bool {
	return w.until != endless
}

// compareTimes is below 0 if its time is the earlier one, 0 if they are the same.
func (w waiter) compareTimes(other waiter) int {
	return cmp.Compare(w.until, other.until)
}

// woken is one that waits no longer, but does not have its monitor again yet.
type woken struct {
	waiter
	told bool
}

// owned is what may be a thread's.
type owned interface {
	isOf(t int) bool
}

// split tells the first ones of a row that are asked for, so many at most, and all others; each in the row's order.
func split[T any](row []T, most int, isAskedFor func(T) bool) (those, others []T) {
	for _, x := range row {
		if len(those) < most && isAskedFor(x) {
			those = append(those, x)
		} else {
			others = append(others, x)
		}
	}
	return those, others
}

// without tells what in a row is not a thread's.
func without[T owned](row []T, t int) []T {
	_, others := split(row, len(row), func(x T) bool { return x.isOf(t) })
	return others
}
