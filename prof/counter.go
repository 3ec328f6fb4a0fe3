package prof

import "jacquard/api"

// counter counts, and keeps what came last with what it counted.
type counter[T any] struct {
	n    int
	last T
}

// counters are known by their places.
type counters[T any] []counter[T]

// has says whether there is a counter at a place.
func (l counters[T]) has(i int) bool {
	return 0 <= i && i < len(l)
}

// count makes one counter one more, which v came with.
func (l counters[T]) count(i int, v T) api.Errno {
	if !l.has(i) {
		return api.ErrArg
	}
	l[i] = counter[T]{n: min(l[i].n+1, api.MaxCount), last: v}
	return api.OK
}

// find tells one counter.
func (l counters[T]) find(i int) (counter[T], api.Errno) {
	if !l.has(i) {
		return counter[T]{}, api.ErrArg
	}
	return l[i], api.OK
}

// reset makes one counter as it was at the beginning.
func (l counters[T]) reset(i int) api.Errno {
	if !l.has(i) {
		return api.ErrArg
	}
	l[i] = counter[T]{}
	return api.OK
}
