package box

import "jacquard/api"

// A ring is a box's room: a list that is gone round, so that nothing moves when the first value is taken.
type ring struct {
	places []api.Value // as many as there is room for
	first  int         // the place of the first value
	count  int         // how many values there are from there on
}

func newRing(room int) ring {
	return ring{places: make([]api.Value, room)}
}

func (r *ring) isFull() bool {
	return r.count == len(r.places)
}

func (r *ring) isEmpty() bool {
	return r.count == 0
}

// put puts a value behind the last one; there must be room. What finds no place up to the list's end wraps to its beginning.
func (r *ring) put(v api.Value) {
	one := []api.Value{v}
	end := r.first + r.count
	ahead := min(end, len(r.places))
	if copy(r.places[ahead:], one) == 0 {
		copy(r.places[end-ahead:], one)
	}
	r.count++
}

// take takes the first value; there must be one.
func (r *ring) take() api.Value {
	v := r.places[r.first]
	r.first = (r.first + 1) % len(r.places)
	r.count--
	return v
}

// all tells the values from the first one on: those up to the list's end, then those that wrapped to its beginning.
func (r *ring) all() []api.Value {
	l := make([]api.Value, r.count)
	done := copy(l, r.places[r.first:])
	copy(l[done:], r.places)
	return l
}
