package base

import "jacquard/api"

// Overseer is told what the calls of a machine do, and may have them run by faster code (layer 17).
type Overseer interface {
	// Began: a call of function f begins.
	Began(f int)
	// Looped: a call of function f goes back.
	Looped(f int)
	// Had: the operation at a place of function f has to do with two values; one that takes a single value has it twice.
	Had(f, at int, a, b api.Value)
	// Wrote: a global is written.
	Wrote(g int, v api.Value)
	// Version is what a call of function f that begins now runs by; nil: it is an ordinary one.
	Version(f int) Version
}

// Version is faster code of a function.
type Version interface {
	// Begin makes a call that runs by it: its place in its thread, and its slots as they are at first, are its own from then on.
	Begin(s *Seat, slots []api.Value) Faster
}

// Faster is a call that runs by a version. It stands for ordinary calls: for one of the version's function, and for those within it.
type Faster interface {
	// GoOn goes on up to a stop, or, which is a stop of Kind 0, till another call is the innermost one, something was thrown, or it holds no longer.
	GoOn() api.Stop
	// Take hands it what it has waited for.
	Take(v api.Value)
	// Holds: does all hold that it counts on? If not, the calls that it stands for go on as ordinary ones.
	Holds() bool
	// Views are those calls as they stand, the first one first, in new memory. (The first one's own cells are left to its Seat.)
	Views() []api.View
	// Left: those calls go on in its place.
	Left()
}

// nobody oversees machines of which all calls are ordinary ones.
type nobody struct{}

func (nobody) Began(int)                          {}
func (nobody) Looped(int)                         {}
func (nobody) Had(int, int, api.Value, api.Value) {}
func (nobody) Wrote(int, api.Value)               {}
func (nobody) Version(int) Version                { return nil }
