package base

import (
	"slices"

	"jacquard/api"
	"jacquard/tag"
)

// frame is an ordinary call of a function.
type frame struct {
	Seat
	fun   int
	code  *api.Code
	at    int // the next instruction: the one that is being done, or waited for, stands ahead of it
	slots []api.Value
	stack []api.Value
}

func newFrame(s Seat, fun int, slots []api.Value) *frame {
	f := &frame{Seat: s, fun: fun, code: &s.thread.machine.image.Funs[fun], slots: slots}
	f.take = f.push
	return f
}

func (f *frame) views() []api.View {
	return []api.View{{
		Fun:   f.fun,
		At:    f.at,
		Slots: slices.Clone(f.slots),
		Stack: slices.Clone(f.stack),
		Cells: slices.Clone(f.cells),
	}}
}

// push puts a value on the stack: one of its own, or what it has waited for.
func (f *frame) push(v api.Value) { f.stack = append(f.stack, v) }

func (f *frame) pop() api.Value {
	last := len(f.stack) - 1
	v := f.stack[last]
	f.stack = f.stack[:last]
	return v
}

// popAll takes the last n values, the lowest one first. They are still where they were: they hold till something is pushed.
func (f *frame) popAll(n int) []api.Value {
	rest := len(f.stack) - n
	l := f.stack[rest:]
	f.stack = f.stack[:rest]
	return l
}

// catch goes on with what was thrown in the last instruction, or in calls that it began, if a Try has it so.
func (f *frame) catch(v api.Value) bool {
	for _, t := range f.code.Tries {
		if t.From < f.at && f.at <= t.To {
			f.stack = f.stack[:t.Depth]
			f.push(v)
			f.at = t.Target
			return true
		}
	}
	return false
}

// GoOn does instructions; the safe ones, and those that concern other calls, are the last.
func (f *frame) GoOn() api.Stop {
	for {
		i := f.code.Code[f.at]
		f.at++
		switch i.Op {
		case api.OpJump:
			f.at = i.A
		case api.OpFalse:
			if !tag.Truth(f.pop()) {
				f.at = i.A
			}
		case api.OpKeepFalse:
			f.keep(false, i.A)
		case api.OpKeepTrue:
			f.keep(true, i.A)
		case api.OpLoop:
			f.at = i.A
			f.overseer().Looped(f.fun)
			return safe()
		case api.OpStoreGlobal:
			f.SetGlobal(i.A, f.pop())
			return safe()
		case api.OpCall:
			return f.Call(f.popAll(i.A + 1))
		case api.OpSpawn:
			return f.Spawn(f.popAll(i.A + 1))
		case api.OpReturn:
			return f.Return(f.pop())
		case api.OpThrow:
			return f.Throw(f.pop())
		default:
			if fault := f.plain(i); fault != api.FaultNone {
				return f.Fault(fault)
			}
		}
	}
}

func (f *frame) overseer() Overseer { return f.thread.machine.overseer }

func safe() api.Stop { return api.Stop{Kind: api.StopSafe} }

// keep leaves what is on top there, and goes on elsewhere, if it is of that truth.
func (f *frame) keep(truth bool, at int) {
	v := f.pop()
	if tag.Truth(v) == truth {
		f.push(v)
		f.at = at
	}
}
