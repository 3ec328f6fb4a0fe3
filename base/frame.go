package base

import (
	"slices"

	"jacquard/api"
	"jacquard/tag"
)

// frame is an ordinary call of a function.
type frame struct {
	thread *Thread
	fun    int
	code   *api.Code
	at     int // the next instruction: the one that is being done, or waited for, stands ahead of it
	slots  []api.Value
	stack  []api.Value
	cells  []api.Value
	handOn func(api.Value)
}

func (f *frame) view() api.View {
	return api.View{Fun: f.fun, At: f.at, Slots: slices.Clone(f.slots), Stack: slices.Clone(f.stack), Cells: slices.Clone(f.cells)}
}

// push puts a value on the stack: one of its own, or what it has waited for.
func (f *frame) push(v api.Value) { f.stack = append(f.stack, v) }

func (f *frame) pop() api.Value {
	last := len(f.stack) - 1
	v := f.stack[last]
	f.stack = f.stack[:last]
	return v
}

// popAll takes the last n values, the lowest one first. They are still where they were: they hold till something is pushed.
func (f *frame) popAll(n int) []api.Value {
	rest := len(f.stack) - n
	l := f.stack[rest:]
	f.stack = f.stack[:rest]
	return l
}

// catch goes on with what was thrown in the last instruction, or in calls that it began, if a Try has it so.
func (f *frame) catch(v api.Value) bool {
	for _, t := range f.code.Tries {
		if t.From < f.at && f.at <= t.To {
			f.stack = f.stack[:t.Depth]
			f.push(v)
			f.at = t.Target
			return true
		}
	}
	return false
}

// goOn does instructions; the safe ones, and those that concern other calls, are the last.
func (f *frame) goOn() api.Stop {
	for {
		i := f.code.Code[f.at]
		f.at++
		switch i.Op {
		case api.OpJump:
			f.at = i.A
		case api.OpFalse:
			if !tag.Truth(f.pop()) {
				f.at = i.A
			}
		case api.OpKeepFalse:
			f.keep(false, i.A)
		case api.OpKeepTrue:
			f.keep(true, i.A)
		case api.OpLoop:
			f.at = i.A
			return safe()
		case api.OpStoreGlobal:
			f.thread.machine.globals[i.A] = f.pop()
			return safe()
		case api.OpCall:
			return f.doCall(f.popAll(i.A + 1))
		case api.OpSpawn:
			return f.doSpawn(f.popAll(i.A + 1))
		case api.OpReturn:
			v := f.pop()
			f.thread.leave()
			f.handOn(v)
			return safe() // unless that ended the thread
		case api.OpThrow:
			f.thread.throw(f.pop())
			return api.Stop{}
		default:
			if fault := f.plain(i); fault != api.FaultNone {
				return f.fail(fault)
			}
		}
	}
}

func safe() api.Stop { return api.Stop{Kind: api.StopSafe} }

// keep leaves what is on top there, and goes on elsewhere, if it is of that truth.
func (f *frame) keep(truth bool, at int) {
	v := f.pop()
	if tag.Truth(v) == truth {
		f.push(v)
		f.at = at
	}
}

// fail: the thread goes on where the fault is caught, if it is.
func (f *frame) fail(fault int) api.Stop {
	f.thread.fault(fault)
	return api.Stop{}
}

// wait stops the thread till it is handed what goes on the stack here.
func (f *frame) wait(s api.Stop) api.Stop {
	p := &pending{stop: s, handOn: f.push}
	f.thread.calls = append(f.thread.calls, p)
	return p.goOn()
}
