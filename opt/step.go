package opt

import (
	"iter"
	"slices"

	"jacquard/api"
)

// The steps that are no instructions, numbered behind these.
const (
	StepMove  = api.Ops + iota // To is what it takes
	StepTrue                   // goes on at Next, if what it takes counts as true
	StepNum                    // bin with operation A of two numbers; of others it does not hold: the calls go on as ordinary ones, as Ahead tells
	StepMinus                  // neg of a number; of others it does not hold
	StepPrim                   // calls primitive A with what it takes
	StepEnter                  // a call of function A begins within; its slots are set; safe
	StepBack                   // a call within returns: To is what it takes, goes on at Next; safe
)

// none is the number of what there is not.
const none = -1

// Step is an instruction, with its Op and A, or one of the steps above. It takes its values from sources, those of the slots that it has to do with first, then those that an instruction takes, the lowest first; what an instruction puts is in register To. A source is a register, or, from Registers on, one of Constants. A step goes on at the one behind it, but for: jump, loop and StepBack, at Next; false and StepTrue, which may; return and throw.
type Step struct {
	Op   int
	Fun  int // whose instruction it is
	A    int
	From []int
	To   int // a register; -1: none
	Next int // a step; -1: none
	mark int // of the calls behind it; none, where nobody asks
}

// Call is one as it stands: as api.View has it, with the register of slot 0 (the others are behind it) and the sources of the stack in place of the values.
type Call struct {
	Fun   int
	At    int
	Slots int
	Stack []int
}

// mark has the innermost one of calls that stand somewhere.
type mark struct {
	fun   int
	at    int
	slots int
	top   int // the entry on top of its stack; none: it is empty
	about int // the mark of the others; none: there are no others
}

// entry is a source on a stack, and what is below it. Stacks that are alike in their lower part share it: else long code with high stacks would be mostly marks.
type entry struct {
	source int
	below  int
}

// Behind: the calls as they stand behind a step that may fault or stop, the innermost one last: with At behind the instruction, without what it takes, and without what it puts, but for that of StepBack. Of other steps: nothing.
func (c *Code) Behind(step int) []Call {
	if c == nil || !isPlace(step, len(c.steps)) {
		return nil
	}
	var calls []Call
	for n := c.steps[step].mark; n != none; n = c.marks[n].about {
		calls = append(calls, c.callOf(c.marks[n]))
	}
	slices.Reverse(calls)
	return calls
}

// Ahead: the calls as they stand where a StepNum or a StepMinus does not hold: with At at its instruction, which is still to be done. Of other steps: nothing.
func (c *Code) Ahead(step int) []Call {
	calls := c.Behind(step)
	if len(calls) == 0 {
		return nil
	}
	s := c.steps[step]
	if s.Op != StepNum && s.Op != StepMinus {
		return nil
	}
	last := &calls[len(calls)-1]
	last.At--
	last.Stack = append(last.Stack, s.From...)
	return calls
}

func (c *Code) callOf(m mark) Call {
	var stack []int
	for n := m.top; n != none; n = c.entries[n].below {
		stack = append(stack, c.entries[n].source)
	}
	slices.Reverse(stack)
	return Call{Fun: m.fun, At: m.at, Slots: m.slots, Stack: stack}
}

// sources goes through all that steps take, and all that stands on stacks.
func (c *Code) sources() iter.Seq[*int] {
	return func(yield func(*int) bool) {
		for _, s := range c.steps {
			for i := range s.From {
				if !yield(&s.From[i]) {
					return
				}
			}
		}
		for i := range c.entries {
			if !yield(&c.entries[i].source) {
				return
			}
		}
	}
}
