package tier

import (
	"slices"

	"jacquard/api"
	"jacquard/base"
	"jacquard/opt"
	"jacquard/prim"
	"jacquard/tag"
)

// none is the number of what there is not: a step, a register.
const none = -1

// call is one that runs by a version.
type call struct {
	*base.Seat
	*version
	sources []api.Value  // its registers, then the constants
	next    int          // the next step
	last    int          // the one that was done last
	handed  bool         // what that waited for has come
	missed  bool         // it did not hold, and was not done
	room    [3]api.Value // for what a step takes that takes no list
}

// Take is handed what the last step waited for.
func (c *call) Take(v api.Value) {
	c.sources[c.steps[c.last].To] = v
	c.handed = true
}

// Holds: may it go on by its version?
func (c *call) Holds() bool { return !c.missed && c.tiers.deps.Valid(c.id) }

// Left: it goes on as ordinary calls.
func (c *call) Left() { c.tiers.tell(api.TierLeft, c.version) }

// Views are the ordinary calls that it stands for.
func (c *call) Views() []api.View {
	if c.last == none {
		return []api.View{c.view(opt.Call{Fun: c.code.Fun()})}
	}
	calls := c.code.Behind(c.last)
	if c.missed {
		calls = c.code.Ahead(c.last)
	}
	var views []api.View
	for _, x := range calls {
		views = append(views, c.view(x))
	}
	if c.handed {
		inner := &views[len(views)-1]
		inner.Stack = append(inner.Stack, c.sources[c.steps[c.last].To])
	}
	return views
}

func (c *call) view(x opt.Call) api.View {
	slots := c.sources[x.Slots : x.Slots+c.tiers.image.Funs[x.Fun].Slots]
	return api.View{Fun: x.Fun, At: x.At, Slots: slices.Clone(slots), Stack: c.values(x.Stack)}
}

// values are what is in some sources.
func (c *call) values(sources []int) []api.Value {
	l := make([]api.Value, len(sources))
	for i, n := range sources {
		l[i] = c.sources[n]
	}
	return l
}

// GoOn does steps; the safe ones, and those that concern other calls, are the last.
func (c *call) GoOn() api.Stop {
	for {
		c.last, c.handed = c.next, false
		c.next++
		s := &c.steps[c.last]
		switch s.Op {
		case opt.StepMove:
			c.put(s, c.first(s))
		case api.OpLoadGlobal:
			c.put(s, c.Global(s.A))
		case api.OpJump:
			c.next = s.Next
		case api.OpFalse, opt.StepTrue:
			if tag.Truth(c.first(s)) == (s.Op == opt.StepTrue) {
				c.next = s.Next
			}
		case api.OpLoop, api.OpStoreGlobal, opt.StepEnter, opt.StepBack:
			return c.safe(s)
		case api.OpCall, opt.StepPrim, api.OpSpawn, api.OpReturn, api.OpThrow:
			return c.elsewhere(s)
		default:
			if !c.haveNumbers(s) {
				c.missed = true
				return api.Stop{}
			}
			if fault := c.reckon(s); fault != api.FaultNone {
				return c.Fault(fault)
			}
		}
	}
}

// safe does a step behind which the thread stops, the call being the innermost one still.
func (c *call) safe(s *opt.Step) api.Stop {
	switch s.Op {
	case api.OpLoop:
		c.tiers.Looped(s.Fun)
		c.next = s.Next
	case api.OpStoreGlobal:
		c.SetGlobal(s.A, c.first(s))
	case opt.StepEnter:
		if fault := c.BeginWithin(s.A); fault != api.FaultNone {
			return c.Fault(fault)
		}
	case opt.StepBack:
		c.EndWithin()
		c.put(s, c.first(s))
		c.next = s.Next
	}
	return api.Stop{Kind: api.StopSafe}
}

// elsewhere does a step that has to do with other calls. What they are handed is theirs.
func (c *call) elsewhere(s *opt.Step) api.Stop {
	switch s.Op {
	case api.OpCall:
		return c.Call(c.values(s.From))
	case opt.StepPrim:
		return c.CallPrim(s.A, c.values(s.From))
	case api.OpSpawn:
		return c.Spawn(c.values(s.From))
	case api.OpReturn:
		return c.Return(c.first(s))
	}
	return c.Throw(c.first(s))
}

// haveNumbers: does a step that counts on numbers take numbers alone?
func (c *call) haveNumbers(s *opt.Step) bool {
	if s.Op != opt.StepNum && s.Op != opt.StepMinus {
		return true
	}
	for _, n := range s.From {
		if tag.Kind(c.sources[n]) != api.KindInt {
			return false
		}
	}
	return true
}

// reckon does a step by which nothing goes on elsewhere. (Operations on numbers were seen to have numbers alone: that need not be told again.)
func (c *call) reckon(s *opt.Step) int {
	l := c.room[:0]
	for _, n := range s.From {
		l = append(l, c.sources[n])
	}
	var v api.Value
	var fault int
	switch s.Op {
	case opt.StepNum:
		v, fault = prim.Bin(c.tiers.heap, s.A, l[0], l[1])
	case opt.StepMinus:
		v, fault = prim.Neg(c.tiers.heap, l[0])
	case api.OpBin, api.OpNeg:
		c.tiers.Had(s.Fun, c.ats[c.last], l[0], l[len(l)-1])
		fallthrough
	default:
		v, fault = c.Do(api.Instr{Op: s.Op, A: s.A}, l)
	}
	if fault == api.FaultNone && s.To != none {
		c.put(s, v)
	}
	return fault
}

// first is what a step takes that takes one value.
func (c *call) first(s *opt.Step) api.Value { return c.sources[s.From[0]] }

func (c *call) put(s *opt.Step, v api.Value) { c.sources[s.To] = v }
