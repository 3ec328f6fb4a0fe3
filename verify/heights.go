package verify

import (
	"jacquard/api"
	"jacquard/code"
)

// nowhere is the height of an instruction that nothing comes to, and the place of a fault where there is none.
const nowhere = -1

// step is an instruction at its place, with the stack's heights there.
type step struct {
	api.Instr
	at     int
	before int
	kept   int // without what it takes
	after  int // with what it puts, too
}

func stepAt(im api.Image, c api.Code, at, height int) step {
	i := c.Code[at]
	takes, puts, _ := code.Effect(im, i)
	return step{Instr: i, at: at, before: height, kept: height - takes, after: height - takes + puts}
}

// heightsOf goes through what c may come to, in the order in which it comes to it, and tells the heights, and the place of the first fault.
func heightsOf(im api.Image, c api.Code) (heights []int, fault int) {
	heights = make([]int, len(c.Code))
	for i := range heights {
		heights[i] = nowhere
	}
	fault = nowhere
	var row []int
	reach := func(place, height int) bool {
		if heights[place] == nowhere {
			heights[place] = height
			row = append(row, place)
		}
		if heights[place] != height {
			fault = place
		}
		return fault == nowhere
	}
	reach(0, 0)
places:
	for next := 0; next < len(row); next++ {
		s := stepAt(im, c, row[next], heights[row[next]])
		if !fits(c, s) {
			fault = s.at
			break places
		}
		for _, t := range c.Tries {
			if covers(t, s.at) && t.Depth > s.kept {
				fault = s.at
				break places
			}
		}
		if !goOn(c, s, reach) {
			break places
		}
	}
	return heights, fault
}

// fits: is there what it takes, room for what it puts, and an instruction that it goes on at?
func fits(c api.Code, s step) bool {
	switch {
	case s.kept < 0:
		fallthrough
	case s.after > api.MaxStack:
		fallthrough
	case hasNext(s.Op) && s.at+1 == len(c.Code):
		return false
	}
	return true
}

// hasNext: may an instruction go on at the next one?
func hasNext(op int) bool {
	switch op {
	case api.OpJump, api.OpLoop, api.OpReturn, api.OpThrow:
		return false
	}
	return true
}

func covers(t api.Try, at int) bool { return t.From <= at && at < t.To }

// goOn hands on each place where an instruction may go on, with the height there, up to one that is refused.
func goOn(c api.Code, s step, reach func(place, height int) bool) bool {
	switch s.Op {
	case api.OpJump, api.OpLoop:
		return reach(s.A, s.after)
	case api.OpReturn: // as with jump and loop, nothing is thrown in it
		return true
	case api.OpThrow:
		return reachTargets(c, s.at, reach)
	case api.OpFalse:
		return reach(s.at+1, s.after) && reach(s.A, s.after) && reachTargets(c, s.at, reach)
	case api.OpKeepFalse, api.OpKeepTrue: // at A what it took is there again
		return reach(s.at+1, s.after) && reach(s.A, s.before) && reachTargets(c, s.at, reach)
	}
	return reach(s.at+1, s.after) && reachTargets(c, s.at, reach)
}

// reachTargets hands on where what is thrown at a place is caught: by all Tries that cover it, though the first one alone will catch it.
func reachTargets(c api.Code, at int, reach func(place, height int) bool) bool {
	for _, t := range c.Tries {
		if covers(t, at) && !reach(t.Target, t.Depth+1) {
			return false
		}
	}
	return true
}
