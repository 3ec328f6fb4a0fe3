package tier

import (
	"jacquard/api"
	"jacquard/base"
	"jacquard/opt"
)

// version is faster code of a function.
type version struct {
	tiers     *tiers
	id        int
	code      *opt.Code
	steps     []opt.Step
	ats       []int // by step: the place of its instruction, of those that are operations
	constants []api.Value
}

func newVersion(t *tiers, id int, code *opt.Code) *version {
	v := &version{
		tiers:     t,
		id:        id,
		code:      code,
		steps:     code.Steps(),
		constants: code.Constants(),
	}
	v.ats = make([]int, len(v.steps))
	for n, s := range v.steps {
		if s.Op == api.OpBin || s.Op == api.OpNeg {
			calls := code.Behind(n)
			v.ats[n] = calls[len(calls)-1].At - 1
		}
	}
	return v
}

// Begin makes a call. Its constants stand behind its registers, as the sources of the steps have them.
func (v *version) Begin(s *base.Seat, slots []api.Value) base.Faster {
	registers := v.code.Registers()
	c := &call{Seat: s, version: v, sources: make([]api.Value, registers+len(v.constants)), last: none}
	copy(c.sources, slots)
	copy(c.sources[registers:], v.constants)
	v.tiers.tell(api.TierEntered, v)
	return c
}
