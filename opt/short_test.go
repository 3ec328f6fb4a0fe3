package opt

import (
	"math/rand"
	"testing"

	"jacquard/api"
	"jacquard/verify"
)

// few are the instructions of which short code is made, with each place.
func few(long int) []api.Instr {
	l := []api.Instr{
		{Op: api.OpAtom, A: 2}, {Op: api.OpLoad}, {Op: api.OpLoad, A: 1}, {Op: api.OpStore}, {Op: api.OpNot},
		{Op: api.OpPop}, {Op: api.OpReturn}, {Op: api.OpThrow},
	}
	for a := range long {
		l = append(l, api.Instr{Op: api.OpFalse, A: a}, api.Instr{Op: api.OpKeepTrue, A: a}, api.Instr{Op: api.OpLoop, A: a}, api.Instr{Op: api.OpJump, A: a})
	}
	return l
}

// fillAll goes through all ways to fill code from a place on with what may stand there.
func fillAll(c []api.Instr, at int, each func()) {
	if at == len(c) {
		each()
		return
	}
	for _, i := range few(len(c)) {
		ahead := i.Op == api.OpFalse || i.Op == api.OpKeepTrue || i.Op == api.OpJump
		if ahead && i.A <= at || i.Op == api.OpLoop && i.A > at {
			continue
		}
		c[at] = i
		fillAll(c, at+1, each)
	}
}

// shortImage has function 1 with this code, which function 2 calls, which function 0 calls with nil and with a number.
func shortImage(c []api.Instr) api.Image {
	begin := "fun 1; storeglobal 0; fun 2; storeglobal 1; "
	return api.Image{Globals: 2, Funs: []api.Code{
		{Slots: 1, Code: ops(begin + "loadglobal 1; atom 0; call 1; store 0; loadglobal 1; int 1; call 1; return"), Tries: []api.Try{{From: 4, To: 7, Target: 7}}},
		{Params: 1, Slots: 2, Code: c},
		{Params: 1, Slots: 2, Code: ops("load 0; loadglobal 0; load 0; call 1; loadglobal 0; atom 2; call 1; list 3; return")},
	}}
}

// P16.3: all code of at most four of few's instructions that can be run, whatever goes on where, and some of five, by its own steps and within another function's.
func TestShortCode(t *testing.T) {
	d := &drawer{Rand: rand.New(rand.NewSource(18))}
	did := map[string]int{}
	runs, met := 0, 0
	for long := 1; long <= 5; long++ {
		c := make([]api.Instr, long)
		fillAll(c, 0, func() {
			met++
			if long == 5 && met%40 != 0 {
				return
			}
			im := shortImage(c)
			if _, _, e := verify.Check(im); e != api.OK {
				return
			}
			runs++
			for how := range 3 {
				r := newRace(t, d, im, 30, 10, did)
				for range 20 {
					if r.loom.globals[1] != api.Nil {
						r.tier(1+how%2, api.How{Fold: min(how, 1), Inline: how % 2}, nil)
					}
					r.step(r.pairs[0])
				}
				r.checkObjects()
			}
		})
	}
	if runs < 2000 || did["within 1"] < 1000 || did["fast loop"] < 1000 || did["fast jump"] < 100 || did["left: thrown"] < 100 {
		t.Error(runs, did)
	}
}
