package verify

import (
	"slices"
	"strconv"
	"strings"
	"testing"

	"jacquard/api"
)

// P11.1
func TestHowManyFunctions(t *testing.T) {
	checkFault(t, "nothing", api.Image{}, 0, 0, api.ErrMany)
	checkFault(t, "no functions", api.Image{Funs: []api.Code{}, Globals: 1}, 0, 0, api.ErrMany)
	checkRight(t, "one", api.Image{Funs: many(1)})
	checkRight(t, "MaxFuns", api.Image{Funs: many(api.MaxFuns)})
	checkFault(t, "one more", api.Image{Funs: many(api.MaxFuns + 1)}, 0, 0, api.ErrMany)
}

// P11.1
func TestHowManyGlobals(t *testing.T) {
	for _, n := range []int{0, 1, 1023, api.MaxGlobals} {
		checkRight(t, strconv.Itoa(n), api.Image{Funs: many(1), Globals: n})
	}
	for _, n := range append(far(), -1, api.MaxGlobals+1) {
		checkFault(t, strconv.Itoa(n), api.Image{Funs: many(1), Globals: n}, 0, 0, api.ErrMany)
	}
}

func withKeys(strs []string, keys ...[]int) api.Image {
	return api.Image{Funs: many(1), Strs: strs, Keys: keys}
}

// P11.1: texts that are the same may stand twice in Strs, and in two entries, but not in one entry.
func TestKeys(t *testing.T) {
	long := strings.Repeat("k", 70000)
	strs := []string{"a", "b", "a", "", "\x00", long, long + "!", long}
	for name, keys := range map[string][][]int{
		"none":            {},
		"empty lists":     {{}, nil, {}},
		"one":             {{0}},
		"all different":   {{0, 1, 3, 4, 5, 6}, {6, 5, 4, 3, 2, 1}},
		"the same again":  {{0, 1}, {0, 1}, {1, 2}, {2}, {0}},
		"a long one each": {{5}, {7}, {6, 7}},
	} {
		checkRight(t, name, withKeys(strs, keys...))
	}
	for name, keys := range map[string][][]int{
		"a place twice":      {{0, 0}},
		"a text twice":       {{0, 1, 2}},
		"a text twice later": {{0}, {1}, {}, {3, 2, 1, 0}},
		"a long text twice":  {{5, 6, 7}},
		"the empty one":      {{3, 4, 3}},
		"below":              {{0, -1}},
		"behind":             {{8}},
		"behind, later":      {{0, 1}, {1, 0}, {3, 4, 8}},
	} {
		checkFault(t, name, withKeys(strs, keys...), 0, 0, api.ErrArg)
	}
	for _, k := range far() {
		checkFault(t, strconv.Itoa(k), withKeys(strs, []int{k}), 0, 0, api.ErrArg)
	}
	checkFault(t, "no texts", withKeys(nil, []int{0}), 0, 0, api.ErrArg)
}

// P11.1
func TestHowManyKeys(t *testing.T) {
	var strs []string
	var places []int
	for i := range 256 {
		strs = append(strs, strconv.Itoa(i))
		places = append(places, 255-i)
	}
	checkRight(t, "255", withKeys(strs, nil, places[:255], places[1:]))
	checkFault(t, "256", withKeys(strs, nil, places[:255], places), 0, 0, api.ErrArg)
	strs[0] = "255"
	checkRight(t, "255, not both", withKeys(strs, places[:255], places[1:]))
	checkFault(t, "the last one twice", withKeys(strs, append([]int{255}, slices.Clone(places[2:])...)), 0, 0, api.ErrArg)
}

// P11.1: many entries with long texts are gone through in no time.
func TestManyLongKeys(t *testing.T) {
	strs := make([]string, 255)
	places := make([]int, 255)
	for i := range strs {
		strs[i] = strings.Repeat("k", 65000+i)
		places[i] = i
	}
	im := withKeys(strs)
	for range 20000 {
		im.Keys = append(im.Keys, places)
	}
	checkRight(t, "all different", im)
	im.Keys = append(im.Keys, []int{3, 3})
	checkFault(t, "the last ones alike", im, 0, 0, api.ErrArg)
}

// P11.1: in their order.
func TestOrderInTheImage(t *testing.T) {
	im := withKeys(nil, []int{0})
	checkFault(t, "Keys", im, 0, 0, api.ErrArg)
	im.Globals = api.MaxGlobals + 1
	checkFault(t, "Globals ahead of Keys", im, 0, 0, api.ErrMany)
	im.Globals, im.Funs = 0, nil
	checkFault(t, "Funs ahead of Keys", im, 0, 0, api.ErrMany)
	im.Funs, im.Keys = many(1), nil
	im.Funs[0].Slots = -1
	checkFault(t, "a frame", im, 0, 0, api.ErrMany)
	im.Keys, im.Funs[0].Slots = [][]int{{0}}, 257
	checkFault(t, "Keys ahead of a frame", im, 0, 0, api.ErrArg)
}

// framed is an image whose function f has what change does to it.
func framed(f int, change func(c *api.Code)) api.Image {
	im := api.Image{Funs: many(3)}
	change(&im.Funs[f])
	return im
}

// P11.2
func TestParamsAndSlots(t *testing.T) {
	for f := 1; f < 3; f++ {
		for params := -1; params <= api.MaxParams+1; params++ {
			for _, slots := range []int{-1, 0, 1, params - 1, params, params + 1, 255, api.MaxSlots, api.MaxSlots + 1} {
				im := framed(f, func(c *api.Code) { c.Params, c.Slots = params, slots })
				name := strconv.Itoa(params) + ", " + strconv.Itoa(slots)
				if params >= 0 && params <= 16 && slots >= params && slots <= 256 {
					checkRight(t, name, im)
				} else {
					checkFault(t, name, im, f, 0, api.ErrMany)
				}
			}
		}
		for _, n := range far() {
			checkFault(t, "Params", framed(f, func(c *api.Code) { c.Params, c.Slots = n, 16 }), f, 0, api.ErrMany)
			checkFault(t, "Slots", framed(f, func(c *api.Code) { c.Params, c.Slots = 16, n }), f, 0, api.ErrMany)
			checkFault(t, "both", framed(f, func(c *api.Code) { c.Params, c.Slots = n, n }), f, 0, api.ErrMany)
		}
	}
	for _, slots := range []int{0, 1, api.MaxSlots} {
		checkRight(t, "Slots of the first function", framed(0, func(c *api.Code) { c.Slots = slots }))
	}
	for _, slots := range []int{-1, api.MaxSlots + 1} {
		checkFault(t, "Slots of the first function", framed(0, func(c *api.Code) { c.Slots = slots }), 0, 0, api.ErrMany)
	}
}

// P11.2: what an Own and N are of is asked where the function is made alone.
func TestCaps(t *testing.T) {
	for _, n := range []int{1, 255, api.MaxCaps} {
		checkRight(t, "so many", framed(2, func(c *api.Code) { c.Caps = make([]api.Cap, n) }))
		checkFault(t, "of the first function", framed(0, func(c *api.Code) { c.Caps = make([]api.Cap, n) }), 0, 0, api.ErrArg)
	}
	checkFault(t, "too many", framed(2, func(c *api.Code) { c.Caps = make([]api.Cap, api.MaxCaps+1) }), 2, 0, api.ErrMany)
	checkFault(t, "too many in the first", framed(0, func(c *api.Code) { c.Caps = make([]api.Cap, api.MaxCaps+1) }), 0, 0, api.ErrMany)
	for _, n := range append(far(), -1, 0, 256) {
		checkRight(t, "not made", framed(1, func(c *api.Code) { c.Caps = []api.Cap{{Own: 0, N: n}, {Own: 1, N: n}} }))
	}
	for _, own := range append(far(), -1, 2) {
		for at := range 3 {
			caps := []api.Cap{{Own: 1}, {Own: 0}, {Own: 1}}
			caps[at].Own = own
			checkFault(t, "an Own", framed(1, func(c *api.Code) { c.Caps = caps }), 1, 0, api.ErrArg)
		}
	}
}

// P11.2
func TestHowManyInstructions(t *testing.T) {
	for f := range 3 {
		for _, n := range []int{1, 2, 255, api.MaxCode - 1, api.MaxCode} {
			code := slices.Repeat([]api.Instr{in(api.OpLoop)}, n)
			checkRight(t, strconv.Itoa(n), framed(f, func(c *api.Code) { c.Code = code }))
		}
		for _, n := range []int{0, api.MaxCode + 1, api.MaxCode + 2} {
			code := slices.Repeat([]api.Instr{in(api.OpLoop)}, n)
			checkFault(t, strconv.Itoa(n), framed(f, func(c *api.Code) { c.Code = code }), f, 0, api.ErrMany)
		}
	}
}

// P11.2
func TestBoxes(t *testing.T) {
	var all []int
	for i := range api.MaxParams {
		all = append(all, i)
	}
	boxed := func(params int, boxes ...int) api.Image {
		return framed(1, func(c *api.Code) { c.Params, c.Slots, c.Boxes = params, 20, boxes })
	}
	checkRight(t, "all", boxed(16, all...))
	checkFault(t, "one more", boxed(15, all...), 1, 0, api.ErrArg)
	for name, l := range map[string][]int{"none": {}, "first": {0}, "last": {3}, "some": {0, 2, 3}, "each": {0, 1, 2, 3}} {
		checkRight(t, name, boxed(4, l...))
	}
	for name, l := range map[string][]int{
		"below": {-1}, "below first": {-1, 0}, "behind": {4}, "behind last": {0, 4}, "twice": {1, 1}, "downwards": {2, 1},
		"downwards later": {0, 1, 3, 2}, "twice at the end": {0, 3, 3}, "a slot": {0, 1, 19},
	} {
		checkFault(t, name, boxed(4, l...), 1, 0, api.ErrArg)
	}
	for _, n := range far() {
		checkFault(t, "far", boxed(4, n), 1, 0, api.ErrArg)
		checkFault(t, "far behind one", boxed(4, 2, n), 1, 0, api.ErrArg)
	}
	checkFault(t, "without Params", boxed(0, 0), 1, 0, api.ErrArg)
	checkFault(t, "of the first function", framed(0, func(c *api.Code) { c.Slots, c.Boxes = 1, []int{0} }), 0, 0, api.ErrArg)
}

// P11.2
func TestFirstFunctionHasNoParams(t *testing.T) {
	for _, n := range []int{1, 2, api.MaxParams} {
		checkFault(t, "Params", framed(0, func(c *api.Code) { c.Params, c.Slots = n, n }), 0, 0, api.ErrArg)
		checkRight(t, "Params of another", framed(1, func(c *api.Code) { c.Params, c.Slots = n, n }))
	}
	checkFault(t, "too many", framed(0, func(c *api.Code) { c.Params, c.Slots = 17, 17 }), 0, 0, api.ErrMany)
}

// P11.2: function by function, and of one function ErrMany first.
func TestOrderOfFrames(t *testing.T) {
	wrong := map[api.Errno][]func(c *api.Code){
		api.ErrMany: {
			func(c *api.Code) { c.Params = -1 },
			func(c *api.Code) { c.Slots = 257 },
			func(c *api.Code) { c.Caps = make([]api.Cap, 257) },
			func(c *api.Code) { c.Code = nil },
		},
		api.ErrArg: {
			func(c *api.Code) { c.Boxes = []int{-1} },
			func(c *api.Code) { c.Caps = append(c.Caps, api.Cap{Own: 2}) },
		},
	}
	for _, more := range wrong[api.ErrMany] {
		for _, arg := range wrong[api.ErrArg] {
			for f := range 3 {
				checkFault(t, "both", framed(f, func(c *api.Code) { arg(c); more(c) }), f, 0, api.ErrMany)
			}
			im := api.Image{Funs: many(4)}
			arg(&im.Funs[1])
			more(&im.Funs[2])
			more(&im.Funs[3])
			checkFault(t, "the earlier function", im, 1, 0, api.ErrArg)
			more(&im.Funs[0])
			checkFault(t, "the first function", im, 0, 0, api.ErrMany)
		}
	}
}
