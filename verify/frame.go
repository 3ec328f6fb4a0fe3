package verify

import "jacquard/api"

// mostKeys is how many keys an entry of Keys may have.
const mostKeys = 255

// imageFault is what is wrong with the image, its functions' insides left out.
func imageFault(im api.Image) api.Errno {
	switch {
	case len(im.Funs) < 1 || len(im.Funs) > api.MaxFuns:
		fallthrough
	case im.Globals < 0 || im.Globals > api.MaxGlobals:
		return api.ErrMany
	case !keysAreRight(im):
		return api.ErrArg
	}
	return api.OK
}

func keysAreRight(im api.Image) bool {
	first := firstPlaces(im.Strs)
	last := make([]int, len(im.Strs)) // by the first place of a text: the entry that had it last, the first one being 1
	for n, keys := range im.Keys {
		if len(keys) > mostKeys {
			return false
		}
		for _, k := range keys {
			if !isPlace(k, len(im.Strs)) || last[first[k]] == n+1 {
				return false
			}
			last[first[k]] = n + 1
		}
	}
	return true
}

// firstPlaces tells of each text where it stands first, so that texts, which may be long and in many entries, are held against each other just once.
func firstPlaces(texts []string) []int {
	places := map[string]int{}
	first := make([]int, len(texts))
	for i, text := range texts {
		if _, met := places[text]; !met {
			places[text] = i
		}
		first[i] = places[text]
	}
	return first
}

// frameFault is what is wrong with function f, its instructions left out.
func frameFault(im api.Image, f int) api.Errno {
	switch c := im.Funs[f]; {
	case c.Params < 0 || c.Params > api.MaxParams:
		fallthrough
	case c.Slots < c.Params || c.Slots > api.MaxSlots:
		fallthrough
	case len(c.Caps) > api.MaxCaps:
		fallthrough
	case len(c.Code) < 1 || len(c.Code) > api.MaxCode:
		return api.ErrMany
	case !boxesAreRight(c):
		fallthrough
	case f == 0 && (c.Params > 0 || len(c.Caps) > 0):
		fallthrough
	case !ownsAreRight(c.Caps):
		return api.ErrArg
	}
	return api.OK
}

func boxesAreRight(c api.Code) bool {
	least := 0
	for _, box := range c.Boxes {
		if box < least || box >= c.Params {
			return false
		}
		least = box + 1
	}
	return true
}

func ownsAreRight(caps []api.Cap) bool {
	for _, p := range caps {
		if p.Own != 0 && p.Own != 1 {
			return false
		}
	}
	return true
}
