package opt

import (
	"jacquard/api"
	"jacquard/tag"
)

// isPlace: is it one of so many places?
func isPlace(i, many int) bool { return i >= 0 && i < many }

// IsHow: is it one by which code can be made?
func IsHow(how api.How) bool {
	return isPlace(how.Fold, 2) && isPlace(how.Guard, 2) && isPlace(how.Inline, api.MaxInline+1)
}

// allKnown: does each entry name another global, with a value, and a function or none?
func allKnown(im api.Image, known []api.Known) bool {
	named := make([]bool, im.Globals)
	for _, k := range known {
		if !isPlace(k.Global, im.Globals) || named[k.Global] || tag.Kind(k.Val) == api.KindNone {
			return false
		}
		if k.Fun != none && !isPlace(k.Fun, len(im.Funs)) {
			return false
		}
		named[k.Global] = true
	}
	return true
}

// allSeen: does each entry name an instruction, with bits of kinds?
func allSeen(im api.Image, seen []api.Seen) bool {
	for _, s := range seen {
		if !isPlace(s.Fun, len(im.Funs)) || !isPlace(s.At, len(im.Funs[s.Fun].Code)) || !isPlace(s.Kinds, 256) {
			return false
		}
	}
	return true
}
