package base

import (
	"slices"

	"jacquard/api"
)

// copiedImage tells an image again, in memory of its own: who made it may write over it.
func copiedImage(im api.Image) api.Image {
	out := api.Image{
		Funs:    make([]api.Code, len(im.Funs)),
		Strs:    slices.Clone(im.Strs),
		Keys:    make([][]int, len(im.Keys)),
		Globals: im.Globals,
	}
	for i, c := range im.Funs {
		out.Funs[i] = copiedCode(c)
	}
	for i, keys := range im.Keys {
		out.Keys[i] = slices.Clone(keys)
	}
	return out
}

func copiedCode(c api.Code) api.Code {
	c.Boxes = slices.Clone(c.Boxes)
	c.Caps = slices.Clone(c.Caps)
	c.Code = slices.Clone(c.Code)
	c.Tries = slices.Clone(c.Tries)
	return c
}

// allNil is what globals, and a call's slots, are at first.
func allNil(n int) []api.Value { return slices.Repeat([]api.Value{api.Nil}, n) }
