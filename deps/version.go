package deps

import "jacquard/api"

// version is code of a function, as far as it is known here.
type version struct {
	fun   int
	on    []api.Dep
	valid bool
}

// concern is something that has to do with some versions.
type concern interface {
	concerns(v version) bool
}

// anyOf is a function: all its versions.
type anyOf int

func (f anyOf) concerns(v version) bool {
	return v.fun == int(f)
}

// validOf is a function: its version that may still be run.
type validOf int

func (f validOf) concerns(v version) bool {
	return v.valid && v.fun == int(f)
}

// write is a global's: the versions that it ends.
type write struct {
	global int
	val    api.Value
}

func (w write) concerns(v version) bool {
	if !v.valid {
		return false
	}
	for _, x := range v.on {
		if x.Global == w.global {
			return x.Val != w.val
		}
	}
	return false
}

// places tells where in a list those stand that are asked for.
func places[T any](l []T, is func(T) bool) []int {
	var at []int
	for i, x := range l {
		if is(x) {
			at = append(at, i)
		}
	}
	return at
}
