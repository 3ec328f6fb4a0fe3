package verify

import (
	"strings"

	"jacquard/api"
)

// words is the chapters' table of instructions, told once more: what is taken, what is put, of what A is a place, how it goes on.
const words = `
int 0 1 number next
atom 0 1 3 next
str 0 1 strs next
prim 0 1 30 next
pop 1 0 1 next
load 0 1 slots next
store 1 0 slots next
box 0 0 slots next
loadcell 0 1 slots next
storecell 1 0 slots next
loadcap 0 1 caps next
storecap 1 0 caps next
loadglobal 0 1 globals next
storeglobal 1 0 globals next
list A 1 256 next
rec n 1 keys next
fun 0 1 funs next
bin 2 1 11 next
not 1 1 1 next
neg 1 1 1 next
jump 0 0 ahead A
false 1 0 ahead both
keepfalse 1 0 ahead keep
keeptrue 1 0 ahead keep
loop 0 0 back A
call A+1 1 256 next
spawn A+1 1 256 next
return 1 0 1 end
throw 1 0 1 thrown
index 2 1 1 next
setindex 3 0 1 next
field 1 1 strs next
setfield 2 0 strs next
`

// word is a row of the table.
type word struct{ name, takes, puts, of, goes string }

func table() []word {
	var l []word
	for _, line := range strings.Split(strings.TrimSpace(words), "\n") {
		f := strings.Fields(line)
		l = append(l, word{f[0], f[1], f[2], f[3], f[4]})
	}
	return l
}

// fault is what Check answers.
type fault struct {
	fun, at int
	e       api.Errno
}

// model checks an image by the table: it writes down a fault for each thing that is wrong, in the chapter's order, and takes the first one.
type model struct {
	api.Image
	words  []word
	faults []fault
}

func newModel(im api.Image) *model { return &model{Image: im, words: table()} }

func (m *model) must(right bool, fun, at int, e api.Errno) bool {
	if !right {
		m.faults = append(m.faults, fault{fun, at, e})
	}
	return right
}

func (m *model) check() fault {
	m.image()
	for f := range m.Funs {
		m.frame(f)
	}
	if len(m.faults) == 0 {
		for f := range m.Funs {
			m.code(f)
		}
	}
	if len(m.faults) == 0 {
		for f := range m.Funs {
			m.heights(f)
		}
	}
	if len(m.faults) == 0 {
		return fault{}
	}
	return m.faults[0]
}

func (m *model) image() {
	m.must(len(m.Funs) >= 1 && len(m.Funs) <= 1024, 0, 0, api.ErrMany)
	m.must(m.Globals >= 0 && m.Globals <= 1024, 0, 0, api.ErrMany)
	for _, l := range m.Keys {
		right := len(l) <= 255
		for i, k := range l {
			right = right && k >= 0 && k < len(m.Strs)
			for _, ahead := range l[:i] {
				right = right && m.Strs[ahead] != m.Strs[k]
			}
		}
		m.must(right, 0, 0, api.ErrArg)
	}
}

func (m *model) frame(f int) {
	c := m.Funs[f]
	m.must(c.Params >= 0 && c.Params <= 16, f, 0, api.ErrMany)
	m.must(c.Slots >= c.Params && c.Slots <= 256, f, 0, api.ErrMany)
	m.must(len(c.Caps) <= 256, f, 0, api.ErrMany)
	m.must(len(c.Code) >= 1 && len(c.Code) <= 65536, f, 0, api.ErrMany)
	for i, b := range c.Boxes {
		m.must(b >= 0 && b < c.Params, f, 0, api.ErrArg)
		m.must(i == 0 || c.Boxes[i-1] < b, f, 0, api.ErrArg)
	}
	m.must(f > 0 || c.Params == 0 && len(c.Caps) == 0, f, 0, api.ErrArg)
	for _, p := range c.Caps {
		m.must(p.Own == 0 || p.Own == 1, f, 0, api.ErrArg)
	}
}

func (m *model) code(f int) {
	c := m.Funs[f]
	for at, i := range c.Code {
		if m.must(i.Op >= 0 && i.Op < len(m.words), f, at, api.ErrKind) {
			m.must(m.named(c, at, m.words[i.Op].of), f, at, api.ErrRange)
			m.must(i.B == 0, f, at, api.ErrRange)
		}
	}
	n := len(c.Code)
	for _, t := range c.Tries {
		m.must(t.From >= 0 && t.To >= t.From && t.Target >= t.To && t.Target <= n-1, f, n, api.ErrRange)
		m.must(t.Depth >= 0 && t.Depth <= 255, f, n, api.ErrRange)
	}
}

// named: is A one of what the table says?
func (m *model) named(c api.Code, at int, of string) bool {
	a := c.Code[at].A
	counts := map[string]int{
		"strs": len(m.Strs), "keys": len(m.Keys), "globals": m.Globals, "funs": len(m.Funs), "slots": c.Slots, "caps": len(c.Caps),
		"1": 1, "3": 3, "11": 11, "30": 30, "256": 256, "ahead": len(c.Code), "back": len(c.Code),
	}
	switch of {
	case "number":
		return a >= -1<<61 && a < 1<<61
	case "ahead":
		return a < counts[of] && a > at
	case "back":
		return a >= 0 && a <= at
	case "funs":
		if a <= 0 || a >= counts[of] {
			return false
		}
		for _, p := range m.Funs[a].Caps {
			has := map[int]int{0: counts["caps"], 1: counts["slots"]}[p.Own]
			if p.N < 0 || p.N >= has {
				return false
			}
		}
		return true
	}
	return a >= 0 && a < counts[of]
}

// taken is what an instruction takes.
func (m *model) taken(i api.Instr) int {
	switch takes := m.words[i.Op].takes; takes {
	case "A":
		return i.A
	case "A+1":
		return i.A + 1
	case "n":
		return len(m.Keys[i.A])
	default:
		return int(takes[0] - '0')
	}
}

// way is a place where an instruction goes on, and the height there.
type way struct{ to, height int }

// ways are those of an instruction, in the chapter's order, and whether it is right at that height.
func (m *model) ways(c api.Code, at, h int) ([]way, bool) {
	i := c.Code[at]
	w := m.words[i.Op]
	left := h - m.taken(i)
	then := left + int(w.puts[0]-'0')
	right := left >= 0 && then <= 256
	var l []way
	switch w.goes {
	case "next":
		l = []way{{at + 1, then}}
	case "A":
		l = []way{{i.A, then}}
	case "both":
		l = []way{{at + 1, then}, {i.A, then}}
	case "keep":
		l = []way{{at + 1, then}, {i.A, h}}
	}
	right = right && (len(l) == 0 || l[0].to < len(c.Code))
	for _, t := range c.Tries {
		if at < t.From || at >= t.To {
			continue
		}
		right = right && t.Depth <= left
		if w.goes != "A" && w.goes != "end" {
			l = append(l, way{t.Target, t.Depth + 1})
		}
	}
	return l, right
}

// heights are by place; up to the first fault, if there is one.
func (m *model) heights(f int) map[int]int {
	c := m.Funs[f]
	told := map[int]int{0: 0}
	waiting := []int{0}
	for len(waiting) > 0 {
		at := waiting[0]
		waiting = waiting[1:]
		ways, right := m.ways(c, at, told[at])
		if !m.must(right, f, at, api.ErrForm) {
			return told
		}
		for _, w := range ways {
			h, met := told[w.to]
			if !m.must(!met || h == w.height, f, w.to, api.ErrForm) {
				return told
			}
			if !met {
				told[w.to] = w.height
				waiting = append(waiting, w.to)
			}
		}
	}
	return told
}

// stands: can each place be come to with one height alone, and is each instruction right there? It goes through places with heights, in no order, so that what it says hangs on no row.
func (m *model) stands(f int) bool {
	c := m.Funs[f]
	met := map[way]int{{0, 0}: 1}
	heights := map[int]int{}
	left := []way{{0, 0}}
	for len(left) > 0 {
		last := left[len(left)-1]
		left = left[:len(left)-1]
		if h, is := heights[last.to]; is && h != last.height {
			return false
		}
		heights[last.to] = last.height
		ways, right := m.ways(c, last.to, last.height)
		if !right {
			return false
		}
		for _, w := range ways {
			if met[w] == 0 {
				met[w] = 1
				left = append(left, w)
			}
		}
	}
	return true
}
