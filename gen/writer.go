package gen

import "jacquard/api"

// loop is a While whose Block is being written.
type loop struct {
	first  int      // where its expression begins
	breaks []func() // to be called where its end is known
}

// writer writes one function.
type writer struct {
	fun  api.Code
	loop loop // the innermost one
}

// here is the place of the next instruction.
func (w *writer) here() int { return len(w.fun.Code) }

func (w *writer) put(op, a int) {
	w.fun.Code = append(w.fun.Code, api.Instr{Op: op, A: a})
}

// putAhead writes an instruction that goes on further ahead: just where the next one stands when the answer is called.
func (w *writer) putAhead(op int) (lead func()) {
	at := w.here()
	w.put(op, 0)
	return func() { w.fun.Code[at].A = w.here() }
}

// load: what a Name means.
func (w *writer) load(u api.Use) { w.put(loads[u.Where], u.N) }

// store: what a Name means is what is on top.
func (w *writer) store(u api.Use) { w.put(stores[u.Where], u.N) }

// declare: what a node declares begins as what is on top.
func (w *writer) declare(u api.Use) {
	if u.Where != api.UseCell {
		w.store(u)
		return
	}
	w.put(api.OpStore, u.N)
	w.put(api.OpBox, u.N)
}

// end: a function that comes to its end returns nil.
func (w *writer) end() {
	w.put(api.OpAtom, atomNil)
	w.put(api.OpReturn, 0)
}

// Which atom an instruction puts.
const (
	atomNil = iota
	atomFalse
	atomTrue
)

var loads = [...]int{
	api.UseSlot:   api.OpLoad,
	api.UseCell:   api.OpLoadCell,
	api.UseCap:    api.OpLoadCap,
	api.UseGlobal: api.OpLoadGlobal,
	api.UsePrim:   api.OpPrim,
}

var stores = [...]int{
	api.UseSlot:   api.OpStore,
	api.UseCell:   api.OpStoreCell,
	api.UseCap:    api.OpStoreCap,
	api.UseGlobal: api.OpStoreGlobal,
}
