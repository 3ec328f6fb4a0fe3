/- The resolver in memory: its block, rows, maps; each block has a role; what may change. · The resolver: fail, enter, use. · The resolver in memory: what a store, an append, a map's turn makes of it. Nothing of the program's functions is in it. · The resolver in memory: its functions. Nothing of the program's functions is in it. -/
import Derived.Test.YtdhkcdehedbpcaaDoorM20
import Derived.Test.YtdhkcdehedbpcaaDoorM24
import Derived.OneCell
import Derived.Carry
set_option linter.unusedSimpArgs false
set_option linter.unusedVariables false
namespace Go.Proofs.YtdhkcdehedbpcaaDoor
open Go Go.RowKit

/-! ## maps from ints to ints -/

theorem key3 : Maps.Keyed Tryd.prog 3 := Maps.int_keyed int3
theorem key_int {s : Int} (hs : (Lit.int .i64 s).wf = true) : keyOf Tryd.prog 3 (.int .i64 s) = some (.int .i64 s) := Maps.keyOf_int_mk int3 hs
theorem is_keyI (s : Int) : WideAt.IsKeyLit (.int .i64 s) := by simp [WideAt.IsKeyLit]
theorem litI_ne {s u : Int} (h : u ≠ s) : (Lit.int .i64 u) ≠ .int .i64 s := by
  intro e
  injection e with _ e
  exact h e

structure SiD (D : DataW Unit) (M : Int → Option Int) : Prop where
  tidy : Maps.Tidy D
  has : ∀ s : Int, Maps.has D (.int .i64 s) = (M s).isSome
  at_ : ∀ (s : Int) (x : Int), M s = some x → D.atKey (.int .i64 s) (.lit (.int .i64 0)) = .lit (.int .i64 x)

theorem SiD.nil : SiD (.map []) (fun _ => none) := ⟨Maps.tidy_empty, fun s => by simp [Maps.has], fun s x h => by cases h⟩
theorem SiD.put {D : DataW Unit} {M : Int → Option Int} (h : SiD D M) (s : Int) (x : Int) : SiD (D.put (.int .i64 s) (.lit (.int .i64 x))) (mputI M s x) where
  tidy := h.tidy.put (is_keyI s) _
  has := fun u => by
    unfold mputI
    by_cases hu : u = s
    · subst hu
      rw [Maps.has_put_same h.tidy.isMap (is_keyI u), if_pos rfl]; rfl
    · rw [Maps.has_put_other (litI_ne hu), h.has u, if_neg hu]
  at_ := fun u y hy => by
    unfold mputI at hy
    by_cases hu : u = s
    · subst hu
      rw [if_pos rfl] at hy
      cases hy
      rw [Maps.atKey_put_same h.tidy.isMap (is_keyI u)]
    · rw [if_neg hu] at hy
      rw [Maps.atKey_put_other (litI_ne hu)]
      exact h.at_ u y hy

def MI (w : World) (b : Nat) (M : Int → Option Int) (n : Nat) : Prop := ∃ D, w.ownsMap Tryd.prog 3 (plainElem (H := Unit) Tryd.prog 3) b n D ∧ SiD D M
theorem MI.lt {w : World} {b n : Nat} {M : Int → Option Int} (h : MI w b M n) : b < w.heap.size := by
  obtain ⟨D, h1, _⟩ := h
  exact h1.lt
theorem MI.keep {w w' : World} {b n : Nat} {M : Int → Option Int} (h : MI w b M n) (hb : w'.heap[b]? = w.heap[b]?) : MI w' b M n := by
  obtain ⟨D, h1, h2⟩ := h
  obtain ⟨es, clock, hm, r⟩ := h1
  exact ⟨D, ⟨es, clock, hb.trans hm, r⟩, h2⟩
theorem MI.new (w : World) : MI (w.alloc (.map #[] 0)) w.heap.size (fun _ => none) 0 := ⟨.map [], World.ownsMap_made w _ _ _, SiD.nil⟩

/-! ## rows -/

theorem own_keep8 {w w' : World} {base : Nat} {e : TypeId} {size : Nat} {v : Value} {n : Nat} {xs : List Value} (h : w.ownsRow base e size v n xs) (hb : ∀ b, v.ownBlock = some b → w'.heap[b]? = w.heap[b]?) : w'.ownsRow base e size v n xs := by
  refine ⟨h.1, ?_⟩
  rcases h.2 with h1 | ⟨g, cap, cur, e1, hbb, hg, r⟩
  · exact .inl h1
  · subst e1
    exact .inr ⟨g, cap, cur, rfl, hbb, (hb g rfl).trans hg, r⟩
theorem own_setIn {w : World} {base : Nat} {e : TypeId} {size g n cap : Nat} {xs : List Value} (h : w.ownsRow base e size (.slice (some ⟨g, 0, none⟩) n cap) n xs) {j : Nat} (hj : j < n * size) (u : Value) :
    (w.setCell ⟨g, j, none⟩ u).ownsRow base e size (.slice (some ⟨g, 0, none⟩) n cap) n (xs.set j u) := by
  refine ⟨by rw [List.length_set]; exact h.1, .inr ?_⟩
  rcases h.2 with ⟨h1, _⟩ | ⟨g', cap', cur, e1, hbb, hg, h1, h2, h3, h4⟩
  · cases h1
  · cases e1
    refine ⟨g, cap, cur.setIfInBounds j u, rfl, hbb, Blk.set (w := w) (show Blk w g cur e from hg) j u, h1, h2, by simpa using h3, ?_⟩
    rw [Array.toList_setIfInBounds, ← h4, List.take_set]
/-- A row with something in it: its block, its cells. -/
theorem own_some {w : World} {e : TypeId} {size : Nat} {v : Value} {n : Nat} {xs : List Value} (h : w.ownsRow 0 e size v n xs) (hn : 0 < n) : ∃ g cap, v = .slice (some ⟨g, 0, none⟩) n cap ∧ g < w.heap.size ∧ (∀ j, w.frozen? ⟨g, j, none⟩ = false) ∧ ∀ j, j < n * size → w.cell? ⟨g, j, none⟩ = xs[j]? := by
  rcases h.2 with ⟨_, h1⟩ | ⟨g, cap, cur, rfl, hbb, hg, h1, h2, h3, h4⟩
  · omega
  · have hb : Blk w g cur e := hg
    refine ⟨g, cap, rfl, hb.lt, hb.free, fun j hj => ?_⟩
    rw [hb.cell, ← h4, List.getElem?_take, if_pos hj]
    simp
theorem NC.keep {w w' : World} {g o : Nat} {L : List ANode} (h : NC w g o L) (hs : w.heap.size ≤ w'.heap.size) (hb : w'.heap[g]? = w.heap[g]?) : NC w' g o L := by
  refine ⟨Nat.lt_of_lt_of_le h.lt hs, fun i hi j hj => ?_, h.b⟩
  rw [← h.c i hi j hj]
  exact World.cell?_of_block (w := w) (w' := w') (a := ⟨g, o + i * 5 + j, none⟩) hb
theorem PrM.keep {w w' : World} (h : PrM w) (hs : w.heap.size ≤ w'.heap.size) (hb : w'.heap[0]? = w.heap[0]?) : PrM w' := by
  refine ⟨Nat.lt_of_lt_of_le h.1 hs, fun i s hi => ?_⟩
  rw [← h.2 i s hi]
  exact World.cell?_of_block (w := w) (w' := w') (a := ⟨0, i, none⟩) hb

/-- A function with what it has in memory: the slice of what it takes, its map. -/
structure FK where
  f : ZF
  cv : Value
  mv : Value
def fkC (k : FK) : List Value := [.int .i64 k.f.node, .int .i64 k.f.params, .int .i64 k.f.slots, k.cv, .int .i64 k.f.about, k.mv]
def rowK (K : List FK) : List Value := K.flatMap fkC
def zdC (d : ZD) : List Value := [.int .i64 d.fn, .int .i64 d.slot, .bool d.taken]
def rowD (l : List ZD) : List Value := l.flatMap zdC
def prC (u : Int × Int) : List Value := [.int .i64 u.1, .int .i64 u.2]
def rowP (l : List (Int × Int)) : List Value := l.flatMap prC

theorem flat_get8 {α : Type} (f : α → List Value) (s : Nat) (hf : ∀ a, (f a).length = s) : ∀ (l : List α) (i j : Nat) (a : α), l[i]? = some a → j < s → (l.flatMap f)[i * s + j]? = (f a)[j]?
  | [], i, j, a, h, _ => by simp at h
  | b :: l, 0, j, a, h, hj => by
    simp at h
    subst h
    rw [List.flatMap_cons, Nat.zero_mul, Nat.zero_add, List.getElem?_append_left (by rw [hf]; exact hj)]
  | b :: l, i + 1, j, a, h, hj => by
    simp at h
    rw [List.flatMap_cons, List.getElem?_append_right (by rw [hf, Nat.succ_mul]; omega), hf, show (i + 1) * s + j - s = i * s + j by rw [Nat.succ_mul]; omega]
    exact flat_get8 f s hf l i j a h hj
/-- One entry set. -/
theorem flat_set1 {α : Type} (f : α → List Value) (s : Nat) (hf : ∀ a, (f a).length = s) (j : Nat) (hj : j < s) (v : Value) : ∀ (l : List α) (i : Nat) (a b : α), l[i]? = some a → f b = (f a).set j v → (l.set i b).flatMap f = (l.flatMap f).set (i * s + j) v
  | [], i, a, b, h, _ => by simp at h
  | c :: l, 0, a, b, h, hb => by
    simp at h
    subst h
    rw [List.set_cons_zero, List.flatMap_cons, List.flatMap_cons, hb, Nat.zero_mul, Nat.zero_add, List.set_append_left _ _ (by rw [hf]; exact hj)]
  | c :: l, i + 1, a, b, h, hb => by
    simp at h
    rw [List.set_cons_succ, List.flatMap_cons, List.flatMap_cons, flat_set1 f s hf j hj v l i a b h hb, List.set_append_right _ _ (by rw [hf, Nat.succ_mul]; omega), hf, show (i + 1) * s + j - s = i * s + j by rw [Nat.succ_mul]; omega]
theorem fkC_len (k : FK) : (fkC k).length = 6 := rfl
theorem zdC_len (k : ZD) : (zdC k).length = 3 := rfl
theorem prC_len (k : Int × Int) : (prC k).length = 2 := rfl

/-- Where things lie; ρ: each block's role: 0 none of the resolver's, 1 the resolver, 2 functions, 3 uses, 4 globals, 5 declarations, 6 seen, 7 names, 8 + 2i what function i takes, 9 + 2i its map. -/
structure ZB where
  K : List FK
  fv : Value
  uv : Value
  gv : Value
  dv : Value
  sb : Nat
  nb : Nat
  ρ : Nat → Nat

/-- What stays. -/
structure ZX where
  r : Nat
  g : Nat
  o : Nat
  cap : Nat
  ab : Nat
  an : Nat
  L : List ANode
  A : ByteArray → Option Int

def nmO (names : Option (ByteArray → Option Int)) (nb : Nat) : Option Nat := names.map fun _ => nb
abbrev nmV (names : Option (ByteArray → Option Int)) (nb : Nat) : Value := .map (nmO names nb)
def zC (X : ZX) (z : ZS) (B : ZB) : Array Value := #[nmV z.names B.nb, .int .i64 z.fn, .int .i64 z.loops, .slice (some ⟨X.g, X.o, none⟩) X.L.length X.cap, .int .i64 z.next, B.fv, B.uv, B.gv, .map (some X.ab), B.dv, .map (some B.sb), .int .i64 z.fault, .int .i64 z.faulty]

/-- All but the resolver's own block, and but for what has the role 'hole'. -/
structure RX (hole : Nat) (w : World) (X : ZX) (z : ZS) (B : ZB) : Prop where
  rr : B.ρ X.r = 1
  rl : X.r < w.heap.size
  funs : hole ≠ 2 → w.ownsRow 0 118 6 B.fv B.K.length (rowK B.K) ∧ ∀ b, B.fv.ownBlock = some b → B.ρ b = 2
  uses : hole ≠ 3 → w.ownsRow 0 57 2 B.uv z.uses.length (rowP z.uses) ∧ ∀ b, B.uv.ownBlock = some b → B.ρ b = 3
  globs : hole ≠ 4 → w.ownsRow 0 9 1 B.gv z.globals.length (z.globals.map Value.string) ∧ ∀ b, B.gv.ownBlock = some b → B.ρ b = 4
  decl : hole ≠ 5 → w.ownsRow 0 122 3 B.dv z.declared.length (rowD z.declared) ∧ ∀ b, B.dv.ownBlock = some b → B.ρ b = 5
  seen : hole ≠ 6 → MS w B.sb z.seen z.cnt ∧ B.ρ B.sb = 6
  nams : hole ≠ 7 → ∀ m, z.names = some m → MS w B.nb m z.nc ∧ B.ρ B.nb = 7
  caps : ∀ i k, B.K[i]? = some k → hole ≠ 8 + 2 * i → w.ownsRow 0 59 2 k.cv k.f.caps.length (rowP k.f.caps) ∧ ∀ b, k.cv.ownBlock = some b → B.ρ b = 8 + 2 * i
  map0 : ∀ k, B.K[0]? = some k → k.mv = .map none ∧ ∀ d, k.f.cm d = none
  maps : ∀ i k, B.K[i]? = some k → 0 < i → hole ≠ 9 + 2 * i → ∃ b, k.mv = .map (some b) ∧ MI w b k.f.cm k.f.caps.length ∧ B.ρ b = 9 + 2 * i
  nc : NC w X.g X.o X.L ∧ B.ρ X.g = 0
  ah : MS w X.ab X.A X.an ∧ B.ρ X.ab = 0
  pr : PrM w ∧ B.ρ 0 = 0
  top : ∀ b, w.heap.size ≤ b → B.ρ b = 0
  kf : B.K.map FK.f = z.funs
  ul : z.uses.length = X.L.length
  nl : z.next ≤ X.L.length
  ll : X.L.length ≤ 1000
  bd : z.funs.length ≤ 1024 ∧ z.globals.length ≤ 1024 ∧ z.declared.length ≤ 100000 ∧ z.cnt ≤ 100000 ∧ z.nc ≤ 100000
  bf : ∀ f ∈ z.funs, 0 ≤ f.slots ∧ f.slots ≤ 256 ∧ f.caps.length ≤ 256

/-- The resolver in memory. -/
structure RS (w : World) (X : ZX) (z : ZS) (B : ZB) : Prop where
  blk : Blk w X.r (zC X z B) 83
  x : RX 1 w X z B

/-- What may change: blocks with a role, and new ones. -/
structure NX (ρ : Nat → Nat) (w w' : World) (ρ' : Nat → Nat) : Prop where
  os : w'.os = w.os
  tape : w'.tape = w.tape
  output : w'.output = w.output
  size : w.heap.size ≤ w'.heap.size
  block : ∀ b, b < w.heap.size → ρ b = 0 → w'.heap[b]? = w.heap[b]?
  new : ∀ b, b < w.heap.size → ρ b = 0 → ρ' b = 0

theorem NX.refl (ρ : Nat → Nat) (w : World) : NX ρ w w ρ := ⟨rfl, rfl, rfl, Nat.le_refl _, fun _ _ _ => rfl, fun _ _ h => h⟩
theorem NX.trans {ρ ρ1 ρ2 : Nat → Nat} {a b c : World} (h : NX ρ a b ρ1) (k : NX ρ1 b c ρ2) : NX ρ a c ρ2 :=
  ⟨k.os.trans h.os, k.tape.trans h.tape, k.output.trans h.output, Nat.le_trans h.size k.size, fun x hx h0 => (k.block x (Nat.lt_of_lt_of_le hx h.size) (h.new x hx h0)).trans (h.block x hx h0), fun x hx h0 => k.new x (Nat.lt_of_lt_of_le hx h.size) (h.new x hx h0)⟩
theorem NX.of_bw (ρ : Nat → Nat) {w w' : World} (h : Bw w w') : NX ρ w w' ρ := ⟨h.os, h.tape, h.output, h.size, fun b hb _ => h.block b hb, fun _ _ h => h⟩
theorem NX.bw {ρ ρ1 : Nat → Nat} {a b c : World} (h : NX ρ a b ρ1) (k : Bw b c) : NX ρ a c ρ1 := h.trans (NX.of_bw ρ1 k)
theorem NX.set {ρ ρ1 : Nat → Nat} {a w : World} (h : NX ρ a w ρ1) {x : Nat} (hx : ρ1 x ≠ 0) (j : Nat) (v : Value) : NX ρ a (w.setCell ⟨x, j, none⟩ v) ρ1 :=
  h.trans ⟨rfl, rfl, rfl, by simp, fun b _ h0 => Below.heap_setCell w ⟨x, j, none⟩ v b (fun e => hx (by simp only at e; rw [← e]; exact h0)), fun _ _ h => h⟩

section
variable {w w' : World} {X : ZX} {z z' : ZS} {B B' : ZB} {k : Nat}

/-- All but what has the role k stays, where nothing else turns. -/
theorem RX.move (h : RX 1 w X z B) (hk1 : k ≠ 0) (hs : w.heap.size ≤ w'.heap.size) (hk : ∀ b, b < w.heap.size → B.ρ b ≠ k → w'.heap[b]? = w.heap[b]?) {ρ' : Nat → Nat} (hρ : ∀ b, b < w.heap.size → ρ' b = B.ρ b) (ht : ∀ b, w'.heap.size ≤ b → ρ' b = 0) : RX k w' X z { B with ρ := ρ' } := by
  have row : ∀ {j e size n : Nat} {v : Value} {xs : List Value}, w.ownsRow 0 e size v n xs ∧ (∀ b, v.ownBlock = some b → B.ρ b = j) → k ≠ j → w'.ownsRow 0 e size v n xs ∧ (∀ b, v.ownBlock = some b → ρ' b = j) := by
    intro j e size n v xs h1 hj
    exact ⟨own_keep8 h1.1 (fun b hb => hk b (h1.1.lt b hb).2 (by rw [h1.2 b hb]; exact Ne.symm hj)), fun b hb => (hρ b (h1.1.lt b hb).2).trans (h1.2 b hb)⟩
  refine ⟨(hρ _ h.rl).trans h.rr, Nat.lt_of_lt_of_le h.rl hs, fun e => row (h.funs (by decide)) e, fun e => row (h.uses (by decide)) e, fun e => row (h.globs (by decide)) e, fun e => row (h.decl (by decide)) e, ?_, ?_, fun i q hq e => row (h.caps i q hq (by omega)) e, h.map0, ?_, ?_, ?_, ?_, ht, h.kf, h.ul, h.nl, h.ll, h.bd, h.bf⟩
  · intro e
    obtain ⟨h1, h2⟩ := h.seen (by decide)
    exact ⟨h1.keep (hk _ h1.lt (by rw [h2]; exact Ne.symm e)), (hρ _ h1.lt).trans h2⟩
  · intro e m hm
    obtain ⟨h1, h2⟩ := h.nams (by decide) m hm
    exact ⟨h1.keep (hk _ h1.lt (by rw [h2]; exact Ne.symm e)), (hρ _ h1.lt).trans h2⟩
  · intro i q hq hi e
    obtain ⟨b, h1, h2, h3⟩ := h.maps i q hq hi (by omega)
    exact ⟨b, h1, h2.keep (hk _ h2.lt (by rw [h3]; exact Ne.symm e)), (hρ _ h2.lt).trans h3⟩
  · exact ⟨h.nc.1.keep hs (hk _ h.nc.1.lt (by rw [h.nc.2]; exact Ne.symm hk1)), (hρ _ h.nc.1.lt).trans h.nc.2⟩
  · exact ⟨h.ah.1.keep (hk _ h.ah.1.lt (by rw [h.ah.2]; exact Ne.symm hk1)), (hρ _ h.ah.1.lt).trans h.ah.2⟩
  · exact ⟨h.pr.1.keep hs (hk _ h.pr.1.1 (by rw [h.pr.2]; exact Ne.symm hk1)), (hρ _ h.pr.1.1).trans h.pr.2⟩

/-- Nothing but the resolver's own block has turned. -/
theorem RX.keep (h : RX 1 w X z B) (hs : w.heap.size ≤ w'.heap.size) (hk : ∀ b, b < w.heap.size → b ≠ X.r → w'.heap[b]? = w.heap[b]?) : RX 1 w' X z B :=
  h.move (k := 1) (by decide) hs (fun b hb hr => hk b hb (fun e => hr (e ▸ h.rr))) (fun _ _ => rfl) (fun b hb => h.top b (Nat.le_trans hs hb))
theorem RX.bw (h : RX 1 w X z B) (k : Bw w w') : RX 1 w' X z B := h.keep k.size (fun b hb _ => k.block b hb)
theorem RS.bw (h : RS w X z B) (k : Bw w w') : RS w' X z B := ⟨h.blk.bw k, h.x.bw k⟩
theorem RX.setR (h : RX 1 w X z B) (j : Nat) (v : Value) : RX 1 (w.setCell ⟨X.r, j, none⟩ v) X z B := h.keep (by simp) (fun b _ hb => Below.heap_setCell w _ v b hb)
/-- Other numbers in the resolver's own block. -/
theorem RX.nums (h : RX 1 w X z B) {next : Nat} (hn : next ≤ X.L.length) (fn : Nat) (loops fault : Int) (faulty : Nat) : RX 1 w X { z with next := next, fn := fn, loops := loops, fault := fault, faulty := faulty } B :=
  ⟨h.rr, h.rl, h.funs, h.uses, h.globs, h.decl, h.seen, h.nams, h.caps, h.map0, h.maps, h.nc, h.ah, h.pr, h.top, h.kf, h.ul, hn, h.ll, h.bd, h.bf⟩
theorem RS.rn (h : RS w X z B) : B.ρ X.r ≠ 0 := by rw [h.x.rr]; decide
end

/-- What a call of the resolver comes to. -/
def Zp (w : World) (X : ZX) (B : ZB) (z' : ZS) (w' : World) : Prop := ∃ B', RS w' X z' B' ∧ NX B.ρ w w' B'.ρ

end Go.Proofs.YtdhkcdehedbpcaaDoor

set_option linter.unusedSimpArgs false
set_option linter.unusedVariables false
namespace Go.Proofs.YtdhkcdehedbpcaaDoor
open Go Go.RowKit

theorem NC.text {w : World} {g o : Nat} {L : List ANode} (h : NC w g o L) {i : Nat} (hi : i < L.length) : w.cell? ⟨g, o + i * 5 + 2, none⟩ = some (.string (zT L i)) ∧ (zT L i).size ≤ maxLen := by
  have e : zN L i = L[i] := by unfold zN; rw [List.getD_eq_getElem?_getD, List.getElem?_eq_getElem hi]; rfl
  refine ⟨?_, ?_⟩
  · rw [h.c i hi 2 (by omega)]; unfold zT; rw [e]; rfl
  · unfold zT; rw [strOfNums_size, e]; have := (h.b i hi).2.2; unfold maxLen; omega
theorem NC.kind {w : World} {g o : Nat} {L : List ANode} (h : NC w g o L) {i : Nat} (hi : i < L.length) : w.cell? ⟨g, o + i * 5, none⟩ = some (.int .i64 (zN L i).1) := by
  have e : zN L i = L[i] := by unfold zN; rw [List.getD_eq_getElem?_getD, List.getElem?_eq_getElem hi]; rfl
  have := h.c i hi 0 (by omega)
  rw [Nat.add_zero] at this
  rw [this, e]; rfl
theorem NC.cnt {w : World} {g o : Nat} {L : List ANode} (h : NC w g o L) {i : Nat} (hi : i < L.length) : w.cell? ⟨g, o + i * 5 + 1, none⟩ = some (.int .i64 (zN L i).2.1) := by
  have e : zN L i = L[i] := by unfold zN; rw [List.getD_eq_getElem?_getD, List.getElem?_eq_getElem hi]; rfl
  rw [h.c i hi 1 (by omega), e]; rfl
theorem NC.num {w : World} {g o : Nat} {L : List ANode} (h : NC w g o L) {i : Nat} (hi : i < L.length) : w.cell? ⟨g, o + i * 5 + 3, none⟩ = some (.int .i64 (zN L i).2.2.2.1) := by
  have e : zN L i = L[i] := by unfold zN; rw [List.getD_eq_getElem?_getD, List.getElem?_eq_getElem hi]; rfl
  rw [h.c i hi 3 (by omega), e]; rfl

section
variable {w : World} {X : ZX} {z : ZS} {B : ZB}

theorem RS.failed (h : RS w X z B) (h0 : z.fault = 0) (i : Nat) (e : Int) : RS ((w.setCell ⟨X.r, 11, none⟩ (.int .i64 e)).setCell ⟨X.r, 12, none⟩ (.int .i64 i)) X (zfail z i e) B := by
  have hz : zfail z i e = { z with fault := e, faulty := i } := by unfold zfail; rw [if_pos h0]
  rw [hz]
  exact ⟨(h.blk.set 11 _).set 12 _, ((h.x.setR 11 _).setR 12 _).nums h.x.nl z.fn z.loops e i⟩

set_option maxRecDepth 100000 in
set_option maxHeartbeats 4000000 in
theorem fail_any (h : RS w X z B) (i : Nat) (e : Int) : Calls Tryd.prog 94 #[.pointer (some ⟨X.r, 0, none⟩), .int .i64 i, .int .i64 e] w fun e' w' => e' = .returned (.tuple #[]) ∧ RS w' X (zfail z i e) B ∧ NX B.ρ w w' B.ρ := by
  have c11 : w.cell? ⟨X.r, 11, none⟩ = some (.int .i64 z.fault) := h.blk.cell 11
  have c12 : w.cell? ⟨X.r, 12, none⟩ = some (.int .i64 z.faulty) := h.blk.cell 12
  have hf := h.blk.free
  have hl := h.blk.lt
  by_cases h0 : z.fault = 0
  · have F := hid (h.failed h0 i e)
    have N := hid (((NX.refl B.ρ w).set h.rn 11 (.int .i64 e)).set h.rn 12 (.int .i64 i))
    have e0 : (z.fault == 0) = true := by simpa using h0
    clear h h0
    go_enter Tryd.func94, Tryd.ntmps94
    go_wp2
    all_goals go_end0
    all_goals exact ⟨rfl, F.out, N.out⟩
  · have hz : zfail z i e = z := by unfold zfail; rw [if_neg h0]
    rw [hz]
    have F := hid h
    have N := hid (NX.refl B.ρ w)
    have e0 : (z.fault == 0) = false := by simpa using h0
    clear h h0
    go_enter Tryd.func94, Tryd.ntmps94
    go_wp2
    all_goals go_end0
    all_goals exact ⟨rfl, F.out, N.out⟩

set_option maxRecDepth 100000 in
set_option maxHeartbeats 4000000 in
theorem use_any (w : World) (d : ZD) : Calls Tryd.prog 59 #[.agg #[.int .i64 d.fn, .int .i64 d.slot, .bool d.taken]] w fun e w' => e = .returned (.agg #[.int .i64 (if d.taken then 2 else 1), .int .i64 d.slot]) ∧ Bw w w' := by
  obtain ⟨fn, slot, tk⟩ := d
  cases tk
  all_goals
    go_enter Tryd.func59, Tryd.ntmps59
    go_wp2
    all_goals refine bodyPost_ret (v := .agg _) (by simp [results, Tryd.results59, go_sem, *]; rfl) rfl ?_
    all_goals exact ⟨rfl, by repeat (first | exact Bw.refl _ | apply Bw.alloc | apply Bw.drewN | apply Bw.drew | (refine Below.setCell ?_ (by simp) _))⟩

end
end Go.Proofs.YtdhkcdehedbpcaaDoor

set_option linter.unusedSimpArgs false
set_option linter.unusedVariables false
namespace Go.Proofs.YtdhkcdehedbpcaaDoor
open Go Go.RowKit

theorem info_parts8 {P : Program} {t : TypeId} {z : Value} {n b : Nat} (h : (P.info? t).map (fun i => (i.zero, i.size, i.bytes)) = some (some z, n, b)) : ∃ i, P.info? t = some i ∧ i.zero = some z ∧ i.size = n ∧ i.bytes = b := by
  obtain ⟨i, hi, e⟩ := Option.map_eq_some_iff.1 h
  simp only [Prod.mk.injEq] at e
  exact ⟨i, hi, e.1, e.2.1, e.2.2⟩
theorem infoUs : (Tryd.prog.info? 57).map (fun i => (i.zero, i.size, i.bytes)) = some (some (.agg #[.int .i64 0, .int .i64 0]), 2, 16) := by kernel_rfl
theorem infoDe : (Tryd.prog.info? 122).map (fun i => (i.zero, i.size, i.bytes)) = some (some (.agg #[.int .i64 0, .int .i64 0, .bool false]), 3, 24) := by kernel_rfl
theorem infoCa : (Tryd.prog.info? 59).map (fun i => (i.zero, i.size, i.bytes)) = some (some (.agg #[.int .i64 0, .int .i64 0]), 2, 16) := by kernel_rfl
theorem infoFu : (Tryd.prog.info? 118).map (fun i => (i.zero, i.size, i.bytes)) = some (some (.agg #[.int .i64 0, .int .i64 0, .int .i64 0, .slice none 0 0, .int .i64 0, .map none]), 6, 64) := by kernel_rfl
theorem infoFn : (Tryd.prog.info? 49).map (fun i => (i.zero, i.size, i.bytes)) = some (some (.agg #[.int .i64 0, .int .i64 0, .int .i64 0, .slice none 0 0]), 4, 48) := by kernel_rfl
theorem undD8 : Tryd.prog.underlying 81 = some (.slice 122) := by kernel_rfl
theorem undC8 : Tryd.prog.underlying 47 = some (.slice 59) := by kernel_rfl
theorem undF8 : Tryd.prog.underlying 80 = some (.slice 118) := by kernel_rfl
theorem undFn8 : Tryd.prog.underlying 27 = some (.slice 49) := by kernel_rfl
theorem undMi : Tryd.prog.underlying 116 = some (.map 3 3) := by kernel_rfl

section
variable {w w' : World} {X : ZX} {z : ZS} {B : ZB} {k : Nat}

theorem RS.turn {x : Nat} (h : RS w X z B) (hg : w.grownBy w' (some x)) (hx : B.ρ x = k) (h0 : k ≠ 0) (h1 : k ≠ 1) : Blk w' X.r (zC X z B) 83 ∧ RX k w' X z B ∧ NX B.ρ w w' B.ρ := by
  have hk : ∀ b, b < w.heap.size → B.ρ b ≠ k → w'.heap[b]? = w.heap[b]? := fun b hb hr => hg.block b hb (fun e => hr (by cases e; exact hx))
  exact ⟨h.blk.keep (hk _ h.x.rl (by rw [h.x.rr]; exact Ne.symm h1)), h.x.move h0 hg.size hk (fun _ _ => rfl) (fun b hb => h.x.top b (Nat.le_trans hg.size hb)), ⟨hg.os, hg.tape, hg.output, hg.size, fun b hb hr => hk b hb (by rw [hr]; exact Ne.symm h0), fun _ _ h => h⟩⟩

def upd (ρ : Nat → Nat) (v : Value) (k : Nat) : Nat → Nat := fun b => if v.ownBlock = some b then k else ρ b
theorem upd_own (ρ : Nat → Nat) (v : Value) (k b : Nat) (h : v.ownBlock = some b) : upd ρ v k b = k := by unfold upd; rw [if_pos h]

theorem RS.grow {v v' : Value} (h : RS w X z B) (hg : w.grownBy w' v.ownBlock) (hv : ∀ b, v.ownBlock = some b → B.ρ b = k) (hvb : v'.ownBlock = v.ownBlock ∨ ∀ b, v'.ownBlock = some b → w.heap.size ≤ b) (hlt : ∀ b, v'.ownBlock = some b → b < w'.heap.size) (h0 : k ≠ 0) (h1 : k ≠ 1) :
    Blk w' X.r (zC X z B) 83 ∧ RX k w' X z { B with ρ := upd B.ρ v' k } ∧ NX B.ρ w w' (upd B.ρ v' k) := by
  have hk : ∀ b, b < w.heap.size → B.ρ b ≠ k → w'.heap[b]? = w.heap[b]? := fun b hb hr => hg.block b hb (fun e => hr (hv b e.symm))
  have hρ : ∀ b, b < w.heap.size → upd B.ρ v' k b = B.ρ b := fun b hb => by
    unfold upd
    split
    · rename_i e
      rcases hvb with h2 | h2
      · exact (hv b (h2 ▸ e)).symm
      · have := h2 b e; omega
    · rfl
  refine ⟨h.blk.keep (hk _ h.x.rl (by rw [h.x.rr]; exact Ne.symm h1)), h.x.move h0 hg.size hk hρ (fun b hb => ?_), ⟨hg.os, hg.tape, hg.output, hg.size, fun b hb hr => hk b hb (by rw [hr]; exact Ne.symm h0), fun b hb h => (hρ b hb).trans h⟩⟩
  unfold upd
  rw [if_neg (fun e => by have := hlt b e; omega)]
  exact h.x.top b (Nat.le_trans hg.size hb)

/-! ## closing -/

theorem RX.seenc (h : RX 6 w X z B) {M : ByteArray → Option Int} {n : Nat} (hm : MS w B.sb M n) (hr : B.ρ B.sb = 6) (hn : n ≤ 100000) : RX 1 w X { z with seen := M, cnt := n } B :=
  ⟨h.rr, h.rl, fun _ => h.funs (by decide), fun _ => h.uses (by decide), fun _ => h.globs (by decide), fun _ => h.decl (by decide), fun _ => ⟨hm, hr⟩, fun _ => h.nams (by decide), fun i q hq _ => h.caps i q hq (by omega), h.map0, fun i q hq hi _ => h.maps i q hq hi (by omega), h.nc, h.ah, h.pr, h.top, h.kf, h.ul, h.nl, h.ll, ⟨h.bd.1, h.bd.2.1, h.bd.2.2.1, hn, h.bd.2.2.2.2⟩, h.bf⟩
theorem RX.namsc (h : RX 7 w X z B) {M : ByteArray → Option Int} {n : Nat} (hm : MS w B.nb M n) (hr : B.ρ B.nb = 7) (hn : n ≤ 100000) : RX 1 w X { z with names := some M, nc := n } B :=
  ⟨h.rr, h.rl, fun _ => h.funs (by decide), fun _ => h.uses (by decide), fun _ => h.globs (by decide), fun _ => h.decl (by decide), fun _ => h.seen (by decide), fun _ m e => by cases e; exact ⟨hm, hr⟩, fun i q hq _ => h.caps i q hq (by omega), h.map0, fun i q hq hi _ => h.maps i q hq hi (by omega), h.nc, h.ah, h.pr, h.top, h.kf, h.ul, h.nl, h.ll, ⟨h.bd.1, h.bd.2.1, h.bd.2.2.1, h.bd.2.2.2.1, hn⟩, h.bf⟩
theorem RX.usesc (h : RX 3 w X z B) {us : List (Int × Int)} {v : Value} (hu : w.ownsRow 0 57 2 v us.length (rowP us)) (hr : ∀ b, v.ownBlock = some b → B.ρ b = 3) (hl : us.length = X.L.length) : RX 1 w X { z with uses := us } { B with uv := v } :=
  ⟨h.rr, h.rl, fun _ => h.funs (by decide), fun _ => ⟨hu, hr⟩, fun _ => h.globs (by decide), fun _ => h.decl (by decide), fun _ => h.seen (by decide), fun _ => h.nams (by decide), fun i q hq _ => h.caps i q hq (by omega), h.map0, fun i q hq hi _ => h.maps i q hq hi (by omega), h.nc, h.ah, h.pr, h.top, h.kf, hl, h.nl, h.ll, h.bd, h.bf⟩
theorem RX.globsc (h : RX 4 w X z B) {gs : List ByteArray} {v : Value} (hu : w.ownsRow 0 9 1 v gs.length (gs.map Value.string)) (hr : ∀ b, v.ownBlock = some b → B.ρ b = 4) (hl : gs.length ≤ 1024) : RX 1 w X { z with globals := gs } { B with gv := v } :=
  ⟨h.rr, h.rl, fun _ => h.funs (by decide), fun _ => h.uses (by decide), fun _ => ⟨hu, hr⟩, fun _ => h.decl (by decide), fun _ => h.seen (by decide), fun _ => h.nams (by decide), fun i q hq _ => h.caps i q hq (by omega), h.map0, fun i q hq hi _ => h.maps i q hq hi (by omega), h.nc, h.ah, h.pr, h.top, h.kf, h.ul, h.nl, h.ll, ⟨h.bd.1, hl, h.bd.2.2⟩, h.bf⟩
theorem RX.declc (h : RX 5 w X z B) {ds : List ZD} {v : Value} (hu : w.ownsRow 0 122 3 v ds.length (rowD ds)) (hr : ∀ b, v.ownBlock = some b → B.ρ b = 5) (hl : ds.length ≤ 100000) : RX 1 w X { z with declared := ds } { B with dv := v } :=
  ⟨h.rr, h.rl, fun _ => h.funs (by decide), fun _ => h.uses (by decide), fun _ => h.globs (by decide), fun _ => ⟨hu, hr⟩, fun _ => h.seen (by decide), fun _ => h.nams (by decide), fun i q hq _ => h.caps i q hq (by omega), h.map0, fun i q hq hi _ => h.maps i q hq hi (by omega), h.nc, h.ah, h.pr, h.top, h.kf, h.ul, h.nl, h.ll, ⟨h.bd.1, h.bd.2.1, hl, h.bd.2.2.2⟩, h.bf⟩

/-! ## what stands where -/

theorem RS.us (h : RS w X z B) {i : Nat} (hi : i < X.L.length) : ∃ ub uc u, z.uses[i]? = some u ∧ B.uv = .slice (some ⟨ub, 0, none⟩) X.L.length uc ∧ w.cell? ⟨X.r, 6, none⟩ = some (.slice (some ⟨ub, 0, none⟩) X.L.length uc) ∧ w.cell? ⟨ub, i * 2, none⟩ = some (.int .i64 u.1) ∧ w.cell? ⟨ub, i * 2 + 1, none⟩ = some (.int .i64 u.2) ∧ ub < w.heap.size ∧ (∀ j, w.frozen? ⟨ub, j, none⟩ = false) ∧ B.ρ ub = 3 ∧ ub ≠ X.r := by
  obtain ⟨hu, hr⟩ := h.x.uses (by decide)
  have hul := h.x.ul
  obtain ⟨ub, uc, hue, hul2, huf, huc⟩ := own_some hu (by omega)
  obtain ⟨u, hu1⟩ : ∃ u, z.uses[i]? = some u := ⟨_, List.getElem?_eq_getElem (by omega)⟩
  have hρ : B.ρ ub = 3 := hr ub (by rw [hue]; rfl)
  rw [hul] at hue
  refine ⟨ub, uc, u, hu1, hue, ?_, ?_, ?_, hul2, huf, hρ, fun e => by rw [e, h.x.rr] at hρ; cases hρ⟩
  · have := h.blk.cell 6
    rw [this]
    exact congrArg some hue
  · rw [huc _ (by omega)]; exact flat_get8 prC 2 prC_len z.uses i 0 u hu1 (by decide)
  · rw [huc _ (by omega)]; exact flat_get8 prC 2 prC_len z.uses i 1 u hu1 (by decide)

/-- The same, where the row is known. -/
theorem RS.us2 (h : RS w X z B) {i ub uc : Nat} (hi : i < X.L.length) (hv : B.uv = .slice (some ⟨ub, 0, none⟩) X.L.length uc) : ∃ u : Int × Int, w.cell? ⟨X.r, 6, none⟩ = some (.slice (some ⟨ub, 0, none⟩) X.L.length uc) ∧ w.cell? ⟨ub, i * 2, none⟩ = some (.int .i64 u.1) ∧ w.cell? ⟨ub, i * 2 + 1, none⟩ = some (.int .i64 u.2) ∧ ub < w.heap.size ∧ (∀ j, w.frozen? ⟨ub, j, none⟩ = false) ∧ ub ≠ X.r := by
  obtain ⟨ub', uc', u, h1, h2, h3, h4, h5, h6, h7, h8, h9⟩ := h.us hi
  rw [hv] at h2
  cases h2
  exact ⟨u, h3, h4, h5, h6, h7, h9⟩
theorem new_news (w : World) (cs : List Value) (e : TypeId) : ∀ (j : Nat) (u : Value), cs[j]? = some u → (w.alloc (.cells cs.toArray e)).cell? ((⟨w.heap.size, 0, none⟩ : Addr).add j) = some u := by
  intro j u hj
  have e1 : (⟨w.heap.size, 0, none⟩ : Addr).add j = ⟨w.heap.size, j, none⟩ := by
    unfold Addr.add
    split
    · rename_i h0; subst h0; rfl
    · simp
  rw [e1, (Blk.new w cs.toArray e).cell, List.getElem?_toArray, hj]
theorem own_alloc8 {e : TypeId} {size n : Nat} {v : Value} {xs : List Value} (h : w.ownsRow 0 e size v n xs) (o : Obj) : (w.alloc o).ownsRow 0 e size v n xs := own_keep8 h (fun b hb => Below.heap_alloc w o b (h.lt b hb).2)

/-- An entry of two numbers is written over. -/
theorem own_put2 {e g n cap : Nat} {l : List (Int × Int)} (h : w.ownsRow 0 e 2 (.slice (some ⟨g, 0, none⟩) n cap) n (rowP l)) {i : Nat} (hi : i < l.length) (hn : l.length = n) (a b : Int) :
    ((w.setCell ⟨g, i * 2, none⟩ (.int .i64 a)).setCell ⟨g, i * 2 + 1, none⟩ (.int .i64 b)).ownsRow 0 e 2 (.slice (some ⟨g, 0, none⟩) n cap) n (rowP (l.set i (a, b))) := by
  obtain ⟨u, hu⟩ : ∃ u, l[i]? = some u := ⟨_, List.getElem?_eq_getElem hi⟩
  have h1 := own_setIn h (j := i * 2) (by omega) (.int .i64 a)
  have e1 : (rowP l).set (i * 2) (.int .i64 a) = rowP (l.set i (a, u.2)) := (flat_set1 prC 2 prC_len 0 (by decide) (.int .i64 a) l i u (a, u.2) hu rfl).symm
  rw [e1] at h1
  have h2 := own_setIn h1 (j := i * 2 + 1) (by omega) (.int .i64 b)
  have e2 : (rowP (l.set i (a, u.2))).set (i * 2 + 1) (.int .i64 b) = rowP ((l.set i (a, u.2)).set i (a, b)) := (flat_set1 prC 2 prC_len 1 (by decide) (.int .i64 b) (l.set i (a, u.2)) i (a, u.2) (a, b) (by rw [List.getElem?_set_self hi]) rfl).symm
  rw [e2, List.set_set] at h2
  exact h2

theorem RS.use (h : RS w X z B) {i ub uc : Nat} (hi : i < X.L.length) (hv : B.uv = .slice (some ⟨ub, 0, none⟩) X.L.length uc) (a b : Int) :
    RS ((w.setCell ⟨ub, i * 2, none⟩ (.int .i64 a)).setCell ⟨ub, i * 2 + 1, none⟩ (.int .i64 b)) X (zuse z i (a, b)) B ∧ NX B.ρ w ((w.setCell ⟨ub, i * 2, none⟩ (.int .i64 a)).setCell ⟨ub, i * 2 + 1, none⟩ (.int .i64 b)) B.ρ := by
  obtain ⟨hu, hr⟩ := h.x.uses (by decide)
  have hρ : B.ρ ub = 3 := hr ub (by rw [hv]; rfl)
  have hg : w.grownBy ((w.setCell ⟨ub, i * 2, none⟩ (.int .i64 a)).setCell ⟨ub, i * 2 + 1, none⟩ (.int .i64 b)) (some ub) :=
    ⟨rfl, rfl, rfl, by simp [World.setCell], fun q _ hne => by
      rw [Below.heap_setCell _ _ _ q (fun e => hne (by rw [e])), Below.heap_setCell _ _ _ q (fun e => hne (by rw [e]))]⟩
  obtain ⟨h1, h2, h3⟩ := h.turn hg hρ (by decide) (by decide)
  have hul := h.x.ul
  rw [hv] at hu
  rw [hul] at hu
  refine ⟨⟨h1, ?_⟩, h3⟩
  have h4 := h2.usesc (us := z.uses.set i (a, b)) (v := B.uv) (by rw [List.length_set, hul, hv]; exact own_put2 hu (by omega) hul a b) hr (by rw [List.length_set]; exact hul)
  exact h4

/-- A map has turned. -/
theorem RS.see (h : RS w X z B) (ht : w.mapTurned w' B.sb) {M : ByteArray → Option Int} {n : Nat} (hm : MS w' B.sb M n) (hn : n ≤ 100000) : RS w' X { z with seen := M, cnt := n } B ∧ NX B.ρ w w' B.ρ := by
  have hr := (h.x.seen (by decide)).2
  obtain ⟨h1, h2, h3⟩ := h.turn ht.grown hr (by decide) (by decide)
  exact ⟨⟨h1, h2.seenc hm hr hn⟩, h3⟩
theorem RS.nam (h : RS w X z B) {m : ByteArray → Option Int} (hz : z.names = some m) (ht : w.mapTurned w' B.nb) {M : ByteArray → Option Int} {n : Nat} (hm : MS w' B.nb M n) (hn : n ≤ 100000) : RS w' X { z with names := some M, nc := n } B ∧ NX B.ρ w w' B.ρ := by
  have hr := (h.x.nams (by decide) m hz).2
  obtain ⟨h1, h2, h3⟩ := h.turn ht.grown hr (by decide) (by decide)
  refine ⟨⟨?_, h2.namsc hm hr hn⟩, h3⟩
  have e : zC X { z with names := some M, nc := n } B = zC X z B := by unfold zC; simp [nmO, hz]
  rw [e]
  exact h1

/-- A text is put behind the globals. -/
theorem RS.glob {n : Nat} {v : Value} (h : RS w X z B) (hv : B.gv = v) (hn : z.globals.length = n) {v' : Value} (s : ByteArray) (hl : n < 1024) (ho : w'.ownsRow 0 9 1 v' (n + 1) (z.globals.map Value.string ++ [.string s])) (hg : w.grownBy w' v.ownBlock) (hvb : v'.ownBlock = v.ownBlock ∨ ∀ b, v'.ownBlock = some b → w.heap.size ≤ b) :
    ∃ ρ', RS (w'.setCell ⟨X.r, 7, none⟩ v') X { z with globals := z.globals ++ [s] } { B with gv := v', ρ := ρ' } ∧ NX B.ρ w (w'.setCell ⟨X.r, 7, none⟩ v') ρ' ∧ w'.cell? ⟨X.r, 7, none⟩ = some v ∧ X.r < w'.heap.size ∧ w'.frozen? ⟨X.r, 7, none⟩ = false := by
  subst hv hn
  obtain ⟨hu, hr⟩ := h.x.globs (by decide)
  obtain ⟨h1, h2, h3⟩ := h.grow hg hr hvb (fun b hb => (ho.lt b hb).2) (by decide) (by decide)
  have h4 := h2.globsc (gs := z.globals ++ [s]) (v := v') (by rw [List.length_append, List.map_append]; exact ho) (fun b hb => upd_own _ _ _ _ hb) (by rw [List.length_append]; simp; omega)
  refine ⟨_, ⟨h1.set 7 v', h4.setR 7 v'⟩, h3.set (fun e => absurd (h4.rr.symm.trans e) (by decide)) 7 v', h1.cell 7, h1.lt, h1.free 7⟩
/-- A declaration is put behind the others. -/
theorem RS.dec {n : Nat} {v : Value} (h : RS w X z B) (hv : B.dv = v) (hn : z.declared.length = n) {v' : Value} (d : ZD) (hl : n < 100000) (ho : w'.ownsRow 0 122 3 v' (n + 1) (rowD z.declared ++ zdC d)) (hg : w.grownBy w' v.ownBlock) (hvb : v'.ownBlock = v.ownBlock ∨ ∀ b, v'.ownBlock = some b → w.heap.size ≤ b) :
    ∃ ρ', RS (w'.setCell ⟨X.r, 9, none⟩ v') X { z with declared := z.declared ++ [d] } { B with dv := v', ρ := ρ' } ∧ NX B.ρ w (w'.setCell ⟨X.r, 9, none⟩ v') ρ' ∧ w'.cell? ⟨X.r, 9, none⟩ = some v ∧ X.r < w'.heap.size ∧ w'.frozen? ⟨X.r, 9, none⟩ = false := by
  subst hv hn
  obtain ⟨hu, hr⟩ := h.x.decl (by decide)
  obtain ⟨h1, h2, h3⟩ := h.grow hg hr hvb (fun b hb => (ho.lt b hb).2) (by decide) (by decide)
  have h4 := h2.declc (ds := z.declared ++ [d]) (v := v') (by unfold rowD at ho ⊢; rw [List.length_append, List.flatMap_append, List.flatMap_singleton]; exact ho) (fun b hb => upd_own _ _ _ _ hb) (by rw [List.length_append]; simp; omega)
  refine ⟨_, ⟨h1.set 9 v', h4.setR 9 v'⟩, h3.set (fun e => absurd (h4.rr.symm.trans e) (by decide)) 9 v', h1.cell 9, h1.lt, h1.free 9⟩

end
end Go.Proofs.YtdhkcdehedbpcaaDoor

set_option linter.unusedSimpArgs false
set_option linter.unusedVariables false
namespace Go.Proofs.YtdhkcdehedbpcaaDoor
open Go Go.RowKit
section
variable {w w' : World} {X : ZX} {z : ZS} {B : ZB}

/-- A function's cells. -/
structure FuM (w : World) (X : ZX) (B : ZB) (g fb fc : Nat) (k : FK) : Prop where
  kk : B.K[g]? = some k
  fv : B.fv = .slice (some ⟨fb, 0, none⟩) B.K.length fc
  c5 : w.cell? ⟨X.r, 5, none⟩ = some (.slice (some ⟨fb, 0, none⟩) B.K.length fc)
  c : ∀ j, j < 6 → w.cell? ⟨fb, g * 6 + j, none⟩ = (fkC k)[j]?
  lt : fb < w.heap.size
  fz : ∀ j, w.frozen? ⟨fb, j, none⟩ = false
  ρ : B.ρ fb = 2
  ne : fb ≠ X.r
  gl : g < B.K.length

theorem RS.fu (h : RS w X z B) {g : Nat} {f : ZF} (hg : z.funs[g]? = some f) : ∃ fb fc k, FuM w X B g fb fc k ∧ k.f = f := by
  have hkf := h.x.kf
  rw [← hkf, List.getElem?_map] at hg
  obtain ⟨k, hk, rfl⟩ := Option.map_eq_some_iff.1 hg
  have hgl : g < B.K.length := (List.getElem?_eq_some_iff.1 hk).1
  obtain ⟨hu, hr⟩ := h.x.funs (by decide)
  obtain ⟨fb, fc, hue, hul, huf, huc⟩ := own_some hu (by omega)
  have hρ : B.ρ fb = 2 := hr fb (by rw [hue]; rfl)
  refine ⟨fb, fc, k, ⟨hk, hue, ?_, fun j hj => ?_, hul, huf, hρ, (fun e => by rw [e, h.x.rr] at hρ; cases hρ), hgl⟩, rfl⟩
  · have := h.blk.cell 5
    rw [this]
    exact congrArg some hue
  · rw [huc _ (by omega)]
    exact flat_get8 fkC 6 fkC_len B.K g j k hk hj

/-- The same function, where its row is known. -/
theorem RS.fu2 (h : RS w X z B) {g fb fc n : Nat} {k : FK} (hk : B.K[g]? = some k) (hv : B.fv = .slice (some ⟨fb, 0, none⟩) n fc) : FuM w X B g fb fc k := by
  have hg : z.funs[g]? = some k.f := by rw [← h.x.kf, List.getElem?_map, hk]; rfl
  obtain ⟨fb', fc', k', h1, h2⟩ := h.fu hg
  have e1 := h1.fv
  rw [hv] at e1
  cases e1
  have e2 := h1.kk
  rw [hk] at e2
  cases e2
  exact h1

/-- A number of a function is written over. -/
theorem RS.setF (h : RS w X z B) {g fb fc j : Nat} {k : FK} (hm : FuM w X B g fb fc k) (hj : j < 6) {f' : ZF} {v : Value} (hc : fkC { k with f := f' } = (fkC k).set j v) (h1 : f'.caps = k.f.caps) (h2 : f'.cm = k.f.cm) (h3 : 0 ≤ f'.slots ∧ f'.slots ≤ 256) :
    RS (w.setCell ⟨fb, g * 6 + j, none⟩ v) X { z with funs := z.funs.set g f' } { B with K := B.K.set g { k with f := f' } } ∧ NX B.ρ w (w.setCell ⟨fb, g * 6 + j, none⟩ v) B.ρ := by
  obtain ⟨t1, t2, t3⟩ := h.turn (grown_set w fb (g * 6 + j) v) hm.ρ (by decide) (by decide)
  obtain ⟨hu, hr⟩ := h.x.funs (by decide)
  have hgl := hm.gl
  have hkk := hm.kk
  rw [hm.fv] at hu
  have hrow := own_setIn hu (j := g * 6 + j) (by omega) v
  have e1 : (rowK B.K).set (g * 6 + j) v = rowK (B.K.set g { k with f := f' }) := (flat_set1 fkC 6 fkC_len j hj v B.K g k _ hkk hc).symm
  rw [e1] at hrow
  have hget : ∀ i q, (B.K.set g { k with f := f' })[i]? = some q → (i = g ∧ q = { k with f := f' }) ∨ (i ≠ g ∧ B.K[i]? = some q) := by
    intro i q hq
    by_cases e : i = g
    · subst e
      rw [List.getElem?_set_self hgl] at hq
      exact .inl ⟨rfl, (Option.some.inj hq).symm⟩
    · rw [List.getElem?_set_ne (Ne.symm e)] at hq
      exact .inr ⟨e, hq⟩
  refine ⟨⟨t1, ?_⟩, t3⟩
  refine ⟨t2.rr, t2.rl, fun _ => ?_, fun _ => t2.uses (by decide), fun _ => t2.globs (by decide), fun _ => t2.decl (by decide), fun _ => t2.seen (by decide), fun _ => t2.nams (by decide), fun i q hq _ => ?_, fun q hq => ?_, fun i q hq hi _ => ?_, t2.nc, t2.ah, t2.pr, t2.top, ?_, t2.ul, t2.nl, t2.ll, ?_, ?_⟩
  · refine ⟨?_, hr⟩
    show World.ownsRow _ 0 118 6 B.fv (B.K.set g { k with f := f' }).length _
    rw [List.length_set, hm.fv]
    exact hrow
  · rcases hget i q hq with ⟨rfl, rfl⟩ | ⟨_, hq'⟩
    · have := t2.caps i k hkk (by omega)
      simp only
      rw [h1]
      exact this
    · exact t2.caps i q hq' (by omega)
  · rcases hget 0 q hq with ⟨e, rfl⟩ | ⟨_, hq'⟩
    · subst e
      have := t2.map0 k hkk
      simp only
      rw [h2]
      exact this
    · exact t2.map0 q hq'
  · rcases hget i q hq with ⟨rfl, rfl⟩ | ⟨_, hq'⟩
    · have := t2.maps i k hkk hi (by omega)
      simp only
      rw [h1, h2]
      exact this
    · exact t2.maps i q hq' hi (by omega)
  · simp only
    rw [List.map_set, t2.kf]
  · have := t2.bd
    simp only [List.length_set]
    exact this
  · intro f hf
    rcases List.mem_or_eq_of_mem_set hf with hf | rfl
    · exact t2.bf f hf
    · have hmem : k.f ∈ z.funs := by
        rw [← t2.kf]
        exact List.mem_map_of_mem (List.mem_of_getElem? hkk)
      refine ⟨h3.1, h3.2, ?_⟩
      rw [h1]
      exact (t2.bf _ hmem).2.2

/-- A declaration's cells. -/
structure DeM (w : World) (X : ZX) (z : ZS) (B : ZB) (d db dc : Nat) (e : ZD) : Prop where
  kk : z.declared[d]? = some e
  dv : B.dv = .slice (some ⟨db, 0, none⟩) z.declared.length dc
  c9 : w.cell? ⟨X.r, 9, none⟩ = some (.slice (some ⟨db, 0, none⟩) z.declared.length dc)
  c : ∀ j, j < 3 → w.cell? ⟨db, d * 3 + j, none⟩ = (zdC e)[j]?
  lt : db < w.heap.size
  fz : ∀ j, w.frozen? ⟨db, j, none⟩ = false
  ρ : B.ρ db = 5
  ne : db ≠ X.r
  gl : d < z.declared.length
theorem RS.de (h : RS w X z B) {d : Nat} {e : ZD} (hk : z.declared[d]? = some e) : ∃ db dc, DeM w X z B d db dc e := by
  have hgl : d < z.declared.length := (List.getElem?_eq_some_iff.1 hk).1
  obtain ⟨hu, hr⟩ := h.x.decl (by decide)
  obtain ⟨db, dc, hue, hul, huf, huc⟩ := own_some hu (by omega)
  have hρ : B.ρ db = 5 := hr db (by rw [hue]; rfl)
  refine ⟨db, dc, hk, hue, ?_, fun j hj => ?_, hul, huf, hρ, (fun e => by rw [e, h.x.rr] at hρ; cases hρ), hgl⟩
  · have := h.blk.cell 9
    rw [this]
    exact congrArg some hue
  · rw [huc _ (by omega)]
    exact flat_get8 zdC 3 zdC_len z.declared d j e hk hj
/-- Some function takes it. -/
theorem RS.taken (h : RS w X z B) {d db dc : Nat} {e : ZD} (hm : DeM w X z B d db dc e) :
    RS (w.setCell ⟨db, d * 3 + 2, none⟩ (.bool true)) X { z with declared := z.declared.set d { e with taken := true } } B ∧ NX B.ρ w (w.setCell ⟨db, d * 3 + 2, none⟩ (.bool true)) B.ρ := by
  obtain ⟨t1, t2, t3⟩ := h.turn (grown_set w db (d * 3 + 2) (.bool true)) hm.ρ (by decide) (by decide)
  obtain ⟨hu, hr⟩ := h.x.decl (by decide)
  have hgl := hm.gl
  have hdv := hm.dv
  rw [hdv] at hu
  have hrow := own_setIn hu (j := d * 3 + 2) (by omega) (.bool true)
  have e1 : (rowD z.declared).set (d * 3 + 2) (.bool true) = rowD (z.declared.set d { e with taken := true }) := (flat_set1 zdC 3 zdC_len 2 (by decide) (.bool true) z.declared d e _ hm.kk rfl).symm
  rw [e1] at hrow
  refine ⟨⟨t1, ?_⟩, t3⟩
  have h4 := t2.declc (ds := z.declared.set d { e with taken := true }) (v := B.dv) (by rw [List.length_set, hdv]; exact hrow) hr (by rw [List.length_set]; exact h.x.bd.2.2.1)
  exact h4

end
end Go.Proofs.YtdhkcdehedbpcaaDoor

