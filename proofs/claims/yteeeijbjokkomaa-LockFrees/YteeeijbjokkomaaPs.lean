/- Monitors in memory: the block, its three rows; what may change. -/
import Derived.Test.YteeeijbjokkomaaPm
import Derived.Test.YteeeijbjokkomaaAp
set_option linter.unusedSimpArgs false
set_option linter.unusedVariables false
namespace Go.Proofs.Yteeeijbjokkomaa
open Go Go.RowKit

/-- w' is w but for the blocks bs, and for new ones. -/
structure Ex (bs : List Nat) (w w' : World) : Prop where
  os : w'.os = w.os
  tape : w'.tape = w.tape
  output : w'.output = w.output
  size : w.heap.size ≤ w'.heap.size
  block : ∀ b, b < w.heap.size → b ∉ bs → w'.heap[b]? = w.heap[b]?

theorem Ex.refl (bs : List Nat) (w : World) : Ex bs w w := ⟨rfl, rfl, rfl, Nat.le_refl _, fun _ _ _ => rfl⟩
theorem Ex.trans {bs : List Nat} {a b c : World} (h : Ex bs a b) (k : Ex bs b c) : Ex bs a c :=
  ⟨k.os.trans h.os, k.tape.trans h.tape, k.output.trans h.output, Nat.le_trans h.size k.size, fun x hx hn => (k.block x (Nat.lt_of_lt_of_le hx h.size) hn).trans (h.block x hx hn)⟩
theorem Ex.of_bw {bs : List Nat} {a b : World} (h : Bw a b) : Ex bs a b := ⟨h.os, h.tape, h.output, h.size, fun x hx _ => h.block x hx⟩
theorem Ex.bw {bs : List Nat} {a b c : World} (h : Ex bs a b) (k : Bw b c) : Ex bs a c := h.trans (Ex.of_bw k)
theorem Bw.ex {bs : List Nat} {a b c : World} (h : Bw a b) (k : Ex bs b c) (hb : ∀ x ∈ bs, a.heap.size ≤ x) : Bw a c :=
  ⟨k.os.trans h.os, k.tape.trans h.tape, k.output.trans h.output, Nat.le_trans h.size k.size, fun x hx => (k.block x (Nat.lt_of_lt_of_le hx h.size) (fun hm => by have := hb x hm; omega)).trans (h.block x hx)⟩
theorem Ex.mono {bs cs : List Nat} {a b : World} (h : Ex bs a b) (hs : ∀ x ∈ bs, x ∈ cs) : Ex cs a b := ⟨h.os, h.tape, h.output, h.size, fun x hx hn => h.block x hx (fun hm => hn (hs x hm))⟩
theorem Ex.set {bs : List Nat} {a w : World} (h : Ex bs a w) {g : Nat} (hg : g ∈ bs ∨ a.heap.size ≤ g) (j : Nat) (v : Value) : Ex bs a (w.setCell ⟨g, j, none⟩ v) :=
  ⟨h.os, h.tape, h.output, by simpa using h.size, fun x hx hn => (Below.heap_setCell w ⟨g, j, none⟩ v x (fun e => by
    simp only at e
    rcases hg with hg | hg
    · exact hn (e ▸ hg)
    · omega)).trans (h.block x hx hn)⟩
theorem Ex.alloc {bs : List Nat} {a w : World} (h : Ex bs a w) (o : Obj) : Ex bs a (w.alloc o) := h.bw (Bw.alloc (Bw.refl _) o)
theorem Ex.drewN {bs : List Nat} {a w : World} (h : Ex bs a w) (n : Nat) : Ex bs a (w.drewN n) := h.bw (bw_drewN w n)
theorem Ex.drew {bs : List Nat} {a w : World} (h : Ex bs a w) : Ex bs a w.drew := h.bw (Bw.drew (Bw.refl _))
/-- A row grew. -/
theorem Ex.grown {bs : List Nat} {a w w' : World} {r : Option Nat} (h : Ex bs a w) (hg : w.grownBy w' r) (hr : ∀ b, r = some b → b ∈ bs ∨ a.heap.size ≤ b) : Ex bs a w' :=
  ⟨hg.os.trans h.os, hg.tape.trans h.tape, hg.output.trans h.output, Nat.le_trans h.size hg.size, fun x hx hn => (hg.block x (Nat.lt_of_lt_of_le hx h.size) (fun e => by
    rcases hr x e.symm with h1 | h1
    · exact hn h1
    · omega)).trans (h.block x hx hn)⟩

theorem Blk.ex {bs : List Nat} {w w' : World} {g : Nat} {cur : Array Value} {e : TypeId} (h : Blk w g cur e) (k : Ex bs w w') (hg : g ∉ bs) : Blk w' g cur e := h.keep (k.block g h.lt hg)
theorem Sl.ex {bs : List Nat} {w w' : World} {v : Value} {n size : Nat} {cs : List Value} (h : Sl w (fun b => b ∉ bs) v n size cs) (k : Ex bs w w') : Sl w' (fun b => b ∉ bs) v n size cs :=
  h.keep k.size (fun b hb hg => k.block b hb hg) (fun _ _ g => g)
theorem Blk.newAt (w : World) (cur : Array Value) (e : TypeId) (g : Nat) (h : w.heap.size = g) : Blk (w.alloc (.cells cur e)) g cur e := h ▸ Blk.new w cur e

/-- Only blocks of bs have changed; those of bs' are of bs or new. -/
structure Nx (bs : List Nat) (w w' : World) (bs' : List Nat) : Prop where
  ex : Ex bs w w'
  new : ∀ b ∈ bs', b ∈ bs ∨ w.heap.size ≤ b
theorem Nx.refl (bs : List Nat) (w : World) : Nx bs w w bs := ⟨Ex.refl bs w, fun b hb => .inl hb⟩
theorem Nx.of_bw {bs : List Nat} {w w' : World} (h : Bw w w') : Nx bs w w' bs := ⟨Ex.of_bw h, fun b hb => .inl hb⟩
theorem Nx.trans {a b c : World} {bs cs ds : List Nat} (h : Nx bs a b cs) (k : Nx cs b c ds) : Nx bs a c ds := by
  refine ⟨⟨k.ex.os.trans h.ex.os, k.ex.tape.trans h.ex.tape, k.ex.output.trans h.ex.output, Nat.le_trans h.ex.size k.ex.size, fun x hx hn => ?_⟩, fun x hx => ?_⟩
  · refine (k.ex.block x (Nat.lt_of_lt_of_le hx h.ex.size) (fun hm => ?_)).trans (h.ex.block x hx hn)
    rcases h.new x hm with h1 | h1
    · exact hn h1
    · omega
  · rcases k.new x hx with h1 | h1
    · exact h.new x h1
    · exact .inr (Nat.le_trans h.ex.size h1)
theorem Nx.bw {a b : World} {bs cs : List Nat} (h : Nx bs a b cs) {c : World} (k : Bw b c) : Nx bs a c cs := ⟨h.ex.bw k, h.new⟩

theorem info_parts {P : Program} {t : TypeId} {z : Value} {n b : Nat} (h : (P.info? t).map (fun i => (i.zero, i.size, i.bytes)) = some (some z, n, b)) : ∃ i, P.info? t = some i ∧ i.zero = some z ∧ i.size = n ∧ i.bytes = b := by
  obtain ⟨i, hi, e⟩ := Option.map_eq_some_iff.1 h
  simp only [Prod.mk.injEq] at e
  exact ⟨i, hi, e.1, e.2.1, e.2.2⟩
theorem infoI : (Try.prog.info? 3).map (fun i => (i.zero, i.size, i.bytes)) = some (some (.int .i64 0), 1, 8) := by kernel_rfl
theorem infoMo : (Try.prog.info? 85).map (fun i => (i.zero, i.size, i.bytes)) = some (some (.agg #[.int .i64 0, .int .i64 0]), 2, 16) := by kernel_rfl
theorem infoWa : (Try.prog.info? 89).map (fun i => (i.zero, i.size, i.bytes)) = some (some (.agg #[.int .i64 0, .int .i64 0, .int .i64 0, .int .i64 0]), 4, 32) := by kernel_rfl
theorem infoWk : (Try.prog.info? 94).map (fun i => (i.zero, i.size, i.bytes)) = some (some (.agg #[.int .i64 0, .int .i64 0, .int .i64 0, .int .i64 0, .bool false]), 5, 40) := by kernel_rfl
theorem infoRm : (Try.prog.info? 78).map (fun i => (i.zero, i.size, i.bytes)) = some (some (.agg #[.int .i64 0, .int .i64 0]), 2, 16) := by kernel_rfl
theorem infoRs : (Try.prog.info? 107).map (fun i => (i.zero, i.size, i.bytes)) = some (some (.agg #[.int .i64 0, .int .i64 0, .int .i64 0, .int .i64 0, .bool false]), 5, 40) := by kernel_rfl

/-! ## rows -/

theorem own_keep {w w' : World} {base : Nat} {e : TypeId} {size : Nat} {v : Value} {n : Nat} {xs : List Value} (h : w.ownsRow base e size v n xs) (hb : ∀ b, v.ownBlock = some b → w'.heap[b]? = w.heap[b]?) : w'.ownsRow base e size v n xs := by
  refine ⟨h.1, ?_⟩
  rcases h.2 with h1 | ⟨g, cap, cur, e1, hbb, hg, r⟩
  · exact .inl h1
  · subst e1
    exact .inr ⟨g, cap, cur, rfl, hbb, (hb g rfl).trans hg, r⟩
theorem own_bw {w w' : World} {base : Nat} {e : TypeId} {size : Nat} {v : Value} {n : Nat} {xs : List Value} (h : w.ownsRow base e size v n xs) (hb : Bw w w') : w'.ownsRow base e size v n xs := own_keep h (fun b hv => hb.block b (h.lt b hv).2)
theorem own_parts {w : World} {base : Nat} {e : TypeId} {size : Nat} {v : Value} {n : Nat} {xs : List Value} (h : w.ownsRow base e size v n xs) (hn : n ≠ 0) :
    ∃ g cap cur, v = .slice (some ⟨g, 0, none⟩) n cap ∧ base ≤ g ∧ Blk w g cur e ∧ n ≤ cap ∧ cap ≤ maxLen ∧ cur.size = cap * size ∧ cur.toList.take (n * size) = xs := by
  rcases h.2 with ⟨_, h0⟩ | h
  · exact absurd h0 hn
  · exact h
/-- An element of a row that one owns. -/
theorem own_elem {α : Type} {c : α → List Value} {w : World} {base : Nat} {e : TypeId} {k : Nat} {a : Option Addr} {cap : Nat} {l : List α} (hk : ∀ x, (c x).length = k) (h : w.ownsRow base e k (.slice a l.length cap) l.length (l.flatMap c)) {i : Nat} (hi : i < l.length) :
    ∃ g, a = some ⟨g, 0, none⟩ ∧ base ≤ g ∧ g < w.heap.size ∧ (∀ j, j < k → w.cell? ⟨g, i * k + j, none⟩ = (c l[i])[j]?) ∧ (∀ j, w.frozen? ⟨g, j, none⟩ = false) := by
  obtain ⟨g, cap, cur, e, hb, hbk, hc1, hc2, hsz, ht⟩ := own_parts h (by omega)
  cases e
  refine ⟨g, rfl, hb, hbk.lt, fun j hj => ?_, hbk.free⟩
  have h1 : i * k + j < l.length * k := by
    have : (i + 1) * k ≤ l.length * k := Nat.mul_le_mul_right k hi
    rw [Nat.succ_mul] at this
    omega
  rw [← fm_at hk l i j hi hj, ← ht, List.getElem?_take, if_pos h1, hbk.cell]
  simp
/-- An element of a row that is read. -/
theorem sl_elem {α : Type} {c : α → List Value} {w : World} {G : Nat → Prop} {k : Nat} {a : Option Addr} {cap : Nat} {l : List α} (hk : ∀ x, (c x).length = k) (hp : 0 < k) (h : Sl w G (.slice a l.length cap) l.length k (l.flatMap c)) {i : Nat} (hi : i < l.length) :
    ∃ g o, a = some ⟨g, o, none⟩ ∧ g < w.heap.size ∧ (∀ j, j < k → w.cell? ⟨g, o + i * k + j, none⟩ = (c l[i])[j]?) := by
  obtain ⟨g, o, e, hlt, _, hc⟩ := h.cellAt (by omega)
  refine ⟨g, o, e, hlt, fun j hj => ?_⟩
  have h1 : i * k + j < l.length * k := by
    have : (i + 1) * k ≤ l.length * k := Nat.mul_le_mul_right k hi
    rw [Nat.succ_mul] at this
    omega
  rw [Nat.add_assoc, hc _ h1, fm_at hk l i j hi hj]
theorem own_set {w : World} {base : Nat} {e : TypeId} {size g n cap : Nat} {xs : List Value} (h : w.ownsRow base e size (.slice (some ⟨g, 0, none⟩) n cap) n xs) {j : Nat} (hj : j < n * size) (u : Value) :
    (w.setCell ⟨g, j, none⟩ u).ownsRow base e size (.slice (some ⟨g, 0, none⟩) n cap) n (xs.set j u) := by
  refine ⟨by rw [List.length_set]; exact h.1, .inr ?_⟩
  rcases h.2 with ⟨h1, _⟩ | ⟨g', cap', cur, e1, hbb, hg, h1, h2, h3, h4⟩
  · cases h1
  · cases e1
    refine ⟨g, cap, cur.setIfInBounds j u, rfl, hbb, Blk.set (w := w) (show Blk w g cur e from hg) j u, h1, h2, by simpa using h3, ?_⟩
    rw [Array.toList_setIfInBounds, ← h4, List.take_set]

/-! ## the monitors -/

/-- As the program has it: nobody's, if the count is 0. -/
structure RawOk (x : MM) : Prop where
  i : I64 x.1
  n : 0 ≤ x.2 ∧ x.2 ≤ 1099511627776
  t : x.2 ≠ 0 → 0 ≤ x.1 ∧ x.1 < 256

theorem nrm_ok {x : MM} (h : RawOk x) : okM (nrm x) := by
  unfold nrm okM
  by_cases h0 : x.2 = 0
  · simp [h0]
  · rw [if_neg h0]
    have := h.n
    exact .inr ⟨h.t h0, by omega, h.n.2⟩

structure PS (w : World) (p : Nat) (bs : List Nat) (mv wv kv : Value) (R : List MM) (A : LL) : Prop where
  blk : Blk w p #[mv, wv, kv] 65
  rm : w.ownsRow 0 85 2 mv R.length (R.flatMap mC)
  rw : w.ownsRow 0 89 4 wv A.W.length (A.W.flatMap wC)
  rk : w.ownsRow 0 94 5 kv A.K.length (A.K.flatMap kC)
  mp : p ∈ bs
  mm : ∀ b, mv.ownBlock = some b → b ∈ bs
  mw : ∀ b, wv.ownBlock = some b → b ∈ bs
  mkk : ∀ b, kv.ownBlock = some b → b ∈ bs
  lt : ∀ b ∈ bs, b < w.heap.size
  eq : A.M = R.map nrm
  raw : ∀ x ∈ R, RawOk x
  ok : OKA A
  big : A.W.length + A.K.length ≤ 1000

/-- The monitors at p are A. -/
def PX (w : World) (p : Nat) (bs : List Nat) (A : LL) : Prop := ∃ mv wv kv R, PS w p bs mv wv kv R A

section
variable {w w' : World} {p : Nat} {bs : List Nat} {mv wv kv : Value} {R : List MM} {A : LL}
theorem PS.keep (h : PS w p bs mv wv kv R A) (hs : w.heap.size ≤ w'.heap.size) (hk : ∀ b ∈ bs, w'.heap[b]? = w.heap[b]?) : PS w' p bs mv wv kv R A :=
  ⟨h.blk.keep (hk p h.mp), own_keep h.rm (fun b hb => hk b (h.mm b hb)), own_keep h.rw (fun b hb => hk b (h.mw b hb)), own_keep h.rk (fun b hb => hk b (h.mkk b hb)), h.mp, h.mm, h.mw, h.mkk, fun b hb => Nat.lt_of_lt_of_le (h.lt b hb) hs, h.eq, h.raw, h.ok, h.big⟩
theorem PS.bw (h : PS w p bs mv wv kv R A) (k : Bw w w') : PS w' p bs mv wv kv R A := h.keep k.size (fun b hb => k.block b (h.lt b hb))
theorem PX.bw (h : PX w p bs A) (k : Bw w w') : PX w' p bs A := by obtain ⟨a, b, c, d, h⟩ := h; exact ⟨a, b, c, d, h.bw k⟩
theorem PS.len (h : PS w p bs mv wv kv R A) : A.M.length = R.length := by rw [h.eq]; simp
theorem PS.at (h : PS w p bs mv wv kv R A) {n : Nat} (hn : n < R.length) : monA A (n : Int) = nrm R[n] := by
  unfold monA
  rw [h.eq]
  simp [List.getD, hn]
end

end Go.Proofs.Yteeeijbjokkomaa
