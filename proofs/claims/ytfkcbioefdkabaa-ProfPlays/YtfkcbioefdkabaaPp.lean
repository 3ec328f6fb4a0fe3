/- Two profiles beside each other. -/
import Derived.Test.YtfkcbioefdkabaaPo
set_option linter.unusedVariables false
set_option linter.unusedSimpArgs false
namespace Go.Proofs.Ytfkcbioefdkabaa
open Go Go.RowKit

/-- Where a profile lies. -/
structure PP where
  p : Nat
  hb : Nat
  wb : Nat
  mb : Nat

abbrev PP.bs (q : PP) : List Nat := [q.hb, q.wb, q.mb]
abbrev PP.all (q : PP) : List Nat := [q.p, q.hb, q.wb, q.mb]
abbrev PQ (w : World) (q : PP) (L : List AA) : Prop := PS w q.p q.hb q.wb q.mb 5 5 L

/-- Two profiles that were made behind w, apart. -/
structure TW (w wr : World) (q r : PP) (L M : List AA) : Prop where
  bw : Bw w wr
  a : PQ wr q L
  b : PQ wr r M
  ab : ∀ x ∈ r.all, x ∉ q.bs
  ba : ∀ x ∈ q.all, x ∉ r.bs
  qa : ∀ x ∈ q.bs, w.heap.size ≤ x
  rb : ∀ x ∈ r.bs, w.heap.size ≤ x

section
variable {w wr w' : World} {q r : PP} {L M L' : List AA}
theorem TW.tellA (h : TW w wr q r L M) (k : Ex q.bs wr w') (hp : PQ w' q L') : TW w w' q r L' M :=
  ⟨h.bw.ex k h.qa, hp, h.b.ex k h.ab, h.ab, h.ba, h.qa, h.rb⟩
theorem TW.tellB (h : TW w wr q r L M) (k : Ex r.bs wr w') (hp : PQ w' r L') : TW w w' q r L L' :=
  ⟨h.bw.ex k h.rb, h.a.ex k h.ba, hp, h.ab, h.ba, h.qa, h.rb⟩
theorem TW.next (h : TW w wr q r L M) (k : Bw wr w') : TW w w' q r L M :=
  ⟨h.bw.trans k, h.a.bw k, h.b.bw k, h.ab, h.ba, h.qa, h.rb⟩
theorem TW.made {w1 w2 : World} {p1 h1 b1 m1 p2 h2 b2 m2 : Nat} (k1 : Bw w w1) (s1 : PS w1 p1 h1 b1 m1 5 5 []) (o1 : w.heap.size ≤ h1 ∧ w.heap.size ≤ b1 ∧ w.heap.size ≤ m1) (k2 : Bw w1 w2) (s2 : PS w2 p2 h2 b2 m2 5 5 []) (o2 : w1.heap.size ≤ p2 ∧ w1.heap.size ≤ h2 ∧ w1.heap.size ≤ b2 ∧ w1.heap.size ≤ m2) : TW w w2 ⟨p1, h1, b1, m1⟩ ⟨p2, h2, b2, m2⟩ [] [] := by
  obtain ⟨l1, l2, l3, l4⟩ := s1.lts
  have hs := k1.size
  refine ⟨k1.trans k2, s1.bw k2, s2, ?_, ?_, ?_, ?_⟩ <;> intro x hx <;> simp at hx ⊢ <;> omega
/-- A block that is new is none of a profile's. -/
theorem TW.newA (h : TW w wr q r L M) {x : Nat} (hx : wr.heap.size ≤ x) : x ∉ q.bs := by
  obtain ⟨l1, l2, l3, l4⟩ := h.a.lts
  simp
  omega
theorem TW.newB (h : TW w wr q r L M) {x : Nat} (hx : wr.heap.size ≤ x) : x ∉ r.bs := by
  obtain ⟨l1, l2, l3, l4⟩ := h.b.lts
  simp
  omega
end

/-- A thing's block. -/
abbrev ActB (w : World) (b : Nat) (x : AA) : Prop := Blk w b #[.int .i64 x.d, .int .i64 x.f, .int .i64 x.t, .int .i64 x.a, .int .i64 x.b, .int .u64 x.v] 36

theorem ActB.cells {w : World} {b : Nat} {x : AA} (h : ActB w b x) : b < w.heap.size ∧ w.cell? ⟨b, 0, none⟩ = some (.int .i64 x.d) ∧ w.cell? ⟨b, 1, none⟩ = some (.int .i64 x.f) ∧ w.cell? ⟨b, 2, none⟩ = some (.int .i64 x.t) ∧ w.cell? ⟨b, 3, none⟩ = some (.int .i64 x.a) ∧ w.cell? ⟨b, 4, none⟩ = some (.int .i64 x.b) ∧ w.cell? ⟨b, 5, none⟩ = some (.int .u64 x.v) :=
  ⟨h.lt, h.cell 0, h.cell 1, h.cell 2, h.cell 3, h.cell 4, h.cell 5⟩

/-- What Kinds tells, whatever is asked. -/
def kxv (F : Nat) (L : List AA) (i t : Int) : Int := if 0 ≤ i ∧ i < F ∧ 0 ≤ t ∧ t < 65536 then (kindOf L i t : Int) else 0
def kxe (F : Nat) (i t : Int) : Int := if 0 ≤ i ∧ i < F ∧ 0 ≤ t ∧ t < 65536 then 0 else 1
theorem Kinds_any {w : World} {p hb wb mb F G : Nat} {L : List AA} (h : PS w p hb wb mb F G L) (hF : F ≤ 1024) (i t : Int) : Calls Try.prog 16 #[.pointer (some ⟨p, 0, none⟩), .int .i64 i, .int .i64 t] w fun e w' => e = .returned (.tuple #[.int .i64 (kxv F L i t), .int .i64 (kxe F i t)]) ∧ Bw w w' := by
  unfold kxv kxe
  by_cases hc : 0 ≤ i ∧ i < F ∧ 0 ≤ t ∧ t < 65536
  · rw [if_pos hc, if_pos hc]
    exact Kinds_yes h i t hF hc
  · rw [if_neg hc, if_neg hc]
    exact Kinds_no h i t hc

theorem heatsTo_le (L : List AA) {g : Nat} (h : g ≤ 5) : heatsTo L g ≤ heatsTo L 5 := by
  have hc : g = 0 ∨ g = 1 ∨ g = 2 ∨ g = 3 ∨ g = 4 ∨ g = 5 := by omega
  rcases hc with rfl | rfl | rfl | rfl | rfl | rfl <;> simp only [heatsTo] <;> omega

theorem cell_ex {bs : List Nat} {w w' : World} {b i : Nat} {v : Value} (h : Ex bs w w') (hn : b ∉ bs) (hb : b < w.heap.size) (hc : w.cell? ⟨b, i, none⟩ = some v) : w'.cell? ⟨b, i, none⟩ = some v :=
  (World.cell?_of_block (w := w) (w' := w') (a := ⟨b, i, none⟩) (h.block b hb hn)).trans hc

theorem told_in {y : AA} (h : inR y = true) (M : List AA) : tellL 5 5 M (nrm y) = if keepP y then M ++ [y] else M := by
  rw [nrm_in h]
  unfold tellL keepP
  rw [h]
  simp
theorem told_out {y : AA} (h : inR y = false) (M : List AA) : (if keepP y then M ++ [y] else M) = M := by
  unfold keepP
  rw [h]
  simp
theorem keep_in {y : AA} (h : inR y = true) : keepP y = okT 5 5 y := by
  unfold keepP
  rw [h]
  simp
theorem keep_out {y : AA} (h : inR y = false) : keepP y = false := by
  unfold keepP
  rw [h]
  simp

/-- The second list's next one. -/
theorem rev_at (l : List AA) {k q : Nat} (h : l.length = k + 1 + q) : l.reverse[k]'(by rw [List.length_reverse]; omega) = l[q]'(by omega) := by
  rw [List.getElem_reverse]
  congr 1
  omega

end Go.Proofs.Ytfkcbioefdkabaa
