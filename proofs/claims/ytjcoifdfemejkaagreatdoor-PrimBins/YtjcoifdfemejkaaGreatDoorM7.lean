/- prim: the tables, and the small calls. · prim.Pure: pushes, pops, lengths: contracts. -/
import Derived.Test.YtjcoifdfemejkaaGreatDoorKTk
import Derived.Test.YtjcoifdfemejkaaGreatDoorPQk
import Derived.Test.YtjcoifdfemejkaaGreatDoorPIbk
import Derived.Test.YtjcoifdfemejkaaGreatDoorM5
import Derived.Test.YtjcoifdfemejkaaGreatDoorPKk
import Derived.Test.YtjcoifdfemejkaaGreatDoorM6
import Derived.Deep.RegionHeld3
set_option linter.unusedSimpArgs false
set_option linter.unusedVariables false
namespace Go.Proofs.YtjcoifdfemejkaaGreatDoor
open Go Go.RowKit

/-- Faults' texts. -/
def thr : List (List Int) := [[], [116, 121, 112, 101], [122, 101, 114, 111], [114, 97, 110, 103, 101], [102, 105, 101, 108, 100], [108, 111, 110, 103], [99, 97, 108, 108], [97, 114, 103, 115], [115, 116, 97, 116, 101]]
def edg : List (List Int) := [[104, 101, 97, 112], [100, 101, 112, 116, 104], [116, 104, 114, 101, 97, 100, 115]]
def ars : List Int := [1, 1, 2, 1, 1, 2, 2, 3, 2, 1, 2, 1, 1, 1, 0, 1, 0, 1, 1, 1, 2, 1, 0, 1, 1, 1, 2, 1, 1, 0]

/-- The tables of faults' texts lie there. -/
def Tf (w : World) : Prop := (0 < w.heap.size ∧ 1 < w.heap.size) ∧ (∀ i s, thr[i]? = some s → w.cell? ⟨0, i, none⟩ = some (.string (strOfNums s))) ∧ ∀ i s, edg[i]? = some s → w.cell? ⟨1, i, none⟩ = some (.string (strOfNums s))



theorem Tf.bw {w w' : World} (h : Tf w) (hb : Bw w w') : Tf w' := by
  refine ⟨⟨Nat.lt_of_lt_of_le h.1.1 hb.size, Nat.lt_of_lt_of_le h.1.2 hb.size⟩, fun i s hs => ?_, fun i s hs => ?_⟩
  · rw [World.cell?_of_block (a := ⟨0, i, none⟩) (hb.block _ h.1.1)]; exact h.2.1 i s hs
  · rw [World.cell?_of_block (a := ⟨1, i, none⟩) (hb.block _ h.1.2)]; exact h.2.2 i s hs



/-- A table stays while only blocks that were made later turn. -/
theorem Tf.nx {w0 w w' : World} {bs bs' : List Nat} (h : Tf w) (h0 : Tf w0) (hs : ∀ b ∈ bs, w0.heap.size ≤ b) (hn : Nx bs w w' bs') : Tf w' := by
  have n1 : 0 ∉ bs := fun hm => by have := hs _ hm; have := h0.1.1; omega
  have n2 : 1 ∉ bs := fun hm => by have := hs _ hm; have := h0.1.2; omega
  refine ⟨⟨Nat.lt_of_lt_of_le h.1.1 hn.1.size, Nat.lt_of_lt_of_le h.1.2 hn.1.size⟩, fun i s hs => ?_, fun i s hs => ?_⟩
  · rw [World.cell?_of_block (a := ⟨0, i, none⟩) (hn.1.block _ h.1.1 n1)]; exact h.2.1 i s hs
  · rw [World.cell?_of_block (a := ⟨1, i, none⟩) (hn.1.block _ h.1.2 n2)]; exact h.2.2 i s hs



def ftx (f : Int) : List Int := if 0 ≤ f ∧ f < 9 then thr.getD f.toNat [] else if 100 ≤ f ∧ f < 103 then edg.getD (f - 100).toNat [] else []

def ary (p : Int) : Int := if 0 ≤ p ∧ p < 30 then ars.getD p.toNat 0 else -1

section
variable {w w' : World}



set_option maxRecDepth 100000 in
set_option maxHeartbeats 1000000 in
theorem FaultText_low (f : Nat) (hf : f < 9) (ha : Tf w) : Calls Tryz.prog 20 #[.int .i64 f] w fun e w' => e = .returned (.string (strOfNums (thr.getD f []))) ∧ w' = w := by
  have c0 := ha.2.1 f (thr.getD f []) (by rw [List.getD_eq_getElem?_getD, List.getElem?_eq_getElem (show f < thr.length from hf)]; rfl)
  have hg := ha.1.1
  have b0 : decide (0 ≤ (f : Int)) = true := decide_eq_true (by omega)
  have b1 : decide ((f : Int) < 9) = true := decide_eq_true (by omega)
  generalize strOfNums (thr.getD f []) = q at c0
  clear ha
  go_enter Tryz.func20, Tryz.ntmps20
  go_wp2
  go_ret
  exact ⟨rfl, rfl⟩

theorem kind_hs9 {b0 : Nat} {H : AHeap} {bs : List Nat} (v : Int) (hU : U v) (w : World) (h : HS w b0 H bs) :
    Calls Tryz.prog 49 #[.pointer (some ⟨b0, 0, none⟩), .int .u64 v] w fun e w' => e = .returned (.int .i64 (kk H v)) ∧ w' = w := by
  obtain ⟨vo, t, h, _⟩ := h
  exact kind_h v hU w h

/-- The kind of a word in prim's row of kinds. -/
def kof (H : AHeap) (v : Int) : Int := if kd v = 0 then 10 else if kd v = 1 then (if v = 1 then 11 else 12) else if kd v = 3 then 13 else kk H v

set_option maxRecDepth 100000 in
set_option maxHeartbeats 1000000 in
theorem kindOf_any {b0 : Nat} {H : AHeap} {bs : List Nat} (v : Int) (hU : U v) (hp : HS w b0 H bs) : Calls Tryz.prog 28 #[.pointer (some ⟨b0, 0, none⟩), .int .u64 v] w fun e w' => e = .returned (.int .i64 (kof H v)) ∧ w' = w := by
  have HP := hid hp
  have HU := hid hU
  unfold kof
  clear hp
  by_cases h0 : kd v = 0
  · rw [if_pos h0]
    have HE := hid h0
    clear h0 hU
    go_enter Tryz.func28, Tryz.ntmps28
    go_wp2_with (first
      | (go_at_call 76; refine (kind_any _ HU.out _).mono ?_; rw [HE.out]; rintro e w' ⟨rfl, hw'⟩; subst w')
      | fail)
    go_ret
    exact ⟨rfl, rfl⟩
  rw [if_neg h0]
  have b0' : (kd v == 0) = false := by simpa using h0
  by_cases h1 : kd v = 1
  · rw [if_pos h1]
    have HE := hid h1
    by_cases hv : v = 1
    · subst hv
      rw [if_pos rfl]
      clear h0 h1 hU b0'
      go_enter Tryz.func28, Tryz.ntmps28
      go_wp2_with (first
        | (go_at_call 76; refine (kind_any _ HU.out _).mono ?_; rw [HE.out]; rintro e w' ⟨rfl, hw'⟩; subst w')
        | fail)
      go_ret
      exact ⟨rfl, rfl⟩
    · rw [if_neg hv]
      have bv' : (v == 1) = false := by simpa using hv
      clear h0 h1 hU b0' hv
      go_enter Tryz.func28, Tryz.ntmps28
      go_wp2_with (first
        | (go_at_call 76; refine (kind_any _ HU.out _).mono ?_; rw [HE.out]; rintro e w' ⟨rfl, hw'⟩; subst w')
        | fail)
      go_ret
      exact ⟨rfl, rfl⟩
  rw [if_neg h1]
  have b1' : (kd v == 1) = false := by simpa using h1
  by_cases h3 : kd v = 3
  · rw [if_pos h3]
    have HE := hid h3
    clear h0 h1 h3 hU b0' b1'
    go_enter Tryz.func28, Tryz.ntmps28
    go_wp2_with (first
      | (go_at_call 76; refine (kind_any _ HU.out _).mono ?_; rw [HE.out]; rintro e w' ⟨rfl, hw'⟩; subst w')
      | fail)
    go_ret
    exact ⟨rfl, rfl⟩
  rw [if_neg h3]
  have b3' : (kd v == 3) = false := by simpa using h3
  clear h0 h1 h3 hU
  generalize hq : kd v = q at b0' b1' b3'
  have HQ := hid hq
  clear hq
  go_enter Tryz.func28, Tryz.ntmps28
  go_wp2_with (first
    | (go_at_call 76; refine (kind_any _ HU.out _).mono ?_; rw [HQ.out]; rintro e w' ⟨rfl, hw'⟩; subst w')
    | (go_at_call 49; refine (kind_hs9 _ HU.out _ HP.out).mono ?_; rintro e w' ⟨rfl, hw'⟩; subst w')
    | fail)
  go_ret
  exact ⟨rfl, rfl⟩

/-- By which fault a new object is not there; a value is not written. -/
def mF (e : Int) : Int := if e = 0 then 0 else if e = 2 then 5 else 100
def wF (e : Int) : Int := if e = 0 then 0 else if e = 2 then 5 else 1
def dV (f : Int) : Int := if f = 0 then 1 else 0

set_option maxRecDepth 100000 in
set_option maxHeartbeats 1000000 in
theorem madeFault_any (x : Int) : Calls Tryz.prog 108 #[.int .i64 x] w fun e w' => e = .returned (.int .i64 (mF x)) ∧ w' = w := by
  unfold mF
  by_cases h0 : x = 0
  · subst h0
    rw [if_pos rfl]
    go_enter Tryz.func108, Tryz.ntmps108
    go_wp2
    go_ret
    exact ⟨rfl, rfl⟩
  rw [if_neg h0]
  by_cases h2 : x = 2
  · subst h2
    rw [if_pos rfl]
    clear h0
    go_enter Tryz.func108, Tryz.ntmps108
    go_wp2
    go_ret
    exact ⟨rfl, rfl⟩
  rw [if_neg h2]
  have b0 : (x == 0) = false := by simpa using h0
  have b2 : (x == 2) = false := by simpa using h2
  clear h0 h2
  go_enter Tryz.func108, Tryz.ntmps108
  go_wp2
  go_ret
  exact ⟨rfl, rfl⟩





set_option maxRecDepth 100000 in
set_option maxHeartbeats 1000000 in
theorem newString_any (G : Nat → Prop) {b0 : Nat} {H : AHeap} {bs : List Nat} (v : Value) (b : List Int) (hp : HS w b0 H bs) (h : Sl w G v b.length 1 (b.map (Value.int .u8))) (hb : ∀ x ∈ b, 0 ≤ x ∧ x ≤ 255) (hm : b.length ≤ 1000000000) :
    Calls Tryz.prog 90 #[.pointer (some ⟨b0, 0, none⟩), v] w fun e w' => e = .returned (.tuple #[.int .u64 (aMakeV H (oStr b)), .int .i64 (mF (aMakeE H (oStr b)))]) ∧ ∃ bs', HS w' b0 (aMakeH H (oStr b)) bs' ∧ Nx bs w w' bs' := by
  have HA := hid (str_any G v b w hp h hb hm)
  obtain ⟨a, c, rfl⟩ := h.form
  generalize aMakeV H (oStr b) = V at HA ⊢
  generalize aMakeE H (oStr b) = E at HA ⊢
  generalize aMakeH H (oStr b) = H' at HA ⊢
  clear hp h hb
  go_enter Tryz.func90, Tryz.ntmps90
  go_wp2_with (first
    | (go_at_call 16; refine HA.out.mono ?_; rintro e w1 ⟨rfl, bs1, hs1, hn1⟩; have S1 := hid hs1; have N1 := hid hn1; clear hs1 hn1)
    | (go_at_call 108; refine (madeFault_any _).mono ?_; rintro e w' ⟨rfl, hw'⟩; subst w')
    | fail)
  go_ret2
  exact ⟨rfl, _, S1.out, N1.out⟩

end

end Go.Proofs.YtjcoifdfemejkaaGreatDoor

set_option linter.unusedSimpArgs false
set_option linter.unusedVariables false
namespace Go.Proofs.YtjcoifdfemejkaaGreatDoor
open Go Go.RowKit

section
variable {w w' : World}

theorem ary1 : ary 1 = 1 := rfl
theorem ary2 : ary 2 = 2 := rfl
theorem ary3 : ary 3 = 1 := rfl
theorem ary4 : ary 4 = 1 := rfl

def pF (e : Int) : Int := if e = 0 then 0 else if e = 4 then 3 else 1
def pV (e v : Int) : Int := if e = 0 then v else 0







end

end Go.Proofs.YtjcoifdfemejkaaGreatDoor

