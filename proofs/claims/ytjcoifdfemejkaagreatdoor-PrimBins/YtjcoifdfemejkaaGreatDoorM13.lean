/- prim: comparisons, sameness, lengths: contracts. · prim: fields read and written, keys as strings: contracts. -/
import Derived.Test.YtjcoifdfemejkaaGreatDoorM12
set_option linter.unusedSimpArgs false
set_option linter.unusedVariables false
namespace Go.Proofs.YtjcoifdfemejkaaGreatDoor
open Go Go.RowKit

/-- What a comparison answers, and its fault. -/
def cpV (op : Int) (below above : Bool) : Int := if op = 7 then bv below else if op = 8 then bv (!above) else if op = 9 then bv above else if op = 10 then bv (!below) else 0
def cpF (op : Int) : Int := if op = 7 ∨ op = 8 ∨ op = 9 ∨ op = 10 then 0 else 1

section
variable {w w' : World}

set_option maxRecDepth 100000 in
set_option maxHeartbeats 1000000 in
theorem compared_any (op : Int) (below above : Bool) : Calls Tryz.prog 83 #[.int .i64 op, .bool below, .bool above] w fun e w' => e = .returned (.tuple #[.int .u64 (cpV op below above), .int .i64 (cpF op)]) ∧ w' = w := by
  by_cases h7 : op = 7
  · subst h7
    rw [show cpF 7 = 0 from rfl, show cpV 7 below above = bv below from rfl]
    go_enter Tryz.func83, Tryz.ntmps83
    go_wp2_with (first
      | (go_at_call 13; refine (tbool_any _ _).mono ?_; rintro e w' ⟨rfl, hw'⟩; subst w')
      | fail)
    all_goals go_ret2
    all_goals exact ⟨rfl, rfl⟩
  by_cases h8 : op = 8
  · subst h8
    rw [show cpF 8 = 0 from rfl, show cpV 8 below above = bv (!above) from rfl]
    go_enter Tryz.func83, Tryz.ntmps83
    go_wp2_with (first
      | (go_at_call 13; refine (tbool_any _ _).mono ?_; rintro e w' ⟨rfl, hw'⟩; subst w')
      | fail)
    all_goals go_ret2
    all_goals exact ⟨rfl, rfl⟩
  by_cases h9 : op = 9
  · subst h9
    rw [show cpF 9 = 0 from rfl, show cpV 9 below above = bv above from rfl]
    go_enter Tryz.func83, Tryz.ntmps83
    go_wp2_with (first
      | (go_at_call 13; refine (tbool_any _ _).mono ?_; rintro e w' ⟨rfl, hw'⟩; subst w')
      | fail)
    all_goals go_ret2
    all_goals exact ⟨rfl, rfl⟩
  by_cases h10 : op = 10
  · subst h10
    rw [show cpF 10 = 0 from rfl, show cpV 10 below above = bv (!below) from rfl]
    go_enter Tryz.func83, Tryz.ntmps83
    go_wp2_with (first
      | (go_at_call 13; refine (tbool_any _ _).mono ?_; rintro e w' ⟨rfl, hw'⟩; subst w')
      | fail)
    all_goals go_ret2
    all_goals exact ⟨rfl, rfl⟩
  rw [show cpF op = 1 from if_neg (by omega), show cpV op below above = 0 from by unfold cpV; rw [if_neg h7, if_neg h8, if_neg h9, if_neg h10]]
  have b7 : (op == 7) = false := by simpa using h7
  have b8 : (op == 8) = false := by simpa using h8
  have b9 : (op == 9) = false := by simpa using h9
  have b10 : (op == 10) = false := by simpa using h10
  clear h7 h8 h9 h10
  go_enter Tryz.func83, Tryz.ntmps83
  go_wp2
  all_goals go_ret2
  all_goals exact ⟨rfl, rfl⟩

set_option maxRecDepth 100000 in
set_option maxHeartbeats 2000000 in
theorem binStrings_cmp {b0 : Nat} {H : AHeap} {bs : List Nat} (op a b : Int) (h0 : op ≠ 0) (ha : U a) (hb : U b) (hp : HS w b0 H bs) (ka : kk H a = 1) (kb : kk H b = 1) :
    Calls Tryz.prog 32 #[.pointer (some ⟨b0, 0, none⟩), .int .i64 op, .int .u64 a, .int .u64 b] w fun e w' => e = .returned (.tuple #[.int .u64 (cpV op (decide (cmpB (ob H a).bytes (ob H b).bytes < 0)) (decide (0 < cmpB (ob H a).bytes (ob H b).bytes))), .int .i64 (cpF op)]) ∧ Bw w w' := by
  have oa := hs_obj hp ha (by omega)
  have obb := hs_obj hp hb (by omega)
  have HC1 := hid (fun w1 (hw : Bw w w1) => bytes_yes a ha w1 (hp.bw hw) ka)
  have HC2 := hid (fun w1 (hw : Bw w w1) => bytes_yes b hb w1 (hp.bw hw) kb)
  have lx := oa.2.2.2.2.2.1
  have ly := obb.2.2.2.2.2.1
  have HX := hid oa.2.2.2.2.1
  have HY := hid obb.2.2.2.2.1
  generalize (ob H a).bytes = x at *
  generalize (ob H b).bytes = y at *
  have bop : (op == 0) = false := by simpa using h0
  clear oa obb hp ka kb h0
  obtain ⟨q, hq⟩ : ∃ q, cmpB x y = q := ⟨_, rfl⟩
  rw [hq]
  have HQ := hid hq
  clear hq
  go_enter Tryz.func32, Tryz.ntmps32
  go_wp2_with (first
    | (go_at_call_of 17 (Value.int .u64 a); refine (HC1.out _ (by repeat (first | exact Bw.refl _ | apply Bw.alloc | apply Bw.drewN | apply Bw.drew))).mono ?_; rintro e w1 ⟨r1, rfl, ho1, hb1⟩; obtain ⟨a1, c1, rfl⟩ := own_form ho1; have O1 := hid ho1; have B1 := hid (show Bw w w1 from Bw.trans (by repeat (first | exact Bw.refl _ | apply Bw.alloc | apply Bw.drewN | apply Bw.drew)) hb1); clear ho1 hb1 HC1)
    | (go_at_call_of 17 (Value.int .u64 b); refine (HC2.out _ (B1.out.trans (by repeat (first | exact Bw.refl _ | apply Bw.alloc | apply Bw.drewN | apply Bw.drew)))).mono ?_; rintro e w2 ⟨r2, rfl, ho2, hb2⟩; obtain ⟨a2, c2, rfl⟩ := own_form ho2; have Y1 := hid (by_own (own_bw O1.out (Bw.trans (by repeat (first | exact Bw.refl _ | apply Bw.alloc | apply Bw.drewN | apply Bw.drew)) hb2)) HX.out (by omega)); have Y2 := hid (by_own ho2 HY.out (by omega)); have B2 := hid (show Bw w w2 from B1.out.trans (Bw.trans (by repeat (first | exact Bw.refl _ | apply Bw.alloc | apply Bw.drewN | apply Bw.drew)) hb2)); clear ho2 hb2)
    | (go_at_call 91; refine (bCmp_any x y Y1.out Y2.out).mono ?_; rw [HQ.out]; rintro e w' ⟨rfl, hw'⟩; subst w')
    | (go_at_call 83; refine (compared_any _ _ _).mono ?_; rintro e w' ⟨rfl, hw'⟩; subst w')
    | fail)
  all_goals go_ret2
  all_goals exact ⟨rfl, B2.out⟩

set_option maxRecDepth 100000 in
set_option maxHeartbeats 2000000 in
theorem bin_cmp {b0 : Nat} {H : AHeap} {bs : List Nat} (op a b : Int) (h0 : op ≠ 0) (h5 : op ≠ 5) (h6 : op ≠ 6) (ha : U a) (hb : U b) (hp : HS w b0 H bs) (ka : kk H a = 1) (kb : kk H b = 1) :
    Calls Tryz.prog 7 #[.pointer (some ⟨b0, 0, none⟩), .int .i64 op, .int .u64 a, .int .u64 b] w fun e w' => e = .returned (.tuple #[.int .u64 (cpV op (decide (cmpB (ob H a).bytes (ob H b).bytes < 0)) (decide (0 < cmpB (ob H a).bytes (ob H b).bytes))), .int .i64 (cpF op)]) ∧ Bw w w' := by
  have HC := hid (binStrings_cmp op a b h0 ha hb hp ka kb)
  have K1 := hid (show Calls Tryz.prog 28 #[.pointer (some ⟨b0, 0, none⟩), .int .u64 a] w fun e w' => e = .returned (.int .i64 1) ∧ w' = w by have := kindOf_any a ha hp; rwa [kof_kk (by omega), ka] at this)
  have K2 := hid (show Calls Tryz.prog 28 #[.pointer (some ⟨b0, 0, none⟩), .int .u64 b] w fun e w' => e = .returned (.int .i64 1) ∧ w' = w by have := kindOf_any b hb hp; rwa [kof_kk (by omega), kb] at this)
  generalize cpV op (decide (cmpB (ob H a).bytes (ob H b).bytes < 0)) (decide (0 < cmpB (ob H a).bytes (ob H b).bytes)) = V at HC ⊢
  generalize cpF op = E at HC ⊢
  have b5 : (op == 5) = false := by simpa using h5
  have b6 : (op == 6) = false := by simpa using h6
  clear hp ka kb h0 h5 h6
  go_enter Tryz.func7, Tryz.ntmps7
  go_wp2_with (first
    | (go_at_call_of 28 (Value.int .u64 a); refine K1.out.mono ?_; rintro e w' ⟨rfl, hw'⟩; subst w')
    | (go_at_call_of 28 (Value.int .u64 b); refine K2.out.mono ?_; rintro e w' ⟨rfl, hw'⟩; subst w')
    | (go_at_call 32; refine HC.out.mono ?_; rintro e w1 ⟨rfl, hb1⟩; have B1 := hid hb1; clear hb1)
    | fail)
  all_goals go_ret2
  all_goals exact ⟨rfl, B1.out⟩

set_option maxRecDepth 100000 in
set_option maxHeartbeats 2000000 in
theorem bin_eq {b0 : Nat} {H : AHeap} {bs : List Nat} (a b : Int) (ha : U a) (hb : U b) (hp : HS w b0 H bs) :
    Calls Tryz.prog 7 #[.pointer (some ⟨b0, 0, none⟩), .int .i64 5, .int .u64 a, .int .u64 b] w fun e w' => e = .returned (.tuple #[.int .u64 (bv (eqW H a b)), .int .i64 0]) ∧ Bw w w' := by
  have HC := hid (equal_any a b ha hb w hp)
  generalize eqW H a b = q at HC ⊢
  clear hp
  go_enter Tryz.func7, Tryz.ntmps7
  go_wp2_with (first
    | (go_at_call 27; refine HC.out.mono ?_; rintro e w1 ⟨rfl, hb1⟩; have B1 := hid hb1; clear hb1)
    | (go_at_call 13; refine (tbool_any _ _).mono ?_; rintro e w' ⟨rfl, hw'⟩; subst w')
    | fail)
  all_goals go_ret2
  all_goals exact ⟨rfl, B1.out⟩

set_option maxRecDepth 100000 in
set_option maxHeartbeats 2000000 in
theorem bin_ne {b0 : Nat} {H : AHeap} {bs : List Nat} (a b : Int) (ha : U a) (hb : U b) (hp : HS w b0 H bs) :
    Calls Tryz.prog 7 #[.pointer (some ⟨b0, 0, none⟩), .int .i64 6, .int .u64 a, .int .u64 b] w fun e w' => e = .returned (.tuple #[.int .u64 (bv (!eqW H a b)), .int .i64 0]) ∧ Bw w w' := by
  have HC := hid (equal_any a b ha hb w hp)
  generalize eqW H a b = q at HC ⊢
  clear hp
  go_enter Tryz.func7, Tryz.ntmps7
  go_wp2_with (first
    | (go_at_call 27; refine HC.out.mono ?_; rintro e w1 ⟨rfl, hb1⟩; have B1 := hid hb1; clear hb1)
    | (go_at_call 13; refine (tbool_any _ _).mono ?_; rintro e w' ⟨rfl, hw'⟩; subst w')
    | fail)
  all_goals go_ret2
  all_goals exact ⟨rfl, B1.out⟩





end

end Go.Proofs.YtjcoifdfemejkaaGreatDoor

set_option linter.unusedSimpArgs false
set_option linter.unusedVariables false
namespace Go.Proofs.YtjcoifdfemejkaaGreatDoor
open Go Go.RowKit

def fF (e : Int) : Int := if e = 0 then 0 else if e = 4 then 4 else 1
def fV (e v : Int) : Int := if e = 0 then v else 0

section
variable {w w' : World}

set_option maxRecDepth 100000 in
set_option maxHeartbeats 1000000 in
theorem Field_any {b0 : Nat} {H : AHeap} {bs : List Nat} (r : Int) (s : ByteArray) (hU : U r) (hp : HS w b0 H bs) :
    Calls Tryz.prog 61 #[.pointer (some ⟨b0, 0, none⟩), .int .u64 r, .string s] w fun e w' => e = .returned (.tuple #[.int .u64 (fV (aFieldE H r s) (aFieldV H r s)), .int .i64 (fF (aFieldE H r s))]) ∧ Bw w w' := by
  have HC := hid (field_any r s hU w hp)
  generalize aFieldE H r s = E at HC ⊢
  generalize aFieldV H r s = V at HC ⊢
  clear hp hU
  unfold fF fV
  by_cases h0 : E = 0
  · subst h0
    rw [if_pos rfl, if_pos rfl]
    go_enter Tryz.func61, Tryz.ntmps61
    go_wp2_with (first
      | (go_at_call 116; refine HC.out.mono ?_; rintro e w1 ⟨rfl, hl1⟩; have B1 := hid hl1.bw; clear hl1)
      | fail)
    all_goals go_ret2
    all_goals exact ⟨rfl, B1.out⟩
  rw [if_neg h0, if_neg h0]
  by_cases h4 : E = 4
  · subst h4
    rw [if_pos rfl]
    clear h0
    go_enter Tryz.func61, Tryz.ntmps61
    go_wp2_with (first
      | (go_at_call 116; refine HC.out.mono ?_; rintro e w1 ⟨rfl, hl1⟩; have B1 := hid hl1.bw; clear hl1)
      | fail)
    all_goals go_ret2
    all_goals exact ⟨rfl, B1.out⟩
  rw [if_neg h4]
  have b0' : (E == 0) = false := by simpa using h0
  have b4' : (E == 4) = false := by simpa using h4
  clear h0 h4
  go_enter Tryz.func61, Tryz.ntmps61
  go_wp2_with (first
    | (go_at_call 116; refine HC.out.mono ?_; rintro e w1 ⟨rfl, hl1⟩; have B1 := hid hl1.bw; clear hl1)
    | fail)
  all_goals go_ret2
  all_goals exact ⟨rfl, B1.out⟩







set_option maxRecDepth 100000 in
set_option maxHeartbeats 1000000 in
theorem keyOf_yes {b0 : Nat} {H : AHeap} {bs : List Nat} (k : Int) (hU : U k) (hp : HS w b0 H bs) (hk : kk H k = 1) :
    Calls Tryz.prog 60 #[.pointer (some ⟨b0, 0, none⟩), .int .u64 k] w fun e w' => e = .returned (.tuple #[.string (strOfNums (ob H k).bytes), .bool true]) ∧ Bw w w' := by
  have oa := hs_obj hp hU (by omega)
  have HC := hid (bytes_yes k hU w hp hk)
  have HX := hid oa.2.2.2.2.1
  have HL := hid oa.2.2.2.2.2.1
  generalize (ob H k).bytes = x at *
  clear hp hk oa
  go_enter Tryz.func60, Tryz.ntmps60
  go_wp2_with (first
    | (go_at_call 17; refine HC.out.mono ?_; rintro e w1 ⟨r1, rfl, ho1, hb1⟩; obtain ⟨a1, c1, rfl⟩ := own_form ho1; have q1 := (by_own ho1 HX.out (by have := HL.out; omega)).conv0; have B1 := hid hb1; clear ho1 hb1)
    | fail)
  all_goals go_ret2
  all_goals exact ⟨rfl, B1.out⟩

set_option maxRecDepth 100000 in
set_option maxHeartbeats 1000000 in
/-- A field of a record, by a string. -/
theorem index_rec {b0 : Nat} {H : AHeap} {bs : List Nat} (r i : Int) (hr : U r) (hi : U i) (hp : HS w b0 H bs) (kr : kk H r = 3) (ki : kk H i = 1) :
    Calls Tryz.prog 19 #[.pointer (some ⟨b0, 0, none⟩), .int .u64 r, .int .u64 i] w fun e w' => e = .returned (.tuple #[.int .u64 (fV (aFieldE H r (strOfNums (ob H i).bytes)) (aFieldV H r (strOfNums (ob H i).bytes))), .int .i64 (fF (aFieldE H r (strOfNums (ob H i).bytes)))]) ∧ Bw w w' := by
  have K1 := hid (show Calls Tryz.prog 49 #[.pointer (some ⟨b0, 0, none⟩), .int .u64 r] w fun e w' => e = .returned (.int .i64 3) ∧ w' = w by have := kind_hs9 r hr w hp; rwa [kr] at this)
  have K2 := hid (keyOf_yes i hi hp ki)
  have K3 := hid (fun (w1 : World) (hb : Bw w w1) => Field_any (w := w1) r (strOfNums (ob H i).bytes) hr (hp.bw hb))
  generalize strOfNums (ob H i).bytes = s at K2 K3 ⊢
  generalize fV (aFieldE H r s) (aFieldV H r s) = V at K3 ⊢
  generalize fF (aFieldE H r s) = E at K3 ⊢
  clear hp kr ki
  go_enter Tryz.func19, Tryz.ntmps19
  go_wp2_with (first
    | (go_at_call 49; refine K1.out.mono ?_; rintro e w' ⟨rfl, hw'⟩; subst w')
    | (go_at_call 60; refine K2.out.mono ?_; rintro e w1 ⟨rfl, hb1⟩; have B1 := hid hb1; clear hb1)
    | (go_at_call 61; refine (K3.out _ B1.out).mono ?_; rintro e w2 ⟨rfl, hb2⟩; have B2 := hid (B1.out.trans hb2); clear hb2)
    | fail)
  all_goals go_ret2
  all_goals exact ⟨rfl, B2.out⟩

end

end Go.Proofs.YtjcoifdfemejkaaGreatDoor

