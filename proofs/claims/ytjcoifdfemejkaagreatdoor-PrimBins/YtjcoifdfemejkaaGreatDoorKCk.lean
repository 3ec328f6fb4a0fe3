/- prim: two strings together; entries and fields: contracts. -/
import Derived.Test.YtjcoifdfemejkaaGreatDoorM7
import Derived.Test.YtjcoifdfemejkaaGreatDoorM10
import Derived.Test.YtjcoifdfemejkaaGreatDoorM6
import Derived.Test.YtjcoifdfemejkaaGreatDoorPJk
set_option linter.unusedSimpArgs false
set_option linter.unusedVariables false
namespace Go.Proofs.YtjcoifdfemejkaaGreatDoor
open Go Go.RowKit

section
variable {w w' : World}

theorem hs_obj {b0 : Nat} {H : AHeap} {bs : List Nat} (hp : HS w b0 H bs) {v : Int} (hU : U v) (hk : kk H v ≠ 0) : OKo (ob H v) := ob_ok hp.ok hU (kk_ref hk).2.1

set_option maxRecDepth 100000 in
set_option maxHeartbeats 2000000 in
theorem binStrings_join {b0 : Nat} {H : AHeap} {bs : List Nat} (a b : Int) (ha : U a) (hb : U b) (hp : HS w b0 H bs) (ka : kk H a = 1) (kb : kk H b = 1) :
    Calls Tryz.prog 32 #[.pointer (some ⟨b0, 0, none⟩), .int .i64 0, .int .u64 a, .int .u64 b] w fun e w' => e = .returned (.tuple #[.int .u64 (aMakeV H (oStr ((ob H a).bytes ++ (ob H b).bytes))), .int .i64 (mF (aMakeE H (oStr ((ob H a).bytes ++ (ob H b).bytes))))]) ∧ ∃ bs', HS w' b0 (aMakeH H (oStr ((ob H a).bytes ++ (ob H b).bytes))) bs' ∧ Nx bs w w' bs' := by
  have oa := hs_obj hp ha (by omega)
  have obb := hs_obj hp hb (by omega)
  have HP := hid hp
  have HC1 := hid (fun w1 (hw : Bw w w1) => bytes_yes a ha w1 (hp.bw hw) ka)
  have HC2 := hid (fun w1 (hw : Bw w w1) => bytes_yes b hb w1 (hp.bw hw) kb)
  have lx := oa.2.2.2.2.2.1
  have ly := obb.2.2.2.2.2.1
  have HX := hid oa.2.2.2.2.1
  have HY := hid obb.2.2.2.2.1
  generalize (ob H a).bytes = x at *
  generalize (ob H b).bytes = y at *
  have HBY := hid (show ∀ c ∈ x ++ y, 0 ≤ c ∧ c ≤ 255 from fun c hc => (List.mem_append.1 hc).elim (HX.out c) (HY.out c))
  obtain ⟨i1, hi1, hz1, hs1, hy1⟩ := info_parts infoU8
  have I1 := hid (And.intro hi1 (And.intro hz1 (And.intro hs1 hy1)))
  clear hi1 hz1 hs1 hy1 oa obb hp ka kb HX HY
  go_enter Tryz.func32, Tryz.ntmps32
  go_wp2_with (first
    | (go_at_call_of 17 (Value.int .u64 a); refine (HC1.out _ (by repeat (first | exact Bw.refl _ | apply Bw.alloc | apply Bw.drewN | apply Bw.drew))).mono ?_; rintro e w1 ⟨r1, rfl, ho1, hb1⟩; obtain ⟨a1, c1, rfl⟩ := own_form ho1; have O1 := hid ho1; have B1 := hid (show Bw w w1 from Bw.trans (by repeat (first | exact Bw.refl _ | apply Bw.alloc | apply Bw.drewN | apply Bw.drew)) hb1); clear ho1 hb1 HC1)
    | (go_at_call_of 17 (Value.int .u64 b); refine (HC2.out _ (B1.out.trans (by repeat (first | exact Bw.refl _ | apply Bw.alloc | apply Bw.drewN | apply Bw.drew)))).mono ?_; rintro e w2 ⟨r2, rfl, ho2, hb2⟩; obtain ⟨a2, c2, rfl⟩ := own_form ho2; have O2 := hid ho2; have B12 := hid (show Bw w1 w2 from Bw.trans (by repeat (first | exact Bw.refl _ | apply Bw.alloc | apply Bw.drewN | apply Bw.drew)) hb2); clear ho2 hb2)
    | (at_builtin; refine wpList_append_sl (G := fun _ => True) _ rfl _ _ 46 rfl w.heap.size 5 i1 (.int .u8 0) 1 1 Tryz.underlying46 I1.out.1 I1.out.2.1 I1.out.2.2.1 I1.out.2.2.2 rfl (by decide) (.slice a1 x.length c1) x.length (x.map (Value.int .u8)) rfl (own_bw O1.out B12.out) (.slice a2 y.length c2) y.length (y.map (Value.int .u8)) rfl (own_sl O2.out (fun _ _ => trivial)) (ints_one _ _) (by unfold maxLen; omega) (by omega) (Nat.le_trans B1.out.size B12.out.size) ?_; intro v' w3 ho3 hg3; obtain ⟨a3, c3, rfl⟩ := own_form ho3; have B3 := hid (show Bw w w3 from bw_grown (B1.out.trans B12.out) (Nat.le_refl _) (own_bw O1.out B12.out) hg3); have O3 := hid (show Sl w3 (fun _ => True) (.slice a3 (x.length + y.length) c3) (x ++ y).length 1 ((x ++ y).map (Value.int .u8)) by rw [List.length_append, List.map_append]; exact own_sl ho3 (fun _ _ => trivial)); clear ho3 hg3)
    | (go_at_call 90; refine (newString_any (fun _ => True) _ (x ++ y) (HP.out.bw B3.out) O3.out HBY.out (by rw [List.length_append]; omega)).mono ?_; rintro e w4 ⟨rfl, bs4, hs4, hn4⟩; have S4 := hid hs4; have N4 := hid (Bw.nxBefore B3.out hn4); clear hs4 hn4)
    | fail)
  go_ret2
  exact ⟨rfl, _, S4.out, N4.out⟩

theorem kof_kk {H : AHeap} {v : Int} (h : kk H v ≠ 0) : kof H v = kk H v := by
  have := (kk_ref h).1
  unfold kof
  rw [if_neg (by omega), if_neg (by omega), if_neg (by omega)]

theorem kof_num {H : AHeap} {v : Int} (h : kd v = 0) : kof H v = 10 := if_pos h

set_option maxRecDepth 100000 in
set_option maxHeartbeats 2000000 in
theorem bin_join {b0 : Nat} {H : AHeap} {bs : List Nat} (a b : Int) (ha : U a) (hb : U b) (hp : HS w b0 H bs) (ka : kk H a = 1) (kb : kk H b = 1) :
    Calls Tryz.prog 7 #[.pointer (some ⟨b0, 0, none⟩), .int .i64 0, .int .u64 a, .int .u64 b] w fun e w' => e = .returned (.tuple #[.int .u64 (aMakeV H (oStr ((ob H a).bytes ++ (ob H b).bytes))), .int .i64 (mF (aMakeE H (oStr ((ob H a).bytes ++ (ob H b).bytes))))]) ∧ ∃ bs', HS w' b0 (aMakeH H (oStr ((ob H a).bytes ++ (ob H b).bytes))) bs' ∧ Nx bs w w' bs' := by
  have HC := hid (binStrings_join a b ha hb hp ka kb)
  have K1 := hid (show Calls Tryz.prog 28 #[.pointer (some ⟨b0, 0, none⟩), .int .u64 a] w fun e w' => e = .returned (.int .i64 1) ∧ w' = w by have := kindOf_any a ha hp; rwa [kof_kk (by omega), ka] at this)
  have K2 := hid (show Calls Tryz.prog 28 #[.pointer (some ⟨b0, 0, none⟩), .int .u64 b] w fun e w' => e = .returned (.int .i64 1) ∧ w' = w by have := kindOf_any b hb hp; rwa [kof_kk (by omega), kb] at this)
  generalize aMakeV H (oStr ((ob H a).bytes ++ (ob H b).bytes)) = V at HC ⊢
  generalize mF (aMakeE H (oStr ((ob H a).bytes ++ (ob H b).bytes))) = E at HC ⊢
  generalize aMakeH H (oStr ((ob H a).bytes ++ (ob H b).bytes)) = H' at HC ⊢
  clear hp ka kb
  go_enter Tryz.func7, Tryz.ntmps7
  go_wp2_with (first
    | (go_at_call_of 28 (Value.int .u64 a); refine K1.out.mono ?_; rintro e w' ⟨rfl, hw'⟩; subst w')
    | (go_at_call_of 28 (Value.int .u64 b); refine K2.out.mono ?_; rintro e w' ⟨rfl, hw'⟩; subst w')
    | (go_at_call 32; refine HC.out.mono ?_; rintro e w1 ⟨rfl, bs1, hs1, hn1⟩; have S1 := hid hs1; have N1 := hid hn1; clear hs1 hn1)
    | fail)
  all_goals go_ret2
  all_goals exact ⟨rfl, _, S1.out, N1.out⟩

set_option maxRecDepth 100000 in
set_option maxHeartbeats 2000000 in
/-- A number and a string. -/
theorem bin_type {b0 : Nat} {H : AHeap} {bs : List Nat} (a b : Int) (ha : U a) (hb : U b) (hp : HS w b0 H bs) (ka : kd a = 0) (kb : kk H b = 1) :
    Calls Tryz.prog 7 #[.pointer (some ⟨b0, 0, none⟩), .int .i64 0, .int .u64 a, .int .u64 b] w fun e w' => e = .returned (.tuple #[.int .u64 0, .int .i64 1]) ∧ w' = w := by
  have K1 := hid (show Calls Tryz.prog 28 #[.pointer (some ⟨b0, 0, none⟩), .int .u64 a] w fun e w' => e = .returned (.int .i64 10) ∧ w' = w by have := kindOf_any a ha hp; rwa [kof_num ka] at this)
  have K2 := hid (show Calls Tryz.prog 28 #[.pointer (some ⟨b0, 0, none⟩), .int .u64 b] w fun e w' => e = .returned (.int .i64 1) ∧ w' = w by have := kindOf_any b hb hp; rwa [kof_kk (by omega), kb] at this)
  clear hp ka kb
  go_enter Tryz.func7, Tryz.ntmps7
  go_wp2_with (first
    | (go_at_call_of 28 (Value.int .u64 a); refine K1.out.mono ?_; rintro e w' ⟨rfl, hw'⟩; subst w')
    | (go_at_call_of 28 (Value.int .u64 b); refine K2.out.mono ?_; rintro e w' ⟨rfl, hw'⟩; subst w')
    | fail)
  all_goals go_ret2
  all_goals exact ⟨rfl, rfl⟩

def iF (e : Int) : Int := if e = 0 then 0 else 3
def iV (e v : Int) : Int := if e = 0 then v else 0

set_option maxRecDepth 100000 in
set_option maxHeartbeats 2000000 in
/-- An entry of an array. -/
theorem index_arr {b0 : Nat} {H : AHeap} {bs : List Nat} (a i : Int) (ha : U a) (hi : U i) (hp : HS w b0 H bs) (ka : kk H a = 2) (ki : N i) :
    Calls Tryz.prog 19 #[.pointer (some ⟨b0, 0, none⟩), .int .u64 a, .int .u64 i] w fun e w' => e = .returned (.tuple #[.int .u64 (iV (aAtE H a (nm i)) (aAtV H a (nm i))), .int .i64 (iF (aAtE H a (nm i)))]) ∧ Bw w w' := by
  have K1 := hid (show Calls Tryz.prog 49 #[.pointer (some ⟨b0, 0, none⟩), .int .u64 a] w fun e w' => e = .returned (.int .i64 2) ∧ w' = w by have := kind_hs9 a ha w hp; rwa [ka] at this)
  have HC := hid (at_any a (nm i) ha w hp)
  have HN := hid (tnum_yes i hi ki w)
  unfold iF iV
  generalize aAtE H a (nm i) = E at HC ⊢
  generalize aAtV H a (nm i) = V at HC ⊢
  generalize nm i = n at HC HN
  clear hp ka ki
  by_cases h0 : E = 0
  · subst h0
    rw [if_pos rfl, if_pos rfl]
    go_enter Tryz.func19, Tryz.ntmps19
    go_wp2_with (first
      | (go_at_call 49; refine K1.out.mono ?_; rintro e w' ⟨rfl, hw'⟩; subst w')
      | (go_at_call 59; refine HN.out.mono ?_; rintro e w' ⟨rfl, hw'⟩; subst w')
      | (go_at_call 51; refine HC.out.mono ?_; rintro e w1 ⟨rfl, hl1⟩; have B1 := hid hl1.bw; clear hl1)
      | fail)
    all_goals go_ret2
    all_goals exact ⟨rfl, B1.out⟩
  · rw [if_neg h0, if_neg h0]
    have b0' : (E != 0) = true := by simpa using h0
    clear h0
    go_enter Tryz.func19, Tryz.ntmps19
    go_wp2_with (first
      | (go_at_call 49; refine K1.out.mono ?_; rintro e w' ⟨rfl, hw'⟩; subst w')
      | (go_at_call 59; refine HN.out.mono ?_; rintro e w' ⟨rfl, hw'⟩; subst w')
      | (go_at_call 51; refine HC.out.mono ?_; rintro e w1 ⟨rfl, hl1⟩; have B1 := hid hl1.bw; clear hl1)
      | fail)
    all_goals go_ret2
    all_goals exact ⟨rfl, B1.out⟩

end

end Go.Proofs.YtjcoifdfemejkaaGreatDoor

