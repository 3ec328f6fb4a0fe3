/- The document's numbers, orders of layer 9: contracts. · The document's numbers as complex ones: the contract. -/
import Derived.Test.YtjcoifdfemejkaaGreatDoorM15
import Derived.Test.YtjcoifdfemejkaaGreatDoorM8
import Derived.Test.YtjcoifdfemejkaaGreatDoorTEk
set_option linter.unusedSimpArgs false
set_option linter.unusedVariables false
namespace Go.Proofs.YtjcoifdfemejkaaGreatDoor
open Go Go.RowKit

/-! ## plain -/

def blB : List Int → List Int → Bool
  | [], [] => false
  | [], _ :: _ => true
  | _ :: _, [] => false
  | a :: x, b :: y => if a = b then blB x y else decide (a < b)

theorem u8_lt {a b : Int} (ha : 0 ≤ a ∧ a ≤ 255) (hb : 0 ≤ b ∧ b ≤ 255) : (UInt8.ofNat a.toNat < UInt8.ofNat b.toNat) ↔ a < b := by
  rw [UInt8.lt_iff_toNat_lt, UInt8.toNat_ofNat', UInt8.toNat_ofNat', Nat.mod_eq_of_lt (by omega), Nat.mod_eq_of_lt (by omega)]
  omega

theorem bl_cmp : ∀ (x y : List Int), (∀ c ∈ x, 0 ≤ c ∧ c ≤ 255) → (∀ c ∈ y, 0 ≤ c ∧ c ≤ 255) → blB x y = decide (cmpB x y < 0) ∧ blB y x = decide (0 < cmpB x y)
  | [], [], _, _ => ⟨rfl, rfl⟩
  | [], _ :: _, _, _ => ⟨rfl, rfl⟩
  | _ :: _, [], _, _ => ⟨rfl, rfl⟩
  | a :: x, b :: y, hx, hy => by
    have ih := bl_cmp x y (fun c h => hx c (by simp [h])) (fun c h => hy c (by simp [h]))
    have ha := hx a (by simp)
    have hb := hy b (by simp)
    have h1 := u8_lt ha hb
    have h2 := u8_lt hb ha
    have e : cmpB (a :: x) (b :: y) = if UInt8.ofNat a.toNat < UInt8.ofNat b.toNat then -1 else if UInt8.ofNat b.toNat < UInt8.ofNat a.toNat then 1 else cmpB x y := by
      unfold cmpB
      simp only [strOfNums_data, List.map_cons]
      rw [Lib.compareBytes]
    rw [e]
    unfold blB
    by_cases hab : a = b
    · subst hab
      rw [if_pos rfl, if_pos rfl, if_neg (by rw [h1]; omega), if_neg (by rw [h1]; omega)]
      exact ih
    · rw [if_neg hab, if_neg (show ¬ b = a from fun h => hab h.symm)]
      by_cases hl : a < b
      · rw [if_pos (h1.2 hl)]
        exact ⟨by simp [hl], by simp; omega⟩
      · rw [if_neg (fun h => hl (h1.1 h)), if_pos (h2.2 (by omega))]
        exact ⟨by simp; omega, by simp; omega⟩

theorem bl_step (x y : List Int) (k : Nat) (hx : k < x.length) (hy : k < y.length) : blB (x.drop k) (y.drop k) = if x[k] = y[k] then blB (x.drop (k + 1)) (y.drop (k + 1)) else decide (x[k] < y[k]) := by
  rw [List.drop_eq_getElem_cons hx, List.drop_eq_getElem_cons hy]
  rfl
theorem bl_end (x y : List Int) (k : Nat) (hkx : k ≤ x.length) (hky : k ≤ y.length) (h : ¬ (k < x.length ∧ k < y.length)) : blB (x.drop k) (y.drop k) = decide (x.length < y.length) := by
  by_cases hx : k < x.length
  · have hy : y.length = k := by omega
    rw [List.drop_eq_getElem_cons hx, show y.drop k = [] from List.drop_eq_nil_of_le (by omega)]
    exact (decide_eq_false (by omega)).symm
  · rw [show x.drop k = [] from List.drop_eq_nil_of_le (by omega)]
    by_cases hy : k < y.length
    · rw [List.drop_eq_getElem_cons hy]
      exact (decide_eq_true (by omega)).symm
    · rw [show y.drop k = [] from List.drop_eq_nil_of_le (by omega)]
      exact (decide_eq_false (by omega)).symm

theorem dk_cplx (H : AHeap) (a b : Int) : dkR H (oCplx a b) = mkR H (oCplx a b) := by
  have e : dMakeE H (oCplx a b) = aMakeE H (oCplx a b) := by
    unfold dMakeE aMakeE
    rw [show aLong (oCplx a b) = false from rfl, show pLong (oCplx a b) = false from rfl, show aRight H.2.length (oCplx a b) = true from rfl, show pSound H.2.length (oCplx a b) = true from rfl]
  unfold dkR mkR dMakeV dMakeH aMakeV aMakeH
  rw [e]
theorem dk_str (H : AHeap) (b : List Int) : dkR H (oStr b) = mkR H (oStr b) := by
  have e : dMakeE H (oStr b) = aMakeE H (oStr b) := by
    unfold dMakeE aMakeE
    rw [show aLong (oStr b) = pLong (oStr b) by simp [aLong, pLong, oStr, AObj.kind, AObj.bytes, AObj.vals, AObj.keys], show aRight H.2.length (oStr b) = true from rfl, show pSound H.2.length (oStr b) = true from rfl]
  unfold dkR mkR dMakeV dMakeH aMakeV aMakeH
  rw [e]

section
variable {w w' : World}

set_option maxRecDepth 100000 in
set_option maxHeartbeats 2000000 in
theorem nbelow_any (G : Nat → Prop) (va vb : Value) (x y : List Int) (hx : Sl w G va x.length 1 (x.map (Value.int .u8))) (hy : Sl w G vb y.length 1 (y.map (Value.int .u8)))
    (hm : x.length ≤ 1000000) (hm' : y.length ≤ 1000000) :
    Calls Tryz.prog 42 #[va, vb] w fun e w' => e = .returned (.bool (blB x y)) ∧ Ly w w' := by
  obtain ⟨a, ca, rfl⟩ := hx.form
  obtain ⟨b, cb, rfl⟩ := hy.form
  have HX := hid hx
  have HY := hid hy
  clear hx hy
  go_enter Tryz.func42, Tryz.ntmps42
  go_wp2
  go_loopw [5] (fun j wr => ∃ k m, k ≤ x.length ∧ k ≤ y.length ∧ j = .int .i64 k ∧ wr = w.drewN m ∧ (blB x y = blB (x.drop k) (y.drop k))) (fun j _ => x.length - (intOf j).toNat)
  case atStart => exact ⟨0, 0, Nat.zero_le _, Nat.zero_le _, rfl, rfl, by simp⟩
  case round =>
    obtain ⟨k, m, hk, hk', rfl, rfl, hd⟩ := hrel
    have HD := hid hd
    clear hd
    by_cases hlt : k < x.length ∧ k < y.length
    · obtain ⟨hkx, hky⟩ := hlt
      obtain ⟨ba, oa, rfl, _, ca1⟩ := HX.out.at hkx
      obtain ⟨bb, ob, rfl, _, cb1⟩ := HY.out.at hky
      have c1 : w.cell? ⟨ba, oa + k, none⟩ = some (.int .u8 x[k]) := by rw [ca1]; simp [hkx]
      have c2 : w.cell? ⟨bb, ob + k, none⟩ = some (.int .u8 y[k]) := by rw [cb1]; simp [hky]
      have hb1 : (0 : Int) ≤ (k : Int) := by omega
      have hb2 : (k : Int) < (x.length : Int) := by omega
      have hb3 : (k : Int) < (y.length : Int) := by omega
      have st := bl_step x y k hkx hky
      have ST := hid st
      have HKX := hid (And.intro hkx hky)
      clear ca1 cb1 st hk hk'
      generalize x[k] = p at c1 ST
      generalize y[k] = q at c2 ST
      by_cases hpq : p = q
      · have hd2 : blB x y = blB (x.drop (k + 1)) (y.drop (k + 1)) := HD.out.trans (by rw [ST.out, if_pos hpq])
        have HD2 := hid hd2
        clear hd2
        subst hpq
        go_wp2
        go_region
        all_goals go_wp2
        all_goals
          go_roundw
          case rel => first | exact ⟨k + 1, _, HKX.out.1, HKX.out.2, by go_num, rfl, HD2.out⟩ | ((repeat apply Exists.intro); exact ⟨⟨k + 1, _, HKX.out.1, HKX.out.2, by go_num, rfl, HD2.out⟩, rfl⟩)
          case measure => simp [intOf]; omega
      · have hd2 : blB x y = decide (p < q) := HD.out.trans (by rw [ST.out, if_neg hpq])
        have hne : (p != q) = true := by simpa using hpq
        have HD2 := hid hd2
        clear hd2
        go_wp2
        go_region
        all_goals go_wp2
        all_goals try go_region
        all_goals try go_wp2
        all_goals go_ret
        all_goals exact ⟨ret_bool HD2.out.symm, by repeat (first | exact Ly.refl _ | apply Ly.lay | apply Ly.alloc | apply Ly.drewN | apply Ly.drew)⟩
    · have hd2 := HD.out.trans (bl_end x y k hk hk' hlt)
      have HD2 := hid hd2
      clear hd2
      by_cases hkx : k < x.length
      · have h1 : (k : Int) < (x.length : Int) := by omega
        have h2 : ¬ (k : Int) < (y.length : Int) := by omega
        clear hlt hk hk'
        go_wp2
        all_goals go_ret
        all_goals exact ⟨ret_bool HD2.out.symm, by repeat (first | exact Ly.refl _ | apply Ly.lay | apply Ly.alloc | apply Ly.drewN | apply Ly.drew)⟩
      · have h1 : ¬ (k : Int) < (x.length : Int) := by omega
        clear hlt hk hk'
        go_wp2
        all_goals go_ret
        all_goals exact ⟨ret_bool HD2.out.symm, by repeat (first | exact Ly.refl _ | apply Ly.lay | apply Ly.alloc | apply Ly.drewN | apply Ly.drew)⟩

set_option maxRecDepth 100000 in
set_option maxHeartbeats 1000000 in
theorem norder_any (op : Int) (less more : Bool) (h7 : 7 ≤ op) (h10 : op ≤ 10) : Calls Tryz.prog 37 #[.int .i64 op, .bool less, .bool more] w fun e w' => e = .returned (.int .u64 (cpV op less more)) ∧ Ly w w' := by
  have hop : op = 7 ∨ op = 8 ∨ op = 9 ∨ op = 10 := by omega
  rcases hop with rfl | rfl | rfl | rfl
  all_goals clear h7 h10
  all_goals go_enter Tryz.func37, Tryz.ntmps37
  all_goals go_wp2_with (first
    | (go_at_call 33; refine (srbool_any _ _).mono ?_; rintro e w' ⟨rfl, hw'⟩; subst w')
    | fail)
  all_goals go_ret
  all_goals exact ⟨rfl, by repeat (first | exact Ly.refl _ | apply Ly.lay | apply Ly.alloc | apply Ly.drewN | apply Ly.drew)⟩

end

end Go.Proofs.YtjcoifdfemejkaaGreatDoor

set_option linter.unusedSimpArgs false
set_option linter.unusedVariables false
namespace Go.Proofs.YtjcoifdfemejkaaGreatDoor
open Go Go.RowKit

theorem cn_zero : cn 0 = 0 := by kernel_rfl
theorem fi_zero : floatOfInt .f64 0 = 0 := by kernel_rfl
theorem kof_not6 {H : AHeap} {v : Int} (h : ¬ isC H v) : kk H v ≠ 6 := by
  intro h6
  apply h
  exact .inr (by rw [kof_kk (by omega)]; exact h6)

def NP (H : AHeap) (v : Int) (w : World) (e : Ending) (w' : World) : Prop := ∃ x y, e = .returned (.tuple #[zf x y, .bool (decide (isC H v))]) ∧ (isC H v → cn x = cn (cxr H v) ∧ cn y = cn (cxi H v)) ∧ Bw w w'

section
variable {w w' : World}

set_option maxRecDepth 100000 in
set_option maxHeartbeats 2000000 in
theorem nnumber_any (G : Nat → Prop) (hv : Value) (H : AHeap) (v : Int) (hU : U v) (hok : HOK H) (h9 : ∀ o ∈ H.2, o.kind ≤ 9) (h : RdH w G hv H) (hm : H.2.length ≤ 1000000) :
    Calls Tryz.prog 43 #[hv, .int .u64 v] w (NP H v w) := by
  have HR := hid h
  obtain ⟨ah, ch, rfl⟩ := h.form
  clear h
  unfold NP
  by_cases k10 : kof H v = 10
  · have hn := kof_10 hU hok k10 h9
    have hc : isC H v := .inl k10
    rw [decide_eq_true hc, show cxr H v = floatOfInt .f64 (nm v) from if_pos k10, show cxi H v = floatOfInt .f64 0 from if_pos k10]
    have HN := hid (fun w1 => srnum_yes v hU hn w1)
    have HC := hid hc
    generalize nm v = n at HN ⊢
    clear hok h9 k10 hn hc
    go_enter Tryz.func43, Tryz.ntmps43
    go_wp2_with (first
      | (go_at_call 92; refine (HN.out _).mono ?_; rintro e w' ⟨rfl, hw'⟩; subst w')
      | fail)
    refine bodyPost_ret (v := .tuple #[zf (floatOfInt .f64 n) 0, .bool true]) (by simp [results, Tryz.results43, go_sem]) rfl ?_
    exact ⟨_, _, rfl, fun _ => ⟨rfl, by rw [fi_zero]⟩, by repeat (first | exact Bw.refl _ | apply Bw.lay | apply Bw.alloc | apply Bw.drewN | apply Bw.drew)⟩
  · have hn : ¬ N v := fun h => k10 (kof_num (kd_num h))
    have HN := hid (fun w1 => show Calls Tryz.prog 92 #[.int .u64 v] w1 fun e w' => e = .returned (.tuple #[.int .i64 0, .bool false]) ∧ w' = w1 by
      have := srnum_any v hU w1
      rwa [show numV v = 0 from if_neg hn, show isN v = false from decide_eq_false hn] at this)
    by_cases hc : isC H v
    · have k6 : kk H v = 6 := kof_kk6 (.inr rfl) (hc.resolve_left k10)
      rw [decide_eq_true hc, show cxr H v = cn (ob H v).re.toNat from if_neg k10, show cxi H v = cn (ob H v).im.toNat from if_neg k10]
      obtain ⟨_, _, k, hi, hg⟩ := ob_mem (H := H) hU (by omega)
      have HK := hid (fun w1 (hb : Bw w w1) => rkindH_any G _ H v hU w1 (HR.out.below hb) (by omega))
      rw [k6] at HK
      have HOF := hid (fun w1 (hb : Bw w w1) => rof_any G _ H v hU k hi (ob H v) hg w w1 hb HR.out (by omega))
      generalize ob H v = o at HOF ⊢
      clear hok h9 k10 hn hc k6 hi hg hm HR
      go_enter Tryz.func43, Tryz.ntmps43
      go_wp2_with (first
        | (go_at_call 92; refine (HN.out _).mono ?_; rintro e w' ⟨rfl, hw'⟩; subst w')
        | (go_at_call 39; refine (HK.out _ (by repeat (first | exact Bw.refl _ | apply Bw.lay | apply Bw.alloc | apply Bw.drewN | apply Bw.drew))).mono ?_; rintro e w1 ⟨rfl, os1, m1, rfl⟩)
        | (go_at_call 40; refine (HOF.out _ (by repeat (first | exact Bw.refl _ | apply Bw.lay | apply Bw.alloc | apply Bw.drewN | apply Bw.drew))).mono ?_; rintro e w2 ⟨vb, vv, vk, rfl, hol, os2, m2, rfl⟩; obtain ⟨ab, cb, rfl⟩ := hol.1.form; obtain ⟨av, cv, rfl⟩ := hol.2.1.form; obtain ⟨ak, ck, rfl⟩ := hol.2.2.form; unfold objV; clear hol)
        | (go_at_call 95; refine (gof_any _ _ _).mono ?_; rintro e w3 ⟨rfl, os3, m3, rfl⟩)
        | fail)
      refine bodyPost_ret (v := .tuple #[zf o.re.toNat o.im.toNat, .bool true]) (by simp [results, Tryz.results43, go_sem]) rfl ?_
      exact ⟨_, _, rfl, fun _ => ⟨(cn_cn _).symm, (cn_cn _).symm⟩, by repeat (first | exact Bw.refl _ | apply Bw.lay | apply Bw.alloc | apply Bw.drewN | apply Bw.drew)⟩
    · have k6 := kof_not6 hc
      rw [decide_eq_false hc]
      have HC := hid hc
      have HK := hid (fun w1 (hb : Bw w w1) => rkindH_any G _ H v hU w1 (HR.out.below hb) (by omega))
      generalize hq : kk H v = q at HK k6
      have n6 : (q != 6) = true := by simpa using k6
      clear hok h9 k10 hn hc k6 hm HR hq
      go_enter Tryz.func43, Tryz.ntmps43
      go_wp2_with (first
        | (go_at_call 92; refine (HN.out _).mono ?_; rintro e w' ⟨rfl, hw'⟩; subst w')
        | (go_at_call 39; refine (HK.out _ (by repeat (first | exact Bw.refl _ | apply Bw.lay | apply Bw.alloc | apply Bw.drewN | apply Bw.drew))).mono ?_; rintro e w1 ⟨rfl, os1, m1, rfl⟩)
        | fail)
      refine bodyPost_ret (v := .tuple #[zf 0 0, .bool false]) (by simp [results, Tryz.results43, go_sem]) rfl ?_
      exact ⟨_, _, rfl, fun h => absurd h HC.out, by repeat (first | exact Bw.refl _ | apply Bw.lay | apply Bw.alloc | apply Bw.drewN | apply Bw.drew)⟩

end

end Go.Proofs.YtjcoifdfemejkaaGreatDoor

