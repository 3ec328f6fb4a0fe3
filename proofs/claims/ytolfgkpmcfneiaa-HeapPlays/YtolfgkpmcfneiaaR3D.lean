/- The document's answers that ask: entries, fields: the contracts. -/
import Derived.Test.YtolfgkpmcfneiaaR3C
set_option linter.unusedSimpArgs false
set_option linter.unusedVariables false
namespace Go.Proofs.Ytolfgkpmcfneiaa
open Go Go.RowKit

set_option maxRecDepth 100000 in
set_option maxHeartbeats 8000000 in
theorem rat_kind (G : Nat → Prop) (hv : Value) (H : AHeap) (v i : Int) (hU : U v) (w : World) (h : RdH w G hv H) (hm : H.2.length ≤ 1000000) (hk : ¬ (kk H v = 1 ∨ kk H v = 2 ∨ kk H v = 4)) :
    Calls Try.prog 66 #[hv, .int .u64 v, .int .i64 i] w fun e w' => e = .returned (.tuple #[.int .u64 0, .int .i64 8]) ∧ Ly w w' := by
  have HR := hid h
  obtain ⟨va, t, rfl, ht, hs, ho⟩ := h
  obtain ⟨a, cap, rfl⟩ := hs.form
  have k1 : (kk H v != 1) = true := by simp; omega
  have k2 : (kk H v != 2) = true := by simp; omega
  have k4 : (kk H v != 4) = true := by simp; omega
  clear ht hs ho hk
  go_enter Try.func66, Try.ntmps66
  go_wp2_with (first
    | (go_at_call 61; refine (rkindH_any G _ H _ hU _ (RdH.below HR.out (Ly.bw (by repeat (first | exact Ly.refl _ | apply Ly.lay | apply Ly.alloc | apply Ly.drewN | apply Ly.drew)))) (by omega)).mono ?_; rintro e w' ⟨rfl, os, m, rfl⟩))
  all_goals go_ret2
  all_goals exact ⟨rfl, by repeat (first | exact Ly.refl _ | apply Ly.lay | apply Ly.alloc | apply Ly.drewN | apply Ly.drew)⟩

set_option maxRecDepth 100000 in
set_option maxHeartbeats 8000000 in
theorem rat_str (G : Nat → Prop) (hv : Value) (H : AHeap) (v i : Int) (hU : U v) (w : World) (h : RdH w G hv H) (hok : HOK H) (hm : H.2.length ≤ 1000000) (hk : kk H v = 1) (hi : 0 ≤ i ∧ i < (ob H v).bytes.length) :
    Calls Try.prog 66 #[hv, .int .u64 v, .int .i64 i] w fun e w' => e = .returned (.tuple #[.int .u64 (mk ((ob H v).bytes.getD i.toNat 0)), .int .i64 0]) ∧ Ly w w' := by
  have HR := hid h
  obtain ⟨va, t, rfl, ht, hs, ho⟩ := h
  obtain ⟨a, cap, rfl⟩ := hs.form
  have hkr := kk_ref (H := H) (v := v) (by omega)
  obtain ⟨hg, hge⟩ := ob_get (H := H) hU hkr.2.1
  have hoo := ob_ok hok hU hkr.2.1
  have hv0 : (ob H v).vals = [] := hoo.1 (by omega)
  have HG := hid hg
  have HGE := hid hge
  obtain ⟨j, rfl⟩ : ∃ j : Nat, i = j := ⟨i.toNat, by omega⟩
  have hjl : j < (ob H v).bytes.length := by omega
  have hbd := hoo.2.2.2.2.1 _ (List.getElem_mem hjl)
  have hbl := hoo.2.2.2.2.2.1
  clear ht hs ho hg hge hkr hoo hok
  generalize hob : ob H v = o at *
  have hi2 : (j : Int) < (o.bytes.length : Int) := hi.2
  go_enter Try.func66, Try.ntmps66
  go_wp2_with (first
    | (go_at_call 61; refine (rkindH_any G _ H _ hU _ (RdH.below HR.out (Ly.bw (by repeat (first | exact Ly.refl _ | apply Ly.lay | apply Ly.alloc | apply Ly.drewN | apply Ly.drew)))) (by omega)).mono ?_; rintro e w' ⟨rfl, os, m, rfl⟩)
    | (go_at_call 62; refine (rof_any G _ H _ hU _ HGE.out _ HG.out w _ (Ly.bw (by repeat (first | exact Ly.refl _ | apply Ly.lay | apply Ly.alloc | apply Ly.drewN | apply Ly.drew))) HR.out (by omega)).mono ?_; rintro e w' ⟨vb, vv, vk, rfl, hol, os, m, rfl⟩; obtain ⟨ab, cb, rfl⟩ := hol.1.form; obtain ⟨av, cv, rfl⟩ := hol.2.1.form; obtain ⟨ak, ck, rfl⟩ := hol.2.2.form; obtain ⟨bb, off, rfl, hbs, c1⟩ := hol.1.at hjl; have c2 : w.cell? ⟨bb, off + j, none⟩ = some (.int .u8 o.bytes[j]) := (by rw [c1]; simp [hjl]); clear c1 hol)
    | (go_at_call 74; refine (rint_any _ _).mono ?_; rintro e w' ⟨rfl, rfl⟩))
  all_goals go_ret2
  all_goals refine ⟨?_, by repeat (first | exact Ly.refl _ | apply Ly.lay | apply Ly.alloc | apply Ly.drewN | apply Ly.drew)⟩
  all_goals simp [hjl]

set_option maxRecDepth 100000 in
set_option maxHeartbeats 8000000 in
theorem rat_strOut (G : Nat → Prop) (hv : Value) (H : AHeap) (v i : Int) (hU : U v) (w : World) (h : RdH w G hv H) (hok : HOK H) (hm : H.2.length ≤ 1000000) (hk : kk H v = 1) (hi : ¬ (0 ≤ i ∧ i < (ob H v).bytes.length)) :
    Calls Try.prog 66 #[hv, .int .u64 v, .int .i64 i] w fun e w' => e = .returned (.tuple #[.int .u64 0, .int .i64 9]) ∧ Ly w w' := by
  have HR := hid h
  obtain ⟨va, t, rfl, ht, hs, ho⟩ := h
  obtain ⟨a, cap, rfl⟩ := hs.form
  have hkr := kk_ref (H := H) (v := v) (by omega)
  obtain ⟨hg, hge⟩ := ob_get (H := H) hU hkr.2.1
  have hoo := ob_ok hok hU hkr.2.1
  have hv0 : (ob H v).vals = [] := hoo.1 (by omega)
  have HG := hid hg
  have HGE := hid hge
  have hbl := hoo.2.2.2.2.2.1
  clear ht hs ho hg hge hkr hoo hok
  generalize hob : ob H v = o at *
  by_cases h0 : i < 0
  · clear hi
    go_enter Try.func66, Try.ntmps66
    go_wp2_with (first
      | (go_at_call 61; refine (rkindH_any G _ H _ hU _ (RdH.below HR.out (Ly.bw (by repeat (first | exact Ly.refl _ | apply Ly.lay | apply Ly.alloc | apply Ly.drewN | apply Ly.drew)))) (by omega)).mono ?_; rintro e w' ⟨rfl, os, m, rfl⟩)
      | (go_at_call 62; refine (rof_any G _ H _ hU _ HGE.out _ HG.out w _ (Ly.bw (by repeat (first | exact Ly.refl _ | apply Ly.lay | apply Ly.alloc | apply Ly.drewN | apply Ly.drew))) HR.out (by omega)).mono ?_; rintro e w' ⟨vb, vv, vk, rfl, hol, os, m, rfl⟩; obtain ⟨ab, cb, rfl⟩ := hol.1.form; obtain ⟨av, cv, rfl⟩ := hol.2.1.form; obtain ⟨ak, ck, rfl⟩ := hol.2.2.form; clear hol))
    all_goals go_ret2
    all_goals exact ⟨rfl, by repeat (first | exact Ly.refl _ | apply Ly.lay | apply Ly.alloc | apply Ly.drewN | apply Ly.drew)⟩
  · have h1 : (o.bytes.length : Int) ≤ i := by omega
    clear hi
    go_enter Try.func66, Try.ntmps66
    go_wp2_with (first
      | (go_at_call 61; refine (rkindH_any G _ H _ hU _ (RdH.below HR.out (Ly.bw (by repeat (first | exact Ly.refl _ | apply Ly.lay | apply Ly.alloc | apply Ly.drewN | apply Ly.drew)))) (by omega)).mono ?_; rintro e w' ⟨rfl, os, m, rfl⟩)
      | (go_at_call 62; refine (rof_any G _ H _ hU _ HGE.out _ HG.out w _ (Ly.bw (by repeat (first | exact Ly.refl _ | apply Ly.lay | apply Ly.alloc | apply Ly.drewN | apply Ly.drew))) HR.out (by omega)).mono ?_; rintro e w' ⟨vb, vv, vk, rfl, hol, os, m, rfl⟩; obtain ⟨ab, cb, rfl⟩ := hol.1.form; obtain ⟨av, cv, rfl⟩ := hol.2.1.form; obtain ⟨ak, ck, rfl⟩ := hol.2.2.form; clear hol))
    all_goals go_ret2
    all_goals exact ⟨rfl, by repeat (first | exact Ly.refl _ | apply Ly.lay | apply Ly.alloc | apply Ly.drewN | apply Ly.drew)⟩

set_option maxRecDepth 100000 in
set_option maxHeartbeats 8000000 in
theorem rat_arr (G : Nat → Prop) (hv : Value) (H : AHeap) (v i : Int) (hU : U v) (w : World) (h : RdH w G hv H) (hok : HOK H) (hm : H.2.length ≤ 1000000) (hk : kk H v = 2 ∨ kk H v = 4) (hi : 0 ≤ i ∧ i < (ob H v).vals.length) :
    Calls Try.prog 66 #[hv, .int .u64 v, .int .i64 i] w fun e w' => e = .returned (.tuple #[.int .u64 ((ob H v).vals.getD i.toNat 0), .int .i64 0]) ∧ Ly w w' := by
  have HR := hid h
  obtain ⟨va, t, rfl, ht, hs, ho⟩ := h
  obtain ⟨a, cap, rfl⟩ := hs.form
  have hkr := kk_ref (H := H) (v := v) (by omega)
  obtain ⟨hg, hge⟩ := ob_get (H := H) hU hkr.2.1
  have hoo := ob_ok hok hU hkr.2.1
  have hv0 : (ob H v).bytes = [] := hoo.2.1 (by omega)
  have HG := hid hg
  have HGE := hid hge
  obtain ⟨j, rfl⟩ : ∃ j : Nat, i = j := ⟨i.toNat, by omega⟩
  have hjl : j < (ob H v).vals.length := by omega
  have hbl := hoo.2.2.2.2.2.2.1
  have kb1 : (kk H v != 1) = true := by simp; omega
  have kb2 : (kk H v == 1) = false := by simp; omega
  clear ht hs ho hg hge hkr hoo hok
  generalize hob : ob H v = o at *
  have hi2 : (j : Int) < (o.vals.length : Int) := hi.2
  rcases hk with hk | hk
  all_goals
    go_enter Try.func66, Try.ntmps66
    go_wp2_with (first
      | (go_at_call 61; refine (rkindH_any G _ H _ hU _ (RdH.below HR.out (Ly.bw (by repeat (first | exact Ly.refl _ | apply Ly.lay | apply Ly.alloc | apply Ly.drewN | apply Ly.drew)))) (by omega)).mono ?_; rintro e w' ⟨rfl, os, m, rfl⟩)
      | (go_at_call 62; refine (rof_any G _ H _ hU _ HGE.out _ HG.out w _ (Ly.bw (by repeat (first | exact Ly.refl _ | apply Ly.lay | apply Ly.alloc | apply Ly.drewN | apply Ly.drew))) HR.out (by omega)).mono ?_; rintro e w' ⟨vb, vv, vk, rfl, hol, os, m, rfl⟩; obtain ⟨ab, cb, rfl⟩ := hol.1.form; obtain ⟨av, cv, rfl⟩ := hol.2.1.form; obtain ⟨ak, ck, rfl⟩ := hol.2.2.form; obtain ⟨bb, off, rfl, hbs, c1⟩ := hol.2.1.at hjl; have c2 : w.cell? ⟨bb, off + j, none⟩ = some (.int .u64 o.vals[j]) := (by rw [c1]; simp [hjl]); clear c1 hol))
    all_goals go_ret2
    all_goals refine ⟨?_, by repeat (first | exact Ly.refl _ | apply Ly.lay | apply Ly.alloc | apply Ly.drewN | apply Ly.drew)⟩
    all_goals simp [hjl]

set_option maxRecDepth 100000 in
set_option maxHeartbeats 8000000 in
theorem rat_arrOut (G : Nat → Prop) (hv : Value) (H : AHeap) (v i : Int) (hU : U v) (w : World) (h : RdH w G hv H) (hok : HOK H) (hm : H.2.length ≤ 1000000) (hk : kk H v = 2 ∨ kk H v = 4) (hi : ¬ (0 ≤ i ∧ i < (ob H v).vals.length)) :
    Calls Try.prog 66 #[hv, .int .u64 v, .int .i64 i] w fun e w' => e = .returned (.tuple #[.int .u64 0, .int .i64 9]) ∧ Ly w w' := by
  have HR := hid h
  obtain ⟨va, t, rfl, ht, hs, ho⟩ := h
  obtain ⟨a, cap, rfl⟩ := hs.form
  have hkr := kk_ref (H := H) (v := v) (by omega)
  obtain ⟨hg, hge⟩ := ob_get (H := H) hU hkr.2.1
  have hoo := ob_ok hok hU hkr.2.1
  have hv0 : (ob H v).bytes = [] := hoo.2.1 (by omega)
  have HG := hid hg
  have HGE := hid hge
  have hbl := hoo.2.2.2.2.2.2.1
  clear ht hs ho hg hge hkr hoo hok
  generalize hob : ob H v = o at *
  have h01 : i < 0 ∨ (¬ i < 0 ∧ (o.vals.length : Int) ≤ i) := by omega
  clear hi
  rcases h01 with h0 | ⟨h0, h1⟩ <;> rcases hk with hk | hk
  all_goals
    go_enter Try.func66, Try.ntmps66
    go_wp2_with (first
      | (go_at_call 61; refine (rkindH_any G _ H _ hU _ (RdH.below HR.out (Ly.bw (by repeat (first | exact Ly.refl _ | apply Ly.lay | apply Ly.alloc | apply Ly.drewN | apply Ly.drew)))) (by omega)).mono ?_; rintro e w' ⟨rfl, os, m, rfl⟩)
      | (go_at_call 62; refine (rof_any G _ H _ hU _ HGE.out _ HG.out w _ (Ly.bw (by repeat (first | exact Ly.refl _ | apply Ly.lay | apply Ly.alloc | apply Ly.drewN | apply Ly.drew))) HR.out (by omega)).mono ?_; rintro e w' ⟨vb, vv, vk, rfl, hol, os, m, rfl⟩; obtain ⟨ab, cb, rfl⟩ := hol.1.form; obtain ⟨av, cv, rfl⟩ := hol.2.1.form; obtain ⟨ak, ck, rfl⟩ := hol.2.2.form; clear hol))
    all_goals go_ret2
    all_goals exact ⟨rfl, by repeat (first | exact Ly.refl _ | apply Ly.lay | apply Ly.alloc | apply Ly.drewN | apply Ly.drew)⟩

theorem rat_any (G : Nat → Prop) (hv : Value) (H : AHeap) (v i : Int) (hU : U v) (w : World) (h : RdH w G hv H) (hok : HOK H) (hm : H.2.length ≤ 1000000) :
    Calls Try.prog 66 #[hv, .int .u64 v, .int .i64 i] w fun e w' => e = .returned (.tuple #[.int .u64 (aAtV H v i), .int .i64 (aAtE H v i)]) ∧ Ly w w' := by
  unfold aAtV aAtE
  by_cases k1 : kk H v = 1
  · rw [if_pos k1, if_pos k1]
    by_cases hi : 0 ≤ i ∧ i < (ob H v).bytes.length
    · rw [if_pos hi, if_pos hi]; exact rat_str G hv H v i hU w h hok hm k1 hi
    · rw [if_neg hi, if_neg hi]; exact rat_strOut G hv H v i hU w h hok hm k1 hi
  · rw [if_neg k1, if_neg k1]
    by_cases k2 : kk H v = 2 ∨ kk H v = 4
    · rw [if_pos k2, if_pos k2]
      by_cases hi : 0 ≤ i ∧ i < (ob H v).vals.length
      · rw [if_pos hi, if_pos hi]; exact rat_arr G hv H v i hU w h hok hm k2 hi
      · rw [if_neg hi, if_neg hi]; exact rat_arrOut G hv H v i hU w h hok hm k2 hi
    · rw [if_neg k2, if_neg k2]; exact rat_kind G hv H v i hU w h hm (by omega)

set_option maxRecDepth 100000 in
set_option maxHeartbeats 8000000 in
theorem rfield_any (G : Nat → Prop) (hv : Value) (H : AHeap) (v : Int) (s : ByteArray) (hU : U v) (w : World) (h : RdH w G hv H) (hok : HOK H) (hm : H.2.length ≤ 1000000) :
    Calls Try.prog 67 #[hv, .int .u64 v, .string s] w fun e w' => e = .returned (.tuple #[.int .u64 (aFieldV H v s), .int .i64 (aFieldE H v s)]) ∧ Ly w w' := by
  by_cases hk : kk H v = 3
  · rw [aFieldV, aFieldE, if_pos hk, if_pos hk]
    have HR := hid h
    obtain ⟨va, t, rfl, ht, hs, ho⟩ := h
    obtain ⟨a, cap, rfl⟩ := hs.form
    have hkr := kk_ref (H := H) (v := v) (by omega)
    obtain ⟨hg, hge⟩ := ob_get (H := H) hU hkr.2.1
    have hoo := ob_ok hok hU hkr.2.1
    have hlen := hoo.2.2.1 (by omega)
    have HLEN := hid hlen
    have hbl := hoo.2.2.2.2.2.2.1
    have hkl := hoo.2.2.2.2.2.2.2
    have HG := hid hg
    have HGE := hid hge
    have hlt := aKey_lt (ob H v).keys s
    clear ht hs ho hg hge hkr hoo hok hlen
    generalize hob : ob H v = o at *
    by_cases h0 : 0 ≤ aKey o.keys s
    · rw [if_pos h0, if_pos h0]
      obtain ⟨j, hj⟩ : ∃ j : Nat, aKey o.keys s = j := ⟨(aKey o.keys s).toNat, by omega⟩
      have hjl : j < o.vals.length := by have := HLEN.out; omega
      have hi2 : (j : Int) < (o.vals.length : Int) := by omega
      clear h0 hlt
      go_enter Try.func67, Try.ntmps67
      go_wp2_with (first
        | (go_at_call 61; refine (rkindH_any G _ H _ hU _ (RdH.below HR.out (Ly.bw (by repeat (first | exact Ly.refl _ | apply Ly.lay | apply Ly.alloc | apply Ly.drewN | apply Ly.drew)))) (by omega)).mono ?_; rintro e w' ⟨rfl, os, m, rfl⟩)
        | (go_at_call 62; refine (rof_any G _ H _ hU _ HGE.out _ HG.out w _ (Ly.bw (by repeat (first | exact Ly.refl _ | apply Ly.lay | apply Ly.alloc | apply Ly.drewN | apply Ly.drew))) HR.out (by omega)).mono ?_; rintro e w' ⟨vb, vv, vk, rfl, hol, os, m, rfl⟩; obtain ⟨ab, cb, rfl⟩ := hol.1.form; obtain ⟨av, cv, rfl⟩ := hol.2.1.form; obtain ⟨ak, ck, rfl⟩ := hol.2.2.form; obtain ⟨bb, off, rfl, hbs, c1⟩ := hol.2.1.at hjl; have c2 : w.cell? ⟨bb, off + j, none⟩ = some (.int .u64 o.vals[j]) := (by rw [c1]; simp [hjl]); have HOL := hid hol; clear c1 hol)
        | (go_at_call 65; refine (rkey_any G _ _ _ _ _ _ (OL.below HOL.out (Ly.bw (by repeat (first | exact Ly.refl _ | apply Ly.lay | apply Ly.alloc | apply Ly.drewN | apply Ly.drew)))) (by omega)).mono ?_; rintro e w' ⟨rfl, os, m, rfl⟩))
      all_goals go_ret2
      all_goals refine ⟨?_, by repeat (first | exact Ly.refl _ | apply Ly.lay | apply Ly.alloc | apply Ly.drewN | apply Ly.drew)⟩
      all_goals simp [hj, hjl]
    · rw [if_neg h0, if_neg h0]
      have hneg : aKey o.keys s < 0 := by omega
      clear h0 hlt
      go_enter Try.func67, Try.ntmps67
      go_wp2_with (first
        | (go_at_call 61; refine (rkindH_any G _ H _ hU _ (RdH.below HR.out (Ly.bw (by repeat (first | exact Ly.refl _ | apply Ly.lay | apply Ly.alloc | apply Ly.drewN | apply Ly.drew)))) (by omega)).mono ?_; rintro e w' ⟨rfl, os, m, rfl⟩)
        | (go_at_call 62; refine (rof_any G _ H _ hU _ HGE.out _ HG.out w _ (Ly.bw (by repeat (first | exact Ly.refl _ | apply Ly.lay | apply Ly.alloc | apply Ly.drewN | apply Ly.drew))) HR.out (by omega)).mono ?_; rintro e w' ⟨vb, vv, vk, rfl, hol, os, m, rfl⟩; obtain ⟨ab, cb, rfl⟩ := hol.1.form; obtain ⟨av, cv, rfl⟩ := hol.2.1.form; obtain ⟨ak, ck, rfl⟩ := hol.2.2.form; have HOL := hid hol; clear hol)
        | (go_at_call 65; refine (rkey_any G _ _ _ _ _ _ (OL.below HOL.out (Ly.bw (by repeat (first | exact Ly.refl _ | apply Ly.lay | apply Ly.alloc | apply Ly.drewN | apply Ly.drew)))) (by omega)).mono ?_; rintro e w' ⟨rfl, os, m, rfl⟩))
      all_goals go_ret2
      all_goals exact ⟨rfl, by repeat (first | exact Ly.refl _ | apply Ly.lay | apply Ly.alloc | apply Ly.drewN | apply Ly.drew)⟩
  · rw [aFieldV, aFieldE, if_neg hk, if_neg hk]
    have HR := hid h
    obtain ⟨va, t, rfl, ht, hs, ho⟩ := h
    obtain ⟨a, cap, rfl⟩ := hs.form
    have k3 : (kk H v != 3) = true := by simpa using hk
    clear ht hs ho hk
    go_enter Try.func67, Try.ntmps67
    go_wp2_with (first
      | (go_at_call 61; refine (rkindH_any G _ H _ hU _ (RdH.below HR.out (Ly.bw (by repeat (first | exact Ly.refl _ | apply Ly.lay | apply Ly.alloc | apply Ly.drewN | apply Ly.drew)))) (by omega)).mono ?_; rintro e w' ⟨rfl, os, m, rfl⟩))
    all_goals go_ret2
    all_goals exact ⟨rfl, by repeat (first | exact Ly.refl _ | apply Ly.lay | apply Ly.alloc | apply Ly.drewN | apply Ly.drew)⟩

end Go.Proofs.Ytolfgkpmcfneiaa
