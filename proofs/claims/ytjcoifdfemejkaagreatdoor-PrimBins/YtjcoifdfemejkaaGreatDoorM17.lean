/- The document's Bin of layer 9, case by case. · The document's Bin of layer 9: strings. · The document's Bin of layer 9: strings together. -/
import Derived.Test.YtjcoifdfemejkaaGreatDoorM16
import Derived.Deep.RegionLaw
set_option linter.unusedSimpArgs false
set_option linter.unusedVariables false
namespace Go.Proofs.YtjcoifdfemejkaaGreatDoor
open Go Go.RowKit

theorem RdH.lay {w : World} {G : Nat → Prop} {v : Value} {H : AHeap} (h : RdH w G v H) (os : List Obj) (n : Nat) : RdH (lay w os n) G v H := h.below ((Bw.refl _).lay os n)

section
variable {w w' : World}

set_option maxRecDepth 100000 in
set_option maxHeartbeats 4000000 in
theorem nbin_out (G : Nat → Prop) (hv : Value) (H : AHeap) (a b : Int) (op : Int) (hop : op < 0 ∨ 10 < op) (hGn : ∀ b, w.heap.size ≤ b → G b) (h : RdH w G hv H) (hm : H.2.length ≤ 1000000) :
    Calls Tryz.prog 8 #[hv, .int .i64 op, .int .u64 a, .int .u64 b] w (BD G w (0, 1, H)) := by
  have HR := hid h
  obtain ⟨ah, ch, rfl⟩ := h.form
  clear h
  unfold BD
  simp only
  clear hGn hm
  by_cases h0 : op < 0
  · go_enter Tryz.func8, Tryz.ntmps8
    go_wp2
    all_goals refine bodyPost_ret (v := .tuple #[.agg #[.int .i64 H.1, .slice ah H.2.length ch], .int .u64 0, .int .i64 1]) (by simp [results, Tryz.results8, go_sem, *]) rfl ?_
    all_goals exact ⟨_, rfl, RdH.whole (g := w.heap.size + 1) (by repeat (first | exact RdH.part HR.out _ (by omega) | apply RdH.put | apply RdH.alloc | apply RdH.drew | apply RdH.lay)), (by repeat (first | exact Bw.refl _ | apply Bw.lay | apply Bw.alloc | apply Bw.drewN | apply Bw.drew | (refine Bw.setCell ?_ (show w.heap.size ≤ w.heap.size + 1 by omega) _)))⟩
  · have h1 : 10 < op := by omega
    clear hop
    go_enter Tryz.func8, Tryz.ntmps8
    go_wp2
    all_goals refine bodyPost_ret (v := .tuple #[.agg #[.int .i64 H.1, .slice ah H.2.length ch], .int .u64 0, .int .i64 1]) (by simp [results, Tryz.results8, go_sem, *]) rfl ?_
    all_goals exact ⟨_, rfl, RdH.whole (g := w.heap.size + 1) (by repeat (first | exact RdH.part HR.out _ (by omega) | apply RdH.put | apply RdH.alloc | apply RdH.drew | apply RdH.lay)), (by repeat (first | exact Bw.refl _ | apply Bw.lay | apply Bw.alloc | apply Bw.drewN | apply Bw.drew | (refine Bw.setCell ?_ (show w.heap.size ≤ w.heap.size + 1 by omega) _)))⟩

set_option maxRecDepth 100000 in
set_option maxHeartbeats 4000000 in
theorem nbin_eq (G : Nat → Prop) (hv : Value) (H : AHeap) (a b : Int) (ha : U a) (hb : U b) (hok : HOK H) (hbr : Bare H) (hGn : ∀ b, w.heap.size ≤ b → G b) (h : RdH w G hv H) (hm : H.2.length ≤ 1000000) :
    Calls Tryz.prog 8 #[hv, .int .i64 5, .int .u64 a, .int .u64 b] w (BD G w (bv (eqW H a b), 0, H)) := by
  have HR := hid h
  obtain ⟨ah, ch, rfl⟩ := h.form
  clear h
  unfold BD
  simp only
  have HQ := hid (fun w1 (hw : Bw w w1) => requal_any G H.1 ah ch H a b ha hb w1 (HR.out.below hw) hok hbr hm)
  generalize eqW H a b = q at HQ ⊢
  clear hGn hm hok hbr
  go_enter Tryz.func8, Tryz.ntmps8
  go_wp2
  go_region_held3 (fun w' => w'.cell? ⟨w.heap.size, 0, none⟩ = some (.int .i64 H.1) ∧ w'.cell? ⟨w.heap.size, 1, none⟩ = some (.slice ah H.2.length ch)) (first | (simp [go_sem, *]; done)) (first
    | (go_at_call 34; refine (HQ.out _ (by repeat (first | exact Bw.refl _ | apply Bw.lay | apply Bw.alloc | apply Bw.drewN | apply Bw.drew))).mono ?_; rintro e w1 ⟨rfl, hb1⟩; have B1 := hid (show Bw w w1 from Bw.trans (by repeat (first | exact Bw.refl _ | apply Bw.lay | apply Bw.alloc | apply Bw.drewN | apply Bw.drew)) hb1); have P0 := hid (show Blk w1 w.heap.size #[.int .i64 H.1, .slice ah H.2.length ch] 32 from (by refine Blk.bw ?_ hb1; repeat (first | exact Blk.newG _ _ (by simp) | apply Blk.alloc | apply Blk.dr | apply Blk.lay))); have y0 : w1.cell? ⟨w.heap.size, 0, none⟩ = some (.int .i64 H.1) := P0.out.cell 0; have y1 : w1.cell? ⟨w.heap.size, 1, none⟩ = some (.slice ah H.2.length ch) := P0.out.cell 1; have y2 : w.heap.size < w1.heap.size := P0.out.lt; have P2 := hid (show Blk w1 (w.heap.size + 1) #[.int .i64 0, .slice none 0 0] 32 from (by refine Blk.bw ?_ hb1; repeat (first | exact Blk.newG _ _ (by simp) | apply Blk.alloc | apply Blk.dr | apply Blk.lay))); have z2 : w1.cell? ⟨w.heap.size + 1, 0, none⟩ = some (.int .i64 0) := P2.out.cell 0; have z3 : w1.cell? ⟨w.heap.size + 1, 1, none⟩ = some (.slice none 0 0) := P2.out.cell 1; have f2 : w1.frozen? ⟨w.heap.size + 1, 0, none⟩ = false := P2.out.free 0; have f3 : w1.frozen? ⟨w.heap.size + 1, 1, none⟩ = false := P2.out.free 1; have s2 : w.heap.size + 1 < w1.heap.size := P2.out.lt; clear hb1)
    | (go_at_call 33; refine (srbool_any _ _).mono ?_; rintro e w' ⟨rfl, hw'⟩; subst w')
    | fail)
  all_goals go_wp2
  all_goals refine bodyPost_ret (v := .tuple #[.agg #[.int .i64 H.1, .slice ah H.2.length ch], .int .u64 (bv (q)), .int .i64 (0)]) (by simp [results, Tryz.results8, go_sem, *]) rfl ?_
  all_goals exact ⟨_, rfl, RdH.whole (g := w.heap.size + 1) (by repeat (first | exact RdH.below (RdH.part HR.out _ (by omega)) B1.out | apply RdH.put | apply RdH.alloc | apply RdH.drew | apply RdH.lay)), (by repeat (first | exact Bw.refl _ | exact B1.out | apply Bw.lay | apply Bw.alloc | apply Bw.drewN | apply Bw.drew | (refine Bw.setCell ?_ (show w.heap.size ≤ w.heap.size + 1 by omega) _)))⟩

set_option maxRecDepth 100000 in
set_option maxHeartbeats 4000000 in
theorem nbin_ne (G : Nat → Prop) (hv : Value) (H : AHeap) (a b : Int) (ha : U a) (hb : U b) (hok : HOK H) (hbr : Bare H) (hGn : ∀ b, w.heap.size ≤ b → G b) (h : RdH w G hv H) (hm : H.2.length ≤ 1000000) :
    Calls Tryz.prog 8 #[hv, .int .i64 6, .int .u64 a, .int .u64 b] w (BD G w (bv (!eqW H a b), 0, H)) := by
  have HR := hid h
  obtain ⟨ah, ch, rfl⟩ := h.form
  clear h
  unfold BD
  simp only
  have HQ := hid (fun w1 (hw : Bw w w1) => requal_any G H.1 ah ch H a b ha hb w1 (HR.out.below hw) hok hbr hm)
  generalize eqW H a b = q at HQ ⊢
  clear hGn hm hok hbr
  go_enter Tryz.func8, Tryz.ntmps8
  go_wp2
  go_region_held3 (fun w' => w'.cell? ⟨w.heap.size, 0, none⟩ = some (.int .i64 H.1) ∧ w'.cell? ⟨w.heap.size, 1, none⟩ = some (.slice ah H.2.length ch)) (first | (simp [go_sem, *]; done)) (first
    | (go_at_call 34; refine (HQ.out _ (by repeat (first | exact Bw.refl _ | apply Bw.lay | apply Bw.alloc | apply Bw.drewN | apply Bw.drew))).mono ?_; rintro e w1 ⟨rfl, hb1⟩; have B1 := hid (show Bw w w1 from Bw.trans (by repeat (first | exact Bw.refl _ | apply Bw.lay | apply Bw.alloc | apply Bw.drewN | apply Bw.drew)) hb1); have P0 := hid (show Blk w1 w.heap.size #[.int .i64 H.1, .slice ah H.2.length ch] 32 from (by refine Blk.bw ?_ hb1; repeat (first | exact Blk.newG _ _ (by simp) | apply Blk.alloc | apply Blk.dr | apply Blk.lay))); have y0 : w1.cell? ⟨w.heap.size, 0, none⟩ = some (.int .i64 H.1) := P0.out.cell 0; have y1 : w1.cell? ⟨w.heap.size, 1, none⟩ = some (.slice ah H.2.length ch) := P0.out.cell 1; have y2 : w.heap.size < w1.heap.size := P0.out.lt; have P2 := hid (show Blk w1 (w.heap.size + 1) #[.int .i64 0, .slice none 0 0] 32 from (by refine Blk.bw ?_ hb1; repeat (first | exact Blk.newG _ _ (by simp) | apply Blk.alloc | apply Blk.dr | apply Blk.lay))); have z2 : w1.cell? ⟨w.heap.size + 1, 0, none⟩ = some (.int .i64 0) := P2.out.cell 0; have z3 : w1.cell? ⟨w.heap.size + 1, 1, none⟩ = some (.slice none 0 0) := P2.out.cell 1; have f2 : w1.frozen? ⟨w.heap.size + 1, 0, none⟩ = false := P2.out.free 0; have f3 : w1.frozen? ⟨w.heap.size + 1, 1, none⟩ = false := P2.out.free 1; have s2 : w.heap.size + 1 < w1.heap.size := P2.out.lt; clear hb1)
    | (go_at_call 33; refine (srbool_any _ _).mono ?_; rintro e w' ⟨rfl, hw'⟩; subst w')
    | fail)
  all_goals go_wp2
  all_goals refine bodyPost_ret (v := .tuple #[.agg #[.int .i64 H.1, .slice ah H.2.length ch], .int .u64 (bv (!q)), .int .i64 (0)]) (by simp [results, Tryz.results8, go_sem, *]) rfl ?_
  all_goals exact ⟨_, rfl, RdH.whole (g := w.heap.size + 1) (by repeat (first | exact RdH.below (RdH.part HR.out _ (by omega)) B1.out | apply RdH.put | apply RdH.alloc | apply RdH.drew | apply RdH.lay)), (by repeat (first | exact Bw.refl _ | exact B1.out | apply Bw.lay | apply Bw.alloc | apply Bw.drewN | apply Bw.drew | (refine Bw.setCell ?_ (show w.heap.size ≤ w.heap.size + 1 by omega) _)))⟩

set_option maxRecDepth 100000 in
set_option maxHeartbeats 4000000 in
theorem nbin_nadd (G : Nat → Prop) (hv : Value) (H : AHeap) (a b : Int) (ha : U a) (hb : U b) (na : N a) (nb : N b) (hGn : ∀ b, w.heap.size ≤ b → G b) (h : RdH w G hv H) (hm : H.2.length ≤ 1000000) :
    Calls Tryz.prog 8 #[hv, .int .i64 0, .int .u64 a, .int .u64 b] w (BD G w (mk (nm a + nm b), 0, H)) := by
  have HR := hid h
  obtain ⟨ah, ch, rfl⟩ := h.form
  clear h
  unfold BD
  simp only
  have HA := hid (fun w1 => show Calls Tryz.prog 35 #[.int .u64 a] w1 fun e w' => e = .returned (.int .i64 0) ∧ w' = w1 by have := rkind_any a ha w1; rwa [kd_num na] at this)
  have HB := hid (fun w1 => show Calls Tryz.prog 35 #[.int .u64 b] w1 fun e w' => e = .returned (.int .i64 0) ∧ w' = w1 by have := rkind_any b hb w1; rwa [kd_num nb] at this)
  have HD := hid (fun w1 => srdo_add a b ha hb na nb w1)
  generalize mk (nm a + nm b) = V at HD ⊢
  clear hGn hm na nb
  go_enter Tryz.func8, Tryz.ntmps8
  go_wp2_with (first
    | (go_at_call_of 35 (Value.int .u64 a); (fail_if_success (have _g := G1)); refine (HA.out _).mono ?_; rintro e w' ⟨rfl, hw'⟩; subst w'; have G1 := hid trivial)
    | (go_at_call_of 35 (Value.int .u64 b); have _g := G1; clear _g; refine (HB.out _).mono ?_; rintro e w' ⟨rfl, hw'⟩; subst w')
    | (go_at_call 38; refine (HD.out _).mono ?_; rintro e w' ⟨rfl, hw'⟩; subst w')
    | fail)
  all_goals refine bodyPost_ret (v := .tuple #[.agg #[.int .i64 H.1, .slice ah H.2.length ch], .int .u64 (V), .int .i64 (0)]) (by simp [results, Tryz.results8, go_sem, *]) rfl ?_
  all_goals exact ⟨_, rfl, RdH.whole (g := w.heap.size + 1) (by repeat (first | exact RdH.part HR.out _ (by omega) | apply RdH.put | apply RdH.alloc | apply RdH.drew | apply RdH.lay)), (by repeat (first | exact Bw.refl _ | apply Bw.lay | apply Bw.alloc | apply Bw.drewN | apply Bw.drew | (refine Bw.setCell ?_ (show w.heap.size ≤ w.heap.size + 1 by omega) _)))⟩

set_option maxRecDepth 100000 in
set_option maxHeartbeats 4000000 in
theorem nbin_nsub (G : Nat → Prop) (hv : Value) (H : AHeap) (a b : Int) (ha : U a) (hb : U b) (na : N a) (nb : N b) (hGn : ∀ b, w.heap.size ≤ b → G b) (h : RdH w G hv H) (hm : H.2.length ≤ 1000000) :
    Calls Tryz.prog 8 #[hv, .int .i64 1, .int .u64 a, .int .u64 b] w (BD G w (mk (nm a - nm b), 0, H)) := by
  have HR := hid h
  obtain ⟨ah, ch, rfl⟩ := h.form
  clear h
  unfold BD
  simp only
  have HA := hid (fun w1 => show Calls Tryz.prog 35 #[.int .u64 a] w1 fun e w' => e = .returned (.int .i64 0) ∧ w' = w1 by have := rkind_any a ha w1; rwa [kd_num na] at this)
  have HB := hid (fun w1 => show Calls Tryz.prog 35 #[.int .u64 b] w1 fun e w' => e = .returned (.int .i64 0) ∧ w' = w1 by have := rkind_any b hb w1; rwa [kd_num nb] at this)
  have HD := hid (fun w1 => srdo_sub a b ha hb na nb w1)
  generalize mk (nm a - nm b) = V at HD ⊢
  clear hGn hm na nb
  go_enter Tryz.func8, Tryz.ntmps8
  go_wp2_with (first
    | (go_at_call_of 35 (Value.int .u64 a); (fail_if_success (have _g := G1)); refine (HA.out _).mono ?_; rintro e w' ⟨rfl, hw'⟩; subst w'; have G1 := hid trivial)
    | (go_at_call_of 35 (Value.int .u64 b); have _g := G1; clear _g; refine (HB.out _).mono ?_; rintro e w' ⟨rfl, hw'⟩; subst w')
    | (go_at_call 38; refine (HD.out _).mono ?_; rintro e w' ⟨rfl, hw'⟩; subst w')
    | fail)
  all_goals refine bodyPost_ret (v := .tuple #[.agg #[.int .i64 H.1, .slice ah H.2.length ch], .int .u64 (V), .int .i64 (0)]) (by simp [results, Tryz.results8, go_sem, *]) rfl ?_
  all_goals exact ⟨_, rfl, RdH.whole (g := w.heap.size + 1) (by repeat (first | exact RdH.part HR.out _ (by omega) | apply RdH.put | apply RdH.alloc | apply RdH.drew | apply RdH.lay)), (by repeat (first | exact Bw.refl _ | apply Bw.lay | apply Bw.alloc | apply Bw.drewN | apply Bw.drew | (refine Bw.setCell ?_ (show w.heap.size ≤ w.heap.size + 1 by omega) _)))⟩

set_option maxRecDepth 100000 in
set_option maxHeartbeats 4000000 in
theorem nbin_nmul (G : Nat → Prop) (hv : Value) (H : AHeap) (a b : Int) (ha : U a) (hb : U b) (na : N a) (nb : N b) (hGn : ∀ b, w.heap.size ≤ b → G b) (h : RdH w G hv H) (hm : H.2.length ≤ 1000000) :
    Calls Tryz.prog 8 #[hv, .int .i64 2, .int .u64 a, .int .u64 b] w (BD G w (mk (nm a * nm b), 0, H)) := by
  have HR := hid h
  obtain ⟨ah, ch, rfl⟩ := h.form
  clear h
  unfold BD
  simp only
  have HA := hid (fun w1 => show Calls Tryz.prog 35 #[.int .u64 a] w1 fun e w' => e = .returned (.int .i64 0) ∧ w' = w1 by have := rkind_any a ha w1; rwa [kd_num na] at this)
  have HB := hid (fun w1 => show Calls Tryz.prog 35 #[.int .u64 b] w1 fun e w' => e = .returned (.int .i64 0) ∧ w' = w1 by have := rkind_any b hb w1; rwa [kd_num nb] at this)
  have HD := hid (fun w1 => srdo_mul a b ha hb na nb w1)
  generalize mk (nm a * nm b) = V at HD ⊢
  clear hGn hm na nb
  go_enter Tryz.func8, Tryz.ntmps8
  go_wp2_with (first
    | (go_at_call_of 35 (Value.int .u64 a); (fail_if_success (have _g := G1)); refine (HA.out _).mono ?_; rintro e w' ⟨rfl, hw'⟩; subst w'; have G1 := hid trivial)
    | (go_at_call_of 35 (Value.int .u64 b); have _g := G1; clear _g; refine (HB.out _).mono ?_; rintro e w' ⟨rfl, hw'⟩; subst w')
    | (go_at_call 38; refine (HD.out _).mono ?_; rintro e w' ⟨rfl, hw'⟩; subst w')
    | fail)
  all_goals refine bodyPost_ret (v := .tuple #[.agg #[.int .i64 H.1, .slice ah H.2.length ch], .int .u64 (V), .int .i64 (0)]) (by simp [results, Tryz.results8, go_sem, *]) rfl ?_
  all_goals exact ⟨_, rfl, RdH.whole (g := w.heap.size + 1) (by repeat (first | exact RdH.part HR.out _ (by omega) | apply RdH.put | apply RdH.alloc | apply RdH.drew | apply RdH.lay)), (by repeat (first | exact Bw.refl _ | apply Bw.lay | apply Bw.alloc | apply Bw.drewN | apply Bw.drew | (refine Bw.setCell ?_ (show w.heap.size ≤ w.heap.size + 1 by omega) _)))⟩

set_option maxRecDepth 100000 in
set_option maxHeartbeats 4000000 in
theorem nbin_ndiv (G : Nat → Prop) (hv : Value) (H : AHeap) (a b : Int) (ha : U a) (hb : U b) (na : N a) (nb : N b) (hz : ¬ nm b = 0) (hGn : ∀ b, w.heap.size ≤ b → G b) (h : RdH w G hv H) (hm : H.2.length ≤ 1000000) :
    Calls Tryz.prog 8 #[hv, .int .i64 3, .int .u64 a, .int .u64 b] w (BD G w (mk (quo (nm a) (nm b)), 0, H)) := by
  have HR := hid h
  obtain ⟨ah, ch, rfl⟩ := h.form
  clear h
  unfold BD
  simp only
  have HA := hid (fun w1 => show Calls Tryz.prog 35 #[.int .u64 a] w1 fun e w' => e = .returned (.int .i64 0) ∧ w' = w1 by have := rkind_any a ha w1; rwa [kd_num na] at this)
  have HB := hid (fun w1 => show Calls Tryz.prog 35 #[.int .u64 b] w1 fun e w' => e = .returned (.int .i64 0) ∧ w' = w1 by have := rkind_any b hb w1; rwa [kd_num nb] at this)
  have HD := hid (fun w1 => srdo_div a b ha hb na nb hz w1)
  generalize mk (quo (nm a) (nm b)) = V at HD ⊢
  clear hGn hm na nb hz
  go_enter Tryz.func8, Tryz.ntmps8
  go_wp2_with (first
    | (go_at_call_of 35 (Value.int .u64 a); (fail_if_success (have _g := G1)); refine (HA.out _).mono ?_; rintro e w' ⟨rfl, hw'⟩; subst w'; have G1 := hid trivial)
    | (go_at_call_of 35 (Value.int .u64 b); have _g := G1; clear _g; refine (HB.out _).mono ?_; rintro e w' ⟨rfl, hw'⟩; subst w')
    | (go_at_call 38; refine (HD.out _).mono ?_; rintro e w' ⟨rfl, hw'⟩; subst w')
    | fail)
  all_goals refine bodyPost_ret (v := .tuple #[.agg #[.int .i64 H.1, .slice ah H.2.length ch], .int .u64 (V), .int .i64 (0)]) (by simp [results, Tryz.results8, go_sem, *]) rfl ?_
  all_goals exact ⟨_, rfl, RdH.whole (g := w.heap.size + 1) (by repeat (first | exact RdH.part HR.out _ (by omega) | apply RdH.put | apply RdH.alloc | apply RdH.drew | apply RdH.lay)), (by repeat (first | exact Bw.refl _ | apply Bw.lay | apply Bw.alloc | apply Bw.drewN | apply Bw.drew | (refine Bw.setCell ?_ (show w.heap.size ≤ w.heap.size + 1 by omega) _)))⟩

set_option maxRecDepth 100000 in
set_option maxHeartbeats 4000000 in
theorem nbin_nmod (G : Nat → Prop) (hv : Value) (H : AHeap) (a b : Int) (ha : U a) (hb : U b) (na : N a) (nb : N b) (hz : ¬ nm b = 0) (hGn : ∀ b, w.heap.size ≤ b → G b) (h : RdH w G hv H) (hm : H.2.length ≤ 1000000) :
    Calls Tryz.prog 8 #[hv, .int .i64 4, .int .u64 a, .int .u64 b] w (BD G w (mk (rest (nm a) (nm b)), 0, H)) := by
  have HR := hid h
  obtain ⟨ah, ch, rfl⟩ := h.form
  clear h
  unfold BD
  simp only
  have HA := hid (fun w1 => show Calls Tryz.prog 35 #[.int .u64 a] w1 fun e w' => e = .returned (.int .i64 0) ∧ w' = w1 by have := rkind_any a ha w1; rwa [kd_num na] at this)
  have HB := hid (fun w1 => show Calls Tryz.prog 35 #[.int .u64 b] w1 fun e w' => e = .returned (.int .i64 0) ∧ w' = w1 by have := rkind_any b hb w1; rwa [kd_num nb] at this)
  have HD := hid (fun w1 => srdo_mod a b ha hb na nb hz w1)
  generalize mk (rest (nm a) (nm b)) = V at HD ⊢
  clear hGn hm na nb hz
  go_enter Tryz.func8, Tryz.ntmps8
  go_wp2_with (first
    | (go_at_call_of 35 (Value.int .u64 a); (fail_if_success (have _g := G1)); refine (HA.out _).mono ?_; rintro e w' ⟨rfl, hw'⟩; subst w'; have G1 := hid trivial)
    | (go_at_call_of 35 (Value.int .u64 b); have _g := G1; clear _g; refine (HB.out _).mono ?_; rintro e w' ⟨rfl, hw'⟩; subst w')
    | (go_at_call 38; refine (HD.out _).mono ?_; rintro e w' ⟨rfl, hw'⟩; subst w')
    | fail)
  all_goals refine bodyPost_ret (v := .tuple #[.agg #[.int .i64 H.1, .slice ah H.2.length ch], .int .u64 (V), .int .i64 (0)]) (by simp [results, Tryz.results8, go_sem, *]) rfl ?_
  all_goals exact ⟨_, rfl, RdH.whole (g := w.heap.size + 1) (by repeat (first | exact RdH.part HR.out _ (by omega) | apply RdH.put | apply RdH.alloc | apply RdH.drew | apply RdH.lay)), (by repeat (first | exact Bw.refl _ | apply Bw.lay | apply Bw.alloc | apply Bw.drewN | apply Bw.drew | (refine Bw.setCell ?_ (show w.heap.size ≤ w.heap.size + 1 by omega) _)))⟩

set_option maxRecDepth 100000 in
set_option maxHeartbeats 4000000 in
theorem nbin_zdiv (G : Nat → Prop) (hv : Value) (H : AHeap) (a b : Int) (ha : U a) (hb : U b) (na : N a) (nb : N b) (hz : nm b = 0) (hGn : ∀ b, w.heap.size ≤ b → G b) (h : RdH w G hv H) (hm : H.2.length ≤ 1000000) :
    Calls Tryz.prog 8 #[hv, .int .i64 3, .int .u64 a, .int .u64 b] w (BD G w (0, 2, H)) := by
  have HR := hid h
  obtain ⟨ah, ch, rfl⟩ := h.form
  clear h
  unfold BD
  simp only
  have HA := hid (fun w1 => show Calls Tryz.prog 35 #[.int .u64 a] w1 fun e w' => e = .returned (.int .i64 0) ∧ w' = w1 by have := rkind_any a ha w1; rwa [kd_num na] at this)
  have HB := hid (fun w1 => show Calls Tryz.prog 35 #[.int .u64 b] w1 fun e w' => e = .returned (.int .i64 0) ∧ w' = w1 by have := rkind_any b hb w1; rwa [kd_num nb] at this)
  have HD := hid (fun w1 => srdo_zero3 a b ha hb na nb (by simpa using hz) w1)
  clear hGn hm na nb hz
  go_enter Tryz.func8, Tryz.ntmps8
  go_wp2_with (first
    | (go_at_call_of 35 (Value.int .u64 a); (fail_if_success (have _g := G1)); refine (HA.out _).mono ?_; rintro e w' ⟨rfl, hw'⟩; subst w'; have G1 := hid trivial)
    | (go_at_call_of 35 (Value.int .u64 b); have _g := G1; clear _g; refine (HB.out _).mono ?_; rintro e w' ⟨rfl, hw'⟩; subst w')
    | (go_at_call 38; refine (HD.out _).mono ?_; rintro e w' ⟨rfl, hw'⟩; subst w')
    | fail)
  all_goals refine bodyPost_ret (v := .tuple #[.agg #[.int .i64 H.1, .slice ah H.2.length ch], .int .u64 (0), .int .i64 (2)]) (by simp [results, Tryz.results8, go_sem, *]) rfl ?_
  all_goals exact ⟨_, rfl, RdH.whole (g := w.heap.size + 1) (by repeat (first | exact RdH.part HR.out _ (by omega) | apply RdH.put | apply RdH.alloc | apply RdH.drew | apply RdH.lay)), (by repeat (first | exact Bw.refl _ | apply Bw.lay | apply Bw.alloc | apply Bw.drewN | apply Bw.drew | (refine Bw.setCell ?_ (show w.heap.size ≤ w.heap.size + 1 by omega) _)))⟩

set_option maxRecDepth 100000 in
set_option maxHeartbeats 4000000 in
theorem nbin_zmod (G : Nat → Prop) (hv : Value) (H : AHeap) (a b : Int) (ha : U a) (hb : U b) (na : N a) (nb : N b) (hz : nm b = 0) (hGn : ∀ b, w.heap.size ≤ b → G b) (h : RdH w G hv H) (hm : H.2.length ≤ 1000000) :
    Calls Tryz.prog 8 #[hv, .int .i64 4, .int .u64 a, .int .u64 b] w (BD G w (0, 2, H)) := by
  have HR := hid h
  obtain ⟨ah, ch, rfl⟩ := h.form
  clear h
  unfold BD
  simp only
  have HA := hid (fun w1 => show Calls Tryz.prog 35 #[.int .u64 a] w1 fun e w' => e = .returned (.int .i64 0) ∧ w' = w1 by have := rkind_any a ha w1; rwa [kd_num na] at this)
  have HB := hid (fun w1 => show Calls Tryz.prog 35 #[.int .u64 b] w1 fun e w' => e = .returned (.int .i64 0) ∧ w' = w1 by have := rkind_any b hb w1; rwa [kd_num nb] at this)
  have HD := hid (fun w1 => srdo_zero4 a b ha hb na nb (by simpa using hz) w1)
  clear hGn hm na nb hz
  go_enter Tryz.func8, Tryz.ntmps8
  go_wp2_with (first
    | (go_at_call_of 35 (Value.int .u64 a); (fail_if_success (have _g := G1)); refine (HA.out _).mono ?_; rintro e w' ⟨rfl, hw'⟩; subst w'; have G1 := hid trivial)
    | (go_at_call_of 35 (Value.int .u64 b); have _g := G1; clear _g; refine (HB.out _).mono ?_; rintro e w' ⟨rfl, hw'⟩; subst w')
    | (go_at_call 38; refine (HD.out _).mono ?_; rintro e w' ⟨rfl, hw'⟩; subst w')
    | fail)
  all_goals refine bodyPost_ret (v := .tuple #[.agg #[.int .i64 H.1, .slice ah H.2.length ch], .int .u64 (0), .int .i64 (2)]) (by simp [results, Tryz.results8, go_sem, *]) rfl ?_
  all_goals exact ⟨_, rfl, RdH.whole (g := w.heap.size + 1) (by repeat (first | exact RdH.part HR.out _ (by omega) | apply RdH.put | apply RdH.alloc | apply RdH.drew | apply RdH.lay)), (by repeat (first | exact Bw.refl _ | apply Bw.lay | apply Bw.alloc | apply Bw.drewN | apply Bw.drew | (refine Bw.setCell ?_ (show w.heap.size ≤ w.heap.size + 1 by omega) _)))⟩

set_option maxRecDepth 100000 in
set_option maxHeartbeats 4000000 in
theorem nbin_ncmp (G : Nat → Prop) (hv : Value) (H : AHeap) (a b : Int) (ha : U a) (hb : U b) (na : N a) (nb : N b) (op : Int) (h7 : 7 ≤ op) (h10 : op ≤ 10) (hGn : ∀ b, w.heap.size ≤ b → G b) (h : RdH w G hv H) (hm : H.2.length ≤ 1000000) :
    Calls Tryz.prog 8 #[hv, .int .i64 op, .int .u64 a, .int .u64 b] w (BD G w (cpV op (ltB a b) (ltB b a), 0, H)) := by
  have HR := hid h
  obtain ⟨ah, ch, rfl⟩ := h.form
  clear h
  unfold BD
  simp only
  have HA := hid (fun w1 => show Calls Tryz.prog 35 #[.int .u64 a] w1 fun e w' => e = .returned (.int .i64 0) ∧ w' = w1 by have := rkind_any a ha w1; rwa [kd_num na] at this)
  have HB := hid (fun w1 => show Calls Tryz.prog 35 #[.int .u64 b] w1 fun e w' => e = .returned (.int .i64 0) ∧ w' = w1 by have := rkind_any b hb w1; rwa [kd_num nb] at this)
  have HL := hid (fun w1 => show Calls Tryz.prog 36 #[.int .u64 a, .int .u64 b] w1 fun e w' => e = .returned (.tuple #[.bool (ltB a b), .int .i64 0]) ∧ w' = w1 by have := srless_any a b ha hb w1; rwa [show lessV a b = ltB a b from if_pos ⟨na, nb⟩, ter_yes na nb] at this)
  have HM := hid (fun w1 => show Calls Tryz.prog 36 #[.int .u64 b, .int .u64 a] w1 fun e w' => e = .returned (.tuple #[.bool (ltB b a), .int .i64 0]) ∧ w' = w1 by have := srless_any b a hb ha w1; rwa [show lessV b a = ltB b a from if_pos ⟨nb, na⟩, ter_yes nb na] at this)
  have n5 : (op == 5) = false := by simp; omega
  have n6 : (op == 6) = false := by simp; omega
  have n0 : ¬ op < 0 := by omega
  have n1 : ¬ 10 < op := by omega
  have n7 : 6 < op := by omega
  have HO := hid (fun (p q : Bool) (w1 : World) => norder_any (w := w1) op p q h7 h10)
  generalize ltB a b = p at HL ⊢
  generalize ltB b a = q at HM ⊢
  have HO1 := hid (HO.out p q)
  generalize cpV op p q = V at HO1 ⊢
  clear hGn hm na nb h7 h10 HO
  go_enter Tryz.func8, Tryz.ntmps8
  go_wp2_with (first
    | (go_at_call_of 35 (Value.int .u64 a); (fail_if_success (have _g := G1)); refine (HA.out _).mono ?_; rintro e w' ⟨rfl, hw'⟩; subst w'; have G1 := hid trivial)
    | (go_at_call_of 35 (Value.int .u64 b); have _g := G1; clear _g; refine (HB.out _).mono ?_; rintro e w' ⟨rfl, hw'⟩; subst w')
    | (go_at_call_of 36 (Value.int .u64 a); (fail_if_success (have _g := G2)); refine (HL.out _).mono ?_; rintro e w' ⟨rfl, hw'⟩; subst w'; have G2 := hid trivial)
    | (go_at_call 36; have _g := G2; clear _g; refine (HM.out _).mono ?_; rintro e w' ⟨rfl, hw'⟩; subst w')
    | fail)
  go_region_held3 (fun w' => w'.cell? ⟨w.heap.size, 0, none⟩ = some (.int .i64 H.1) ∧ w'.cell? ⟨w.heap.size, 1, none⟩ = some (.slice ah H.2.length ch)) (first | (simp [go_sem, *]; done)) (first
    | (go_at_call 37; refine (HO1.out _).mono ?_; rintro e w1 ⟨rfl, hly1⟩; have hb1 := hly1.bw; clear hly1; have B1 := hid (show Bw w w1 from Bw.trans (by repeat (first | exact Bw.refl _ | apply Bw.lay | apply Bw.alloc | apply Bw.drewN | apply Bw.drew)) hb1); have P0 := hid (show Blk w1 w.heap.size #[.int .i64 H.1, .slice ah H.2.length ch] 32 from (by refine Blk.bw ?_ hb1; repeat (first | exact Blk.newG _ _ (by simp) | apply Blk.alloc | apply Blk.dr | apply Blk.lay))); have y0 : w1.cell? ⟨w.heap.size, 0, none⟩ = some (.int .i64 H.1) := P0.out.cell 0; have y1 : w1.cell? ⟨w.heap.size, 1, none⟩ = some (.slice ah H.2.length ch) := P0.out.cell 1; have y2 : w.heap.size < w1.heap.size := P0.out.lt; have P2 := hid (show Blk w1 (w.heap.size + 1) #[.int .i64 0, .slice none 0 0] 32 from (by refine Blk.bw ?_ hb1; repeat (first | exact Blk.newG _ _ (by simp) | apply Blk.alloc | apply Blk.dr | apply Blk.lay))); have z2 : w1.cell? ⟨w.heap.size + 1, 0, none⟩ = some (.int .i64 0) := P2.out.cell 0; have z3 : w1.cell? ⟨w.heap.size + 1, 1, none⟩ = some (.slice none 0 0) := P2.out.cell 1; have f2 : w1.frozen? ⟨w.heap.size + 1, 0, none⟩ = false := P2.out.free 0; have f3 : w1.frozen? ⟨w.heap.size + 1, 1, none⟩ = false := P2.out.free 1; have s2 : w.heap.size + 1 < w1.heap.size := P2.out.lt; clear hb1)
    | fail)
  all_goals go_wp2
  all_goals refine bodyPost_ret (v := .tuple #[.agg #[.int .i64 H.1, .slice ah H.2.length ch], .int .u64 (V), .int .i64 (0)]) (by simp [results, Tryz.results8, go_sem, *]) rfl ?_
  all_goals exact ⟨_, rfl, RdH.whole (g := w.heap.size + 1) (by repeat (first | exact RdH.below (RdH.part HR.out _ (by omega)) B1.out | apply RdH.put | apply RdH.alloc | apply RdH.drew | apply RdH.lay)), (by repeat (first | exact Bw.refl _ | exact B1.out | apply Bw.lay | apply Bw.alloc | apply Bw.drewN | apply Bw.drew | (refine Bw.setCell ?_ (show w.heap.size ≤ w.heap.size + 1 by omega) _)))⟩

end

end Go.Proofs.YtjcoifdfemejkaaGreatDoor

set_option linter.unusedSimpArgs false
set_option linter.unusedVariables false
namespace Go.Proofs.YtjcoifdfemejkaaGreatDoor
open Go Go.RowKit

@[go_sem] theorem run_fieldB (k n re im : Int) (a1 a2 a3 : Option Addr) (n1 n2 n3 c1 c2 c3 : Nat) (w : World) : (Instr.field 50 (.agg #[.int .i64 k, .slice a1 n1 c1, .slice a2 n2 c2, .slice a3 n3 c3, .int .i64 n, .int .u64 re, .int .u64 im]) 1).run Tryz.prog w = .ok (.slice a1 n1 c1) w := by kernel_rfl

section
variable {w w' : World}

set_option maxRecDepth 100000 in
set_option maxHeartbeats 4000000 in
theorem nbin_stype (G : Nat → Prop) (hv : Value) (H : AHeap) (a b : Int) (ha : U a) (hb : U b) (hok : HOK H) (ka0 : kd a ≠ 0) (ka1 : kk H a = 1) (kb1 : kk H b = 1) (op : Int) (h1 : 1 ≤ op) (h4 : op ≤ 4) (hGn : ∀ b, w.heap.size ≤ b → G b) (h : RdH w G hv H) (hm : H.2.length ≤ 1000000) :
    Calls Tryz.prog 8 #[hv, .int .i64 op, .int .u64 a, .int .u64 b] w (BD G w (0, 1, H)) := by
  have HR := hid h
  obtain ⟨ah, ch, rfl⟩ := h.form
  clear h
  unfold BD
  have HA := hid (fun w1 => rkind_any a ha w1)
  generalize hpa : kd a = pa at HA ka0
  have npa : (pa == 0) = false := by simpa using ka0
  clear hpa ka0
  have HKA := hid (fun w1 (hw : Bw w w1) => rkindH_any G _ H a ha w1 (HR.out.below hw) (by omega))
  have HKB := hid (fun w1 (hw : Bw w w1) => rkindH_any G _ H b hb w1 (HR.out.below hw) (by omega))
  rw [ka1] at HKA
  rw [kb1] at HKB
  obtain ⟨_, _, k1, hi1, hg1⟩ := ob_mem (H := H) ha (by omega)
  obtain ⟨_, _, k2, hi2, hg2⟩ := ob_mem (H := H) hb (by omega)
  have HOFA := hid (fun w1 (hw : Bw w w1) => rof_any G _ H a ha k1 hi1 (ob H a) hg1 w w1 hw HR.out (by omega))
  have HOFB := hid (fun w1 (hw : Bw w w1) => rof_any G _ H b hb k2 hi2 (ob H b) hg2 w w1 hw HR.out (by omega))
  have lx : (ob H a).bytes.length ≤ 1000000 := (ob_ok hok ha (kk_ref (by omega)).2.1).2.2.2.2.2.1
  have ly : (ob H b).bytes.length ≤ 1000000 := (ob_ok hok hb (kk_ref (by omega)).2.1).2.2.2.2.2.1
  simp only
  generalize ob H a = oa at HOFA lx
  generalize ob H b = oc at HOFB ly
  have n5 : (op == 5) = false := by simp; omega
  have n6 : (op == 6) = false := by simp; omega
  have n00 : (op == 0) = false := by simp; omega
  have n0 : ¬ op < 0 := by omega
  have n1 : ¬ 10 < op := by omega
  have n7 : op < 7 := by omega
  clear h1 h4
  clear hGn hok ka1 kb1 hi1 hg1 hi2 hg2
  go_enter Tryz.func8, Tryz.ntmps8
  go_wp2_with (first
    | (go_at_call_of 35 (Value.int .u64 a); (fail_if_success (have _g := G1)); refine (HA.out _).mono ?_; rintro e w' ⟨rfl, hw'⟩; subst w'; have G1 := hid trivial)
    | (go_at_call_of 39 (Value.int .u64 a); (fail_if_success (have _g := BK)); refine (HKA.out _ (by repeat (first | exact Bw.refl _ | exact BK2.out | exact BK.out | exact BO1.out | exact BO2.out | exact BB1.out | exact BB2.out | exact B5.out | exact B6.out | exact B7.out | exact B8.out | apply Bw.alloc | apply Bw.drewN | apply Bw.drew))).mono ?_; rintro e wk ⟨rfl, hlk⟩; have hbk := hlk.bw; clear hlk; have BK := hid (show Bw w wk from Bw.trans (by repeat (first | exact Bw.refl _ | exact BK2.out | exact BK.out | exact BO1.out | exact BO2.out | exact BB1.out | exact BB2.out | exact B5.out | exact B6.out | exact B7.out | exact B8.out | apply Bw.alloc | apply Bw.drewN | apply Bw.drew)) hbk); have P0 := hid (show Blk wk (w.heap.size) #[.int .i64 H.1, .slice ah H.2.length ch] 32 by refine Blk.bw ?_ hbk; repeat (first | exact P0.out | exact P2.out | exact P3.out | exact P4.out | exact Blk.newG _ _ (by simp) | apply Blk.alloc | apply Blk.dr)); have ywkP00 : wk.cell? ⟨w.heap.size, 0, none⟩ = some (.int .i64 H.1) := P0.out.cell 0; have ywkP01 : wk.cell? ⟨w.heap.size, 1, none⟩ = some (.slice ah H.2.length ch) := P0.out.cell 1; have swkP0 : w.heap.size < wk.heap.size := P0.out.lt; have P2 := hid (show Blk wk (w.heap.size + 1) #[.int .i64 0, .slice none 0 0] 32 by refine Blk.bw ?_ hbk; repeat (first | exact P0.out | exact P2.out | exact P3.out | exact P4.out | exact Blk.newG _ _ (by simp) | apply Blk.alloc | apply Blk.dr)); have ywkP20 : wk.cell? ⟨w.heap.size + 1, 0, none⟩ = some (.int .i64 0) := P2.out.cell 0; have ywkP21 : wk.cell? ⟨w.heap.size + 1, 1, none⟩ = some (.slice none 0 0) := P2.out.cell 1; have fwkP20 : wk.frozen? ⟨w.heap.size + 1, 0, none⟩ = false := P2.out.free 0; have fwkP21 : wk.frozen? ⟨w.heap.size + 1, 1, none⟩ = false := P2.out.free 1; have swkP2 : w.heap.size + 1 < wk.heap.size := P2.out.lt; clear hbk)
    | (go_at_call_of 39 (Value.int .u64 b); have _g := BK; clear _g; refine (HKB.out _ (by repeat (first | exact Bw.refl _ | exact BK2.out | exact BK.out | exact BO1.out | exact BO2.out | exact BB1.out | exact BB2.out | exact B5.out | exact B6.out | exact B7.out | exact B8.out | apply Bw.alloc | apply Bw.drewN | apply Bw.drew))).mono ?_; rintro e wk2 ⟨rfl, hlk2⟩; have hbk2 := hlk2.bw; clear hlk2; have BK2 := hid (show Bw w wk2 from Bw.trans (by repeat (first | exact Bw.refl _ | exact BK2.out | exact BK.out | exact BO1.out | exact BO2.out | exact BB1.out | exact BB2.out | exact B5.out | exact B6.out | exact B7.out | exact B8.out | apply Bw.alloc | apply Bw.drewN | apply Bw.drew)) hbk2); replace P0 := hid (show Blk wk2 (w.heap.size) #[.int .i64 H.1, .slice ah H.2.length ch] 32 by refine Blk.bw ?_ hbk2; repeat (first | exact P0.out | exact P2.out | exact P3.out | exact P4.out | exact Blk.newG _ _ (by simp) | apply Blk.alloc | apply Blk.dr)); have ywk2P00 : wk2.cell? ⟨w.heap.size, 0, none⟩ = some (.int .i64 H.1) := P0.out.cell 0; have ywk2P01 : wk2.cell? ⟨w.heap.size, 1, none⟩ = some (.slice ah H.2.length ch) := P0.out.cell 1; have swk2P0 : w.heap.size < wk2.heap.size := P0.out.lt; replace P2 := hid (show Blk wk2 (w.heap.size + 1) #[.int .i64 0, .slice none 0 0] 32 by refine Blk.bw ?_ hbk2; repeat (first | exact P0.out | exact P2.out | exact P3.out | exact P4.out | exact Blk.newG _ _ (by simp) | apply Blk.alloc | apply Blk.dr)); have ywk2P20 : wk2.cell? ⟨w.heap.size + 1, 0, none⟩ = some (.int .i64 0) := P2.out.cell 0; have ywk2P21 : wk2.cell? ⟨w.heap.size + 1, 1, none⟩ = some (.slice none 0 0) := P2.out.cell 1; have fwk2P20 : wk2.frozen? ⟨w.heap.size + 1, 0, none⟩ = false := P2.out.free 0; have fwk2P21 : wk2.frozen? ⟨w.heap.size + 1, 1, none⟩ = false := P2.out.free 1; have swk2P2 : w.heap.size + 1 < wk2.heap.size := P2.out.lt; clear hbk2)
    | fail)
  go_region_held3 (fun w' => w'.cell? ⟨w.heap.size, 0, none⟩ = some (.int .i64 H.1) ∧ w'.cell? ⟨w.heap.size, 1, none⟩ = some (.slice ah H.2.length ch)) (first | (simp [go_sem, *]; done)) (first
    | (go_at_call_of 40 (Value.int .u64 a); refine (HOFA.out _ (by repeat (first | exact Bw.refl _ | exact BK2.out | exact BK.out | exact BO1.out | exact BO2.out | exact BB1.out | exact BB2.out | exact B5.out | exact B6.out | exact B7.out | exact B8.out | apply Bw.alloc | apply Bw.drewN | apply Bw.drew))).mono ?_; rintro e wo1 ⟨vb1, vv1, vk1, he1, hol1, hlo1⟩; have hbo1 := hlo1.bw; clear hlo1; obtain ⟨ab1, cb1, eb1⟩ := hol1.1.form; obtain ⟨av1, cv1, ev1⟩ := hol1.2.1.form; obtain ⟨ak1, ck1, ek1⟩ := hol1.2.2.form; subst eb1 ev1 ek1; simp only [objV] at he1; subst he1; have HSA := hid hol1.1; have BO1 := hid (show Bw w wo1 from Bw.trans (by repeat (first | exact Bw.refl _ | exact BK2.out | exact BK.out | exact BO1.out | exact BO2.out | exact BB1.out | exact BB2.out | exact B5.out | exact B6.out | exact B7.out | exact B8.out | apply Bw.alloc | apply Bw.drewN | apply Bw.drew)) hbo1); replace P0 := hid (show Blk wo1 (w.heap.size) #[.int .i64 H.1, .slice ah H.2.length ch] 32 by refine Blk.bw ?_ hbo1; repeat (first | exact P0.out | exact P2.out | exact P3.out | exact P4.out | exact Blk.newG _ _ (by simp) | apply Blk.alloc | apply Blk.dr)); have ywo1P00 : wo1.cell? ⟨w.heap.size, 0, none⟩ = some (.int .i64 H.1) := P0.out.cell 0; have ywo1P01 : wo1.cell? ⟨w.heap.size, 1, none⟩ = some (.slice ah H.2.length ch) := P0.out.cell 1; have swo1P0 : w.heap.size < wo1.heap.size := P0.out.lt; replace P2 := hid (show Blk wo1 (w.heap.size + 1) #[.int .i64 0, .slice none 0 0] 32 by refine Blk.bw ?_ hbo1; repeat (first | exact P0.out | exact P2.out | exact P3.out | exact P4.out | exact Blk.newG _ _ (by simp) | apply Blk.alloc | apply Blk.dr)); have ywo1P20 : wo1.cell? ⟨w.heap.size + 1, 0, none⟩ = some (.int .i64 0) := P2.out.cell 0; have ywo1P21 : wo1.cell? ⟨w.heap.size + 1, 1, none⟩ = some (.slice none 0 0) := P2.out.cell 1; have fwo1P20 : wo1.frozen? ⟨w.heap.size + 1, 0, none⟩ = false := P2.out.free 0; have fwo1P21 : wo1.frozen? ⟨w.heap.size + 1, 1, none⟩ = false := P2.out.free 1; have swo1P2 : w.heap.size + 1 < wo1.heap.size := P2.out.lt; clear hbo1 hol1)
    | (go_at_call_of 40 (Value.int .u64 b); refine (HOFB.out _ (by repeat (first | exact Bw.refl _ | exact BK2.out | exact BK.out | exact BO1.out | exact BO2.out | exact BB1.out | exact BB2.out | exact B5.out | exact B6.out | exact B7.out | exact B8.out | apply Bw.alloc | apply Bw.drewN | apply Bw.drew))).mono ?_; rintro e wo2 ⟨vb2, vv2, vk2, he2, hol2, hlo2⟩; have hbo2 := hlo2.bw; clear hlo2; obtain ⟨ab2, cb2, eb2⟩ := hol2.1.form; obtain ⟨av2, cv2, ev2⟩ := hol2.2.1.form; obtain ⟨ak2, ck2, ek2⟩ := hol2.2.2.form; subst eb2 ev2 ek2; simp only [objV] at he2; subst he2; have HSB := hid hol2.1; have BO2 := hid (show Bw w wo2 from Bw.trans (by repeat (first | exact Bw.refl _ | exact BK2.out | exact BK.out | exact BO1.out | exact BO2.out | exact BB1.out | exact BB2.out | exact B5.out | exact B6.out | exact B7.out | exact B8.out | apply Bw.alloc | apply Bw.drewN | apply Bw.drew)) hbo2); replace P0 := hid (show Blk wo2 (w.heap.size) #[.int .i64 H.1, .slice ah H.2.length ch] 32 by refine Blk.bw ?_ hbo2; repeat (first | exact P0.out | exact P2.out | exact P3.out | exact P4.out | exact Blk.newG _ _ (by simp) | apply Blk.alloc | apply Blk.dr)); have ywo2P00 : wo2.cell? ⟨w.heap.size, 0, none⟩ = some (.int .i64 H.1) := P0.out.cell 0; have ywo2P01 : wo2.cell? ⟨w.heap.size, 1, none⟩ = some (.slice ah H.2.length ch) := P0.out.cell 1; have swo2P0 : w.heap.size < wo2.heap.size := P0.out.lt; replace P2 := hid (show Blk wo2 (w.heap.size + 1) #[.int .i64 0, .slice none 0 0] 32 by refine Blk.bw ?_ hbo2; repeat (first | exact P0.out | exact P2.out | exact P3.out | exact P4.out | exact Blk.newG _ _ (by simp) | apply Blk.alloc | apply Blk.dr)); have ywo2P20 : wo2.cell? ⟨w.heap.size + 1, 0, none⟩ = some (.int .i64 0) := P2.out.cell 0; have ywo2P21 : wo2.cell? ⟨w.heap.size + 1, 1, none⟩ = some (.slice none 0 0) := P2.out.cell 1; have fwo2P20 : wo2.frozen? ⟨w.heap.size + 1, 0, none⟩ = false := P2.out.free 0; have fwo2P21 : wo2.frozen? ⟨w.heap.size + 1, 1, none⟩ = false := P2.out.free 1; have swo2P2 : w.heap.size + 1 < wo2.heap.size := P2.out.lt; clear hbo2 hol2)
    | fail)
  all_goals go_wp2
  all_goals refine bodyPost_ret (v := .tuple #[.agg #[.int .i64 H.1, .slice ah H.2.length ch], .int .u64 (0), .int .i64 (1)]) (by simp [results, Tryz.results8, go_sem, *]) rfl ?_
  all_goals exact ⟨_, rfl, RdH.whole (g := w.heap.size + 1) (by repeat (first | exact RdH.below (RdH.part HR.out _ (by omega)) BK2.out | exact RdH.below (RdH.part HR.out _ (by omega)) BK.out | exact RdH.below (RdH.part HR.out _ (by omega)) BO1.out | exact RdH.below (RdH.part HR.out _ (by omega)) BO2.out | exact RdH.below (RdH.part HR.out _ (by omega)) BB1.out | exact RdH.below (RdH.part HR.out _ (by omega)) BB2.out | exact RdH.below (RdH.part HR.out _ (by omega)) B5.out | exact RdH.below (RdH.part HR.out _ (by omega)) B6.out | exact RdH.below (RdH.part HR.out _ (by omega)) B7.out | exact RdH.below (RdH.part HR.out _ (by omega)) B8.out | apply RdH.put | apply RdH.alloc | apply RdH.drew)), (by repeat (first | exact Bw.refl _ | exact BK2.out | exact BK.out | exact BO1.out | exact BO2.out | exact BB1.out | exact BB2.out | exact B5.out | exact B6.out | exact B7.out | exact B8.out | apply Bw.alloc | apply Bw.drewN | apply Bw.drew | (refine Bw.setCell ?_ (show w.heap.size ≤ w.heap.size + 1 by omega) _)))⟩

set_option maxRecDepth 100000 in
set_option maxHeartbeats 4000000 in
theorem nbin_scmp (G : Nat → Prop) (hv : Value) (H : AHeap) (a b : Int) (ha : U a) (hb : U b) (hok : HOK H) (ka0 : kd a ≠ 0) (ka1 : kk H a = 1) (kb1 : kk H b = 1) (op : Int) (h7 : 7 ≤ op) (h10 : op ≤ 10) (hGn : ∀ b, w.heap.size ≤ b → G b) (h : RdH w G hv H) (hm : H.2.length ≤ 1000000) :
    Calls Tryz.prog 8 #[hv, .int .i64 op, .int .u64 a, .int .u64 b] w (BD G w (cpV op (blB (ob H a).bytes (ob H b).bytes) (blB (ob H b).bytes (ob H a).bytes), 0, H)) := by
  have HR := hid h
  obtain ⟨ah, ch, rfl⟩ := h.form
  clear h
  unfold BD
  have HA := hid (fun w1 => rkind_any a ha w1)
  generalize hpa : kd a = pa at HA ka0
  have npa : (pa == 0) = false := by simpa using ka0
  clear hpa ka0
  have HKA := hid (fun w1 (hw : Bw w w1) => rkindH_any G _ H a ha w1 (HR.out.below hw) (by omega))
  have HKB := hid (fun w1 (hw : Bw w w1) => rkindH_any G _ H b hb w1 (HR.out.below hw) (by omega))
  rw [ka1] at HKA
  rw [kb1] at HKB
  obtain ⟨_, _, k1, hi1, hg1⟩ := ob_mem (H := H) ha (by omega)
  obtain ⟨_, _, k2, hi2, hg2⟩ := ob_mem (H := H) hb (by omega)
  have HOFA := hid (fun w1 (hw : Bw w w1) => rof_any G _ H a ha k1 hi1 (ob H a) hg1 w w1 hw HR.out (by omega))
  have HOFB := hid (fun w1 (hw : Bw w w1) => rof_any G _ H b hb k2 hi2 (ob H b) hg2 w w1 hw HR.out (by omega))
  have lx : (ob H a).bytes.length ≤ 1000000 := (ob_ok hok ha (kk_ref (by omega)).2.1).2.2.2.2.2.1
  have ly : (ob H b).bytes.length ≤ 1000000 := (ob_ok hok hb (kk_ref (by omega)).2.1).2.2.2.2.2.1
  simp only
  generalize ob H a = oa at HOFA lx ⊢
  generalize ob H b = oc at HOFB ly ⊢
  have n5 : (op == 5) = false := by simp; omega
  have n6 : (op == 6) = false := by simp; omega
  have n00 : (op == 0) = false := by simp; omega
  have n0 : ¬ op < 0 := by omega
  have n1 : ¬ 10 < op := by omega
  have n7 : ¬ op < 7 := by omega
  have HO := hid (fun (p q : Bool) (w1 : World) => norder_any (w := w1) op p q h7 h10)
  have HO1 := hid (HO.out (blB oa.bytes oc.bytes) (blB oc.bytes oa.bytes))
  generalize cpV op (blB oa.bytes oc.bytes) (blB oc.bytes oa.bytes) = V at HO1 ⊢
  clear h7 h10 HO
  clear hGn hok ka1 kb1 hi1 hg1 hi2 hg2
  go_enter Tryz.func8, Tryz.ntmps8
  go_wp2_with (first
    | (go_at_call_of 35 (Value.int .u64 a); (fail_if_success (have _g := G1)); refine (HA.out _).mono ?_; rintro e w' ⟨rfl, hw'⟩; subst w'; have G1 := hid trivial)
    | (go_at_call_of 39 (Value.int .u64 a); (fail_if_success (have _g := BK)); refine (HKA.out _ (by repeat (first | exact Bw.refl _ | exact BK2.out | exact BK.out | exact BO1.out | exact BO2.out | exact BB1.out | exact BB2.out | exact B5.out | exact B6.out | exact B7.out | exact B8.out | apply Bw.alloc | apply Bw.drewN | apply Bw.drew))).mono ?_; rintro e wk ⟨rfl, hlk⟩; have hbk := hlk.bw; clear hlk; have BK := hid (show Bw w wk from Bw.trans (by repeat (first | exact Bw.refl _ | exact BK2.out | exact BK.out | exact BO1.out | exact BO2.out | exact BB1.out | exact BB2.out | exact B5.out | exact B6.out | exact B7.out | exact B8.out | apply Bw.alloc | apply Bw.drewN | apply Bw.drew)) hbk); have P0 := hid (show Blk wk (w.heap.size) #[.int .i64 H.1, .slice ah H.2.length ch] 32 by refine Blk.bw ?_ hbk; repeat (first | exact P0.out | exact P2.out | exact P3.out | exact P4.out | exact Blk.newG _ _ (by simp) | apply Blk.alloc | apply Blk.dr)); have ywkP00 : wk.cell? ⟨w.heap.size, 0, none⟩ = some (.int .i64 H.1) := P0.out.cell 0; have ywkP01 : wk.cell? ⟨w.heap.size, 1, none⟩ = some (.slice ah H.2.length ch) := P0.out.cell 1; have swkP0 : w.heap.size < wk.heap.size := P0.out.lt; have P2 := hid (show Blk wk (w.heap.size + 1) #[.int .i64 0, .slice none 0 0] 32 by refine Blk.bw ?_ hbk; repeat (first | exact P0.out | exact P2.out | exact P3.out | exact P4.out | exact Blk.newG _ _ (by simp) | apply Blk.alloc | apply Blk.dr)); have ywkP20 : wk.cell? ⟨w.heap.size + 1, 0, none⟩ = some (.int .i64 0) := P2.out.cell 0; have ywkP21 : wk.cell? ⟨w.heap.size + 1, 1, none⟩ = some (.slice none 0 0) := P2.out.cell 1; have fwkP20 : wk.frozen? ⟨w.heap.size + 1, 0, none⟩ = false := P2.out.free 0; have fwkP21 : wk.frozen? ⟨w.heap.size + 1, 1, none⟩ = false := P2.out.free 1; have swkP2 : w.heap.size + 1 < wk.heap.size := P2.out.lt; clear hbk)
    | (go_at_call_of 39 (Value.int .u64 b); have _g := BK; clear _g; refine (HKB.out _ (by repeat (first | exact Bw.refl _ | exact BK2.out | exact BK.out | exact BO1.out | exact BO2.out | exact BB1.out | exact BB2.out | exact B5.out | exact B6.out | exact B7.out | exact B8.out | apply Bw.alloc | apply Bw.drewN | apply Bw.drew))).mono ?_; rintro e wk2 ⟨rfl, hlk2⟩; have hbk2 := hlk2.bw; clear hlk2; have BK2 := hid (show Bw w wk2 from Bw.trans (by repeat (first | exact Bw.refl _ | exact BK2.out | exact BK.out | exact BO1.out | exact BO2.out | exact BB1.out | exact BB2.out | exact B5.out | exact B6.out | exact B7.out | exact B8.out | apply Bw.alloc | apply Bw.drewN | apply Bw.drew)) hbk2); replace P0 := hid (show Blk wk2 (w.heap.size) #[.int .i64 H.1, .slice ah H.2.length ch] 32 by refine Blk.bw ?_ hbk2; repeat (first | exact P0.out | exact P2.out | exact P3.out | exact P4.out | exact Blk.newG _ _ (by simp) | apply Blk.alloc | apply Blk.dr)); have ywk2P00 : wk2.cell? ⟨w.heap.size, 0, none⟩ = some (.int .i64 H.1) := P0.out.cell 0; have ywk2P01 : wk2.cell? ⟨w.heap.size, 1, none⟩ = some (.slice ah H.2.length ch) := P0.out.cell 1; have swk2P0 : w.heap.size < wk2.heap.size := P0.out.lt; replace P2 := hid (show Blk wk2 (w.heap.size + 1) #[.int .i64 0, .slice none 0 0] 32 by refine Blk.bw ?_ hbk2; repeat (first | exact P0.out | exact P2.out | exact P3.out | exact P4.out | exact Blk.newG _ _ (by simp) | apply Blk.alloc | apply Blk.dr)); have ywk2P20 : wk2.cell? ⟨w.heap.size + 1, 0, none⟩ = some (.int .i64 0) := P2.out.cell 0; have ywk2P21 : wk2.cell? ⟨w.heap.size + 1, 1, none⟩ = some (.slice none 0 0) := P2.out.cell 1; have fwk2P20 : wk2.frozen? ⟨w.heap.size + 1, 0, none⟩ = false := P2.out.free 0; have fwk2P21 : wk2.frozen? ⟨w.heap.size + 1, 1, none⟩ = false := P2.out.free 1; have swk2P2 : w.heap.size + 1 < wk2.heap.size := P2.out.lt; clear hbk2)
    | fail)
  go_region_held3 (fun w' => w'.cell? ⟨w.heap.size, 0, none⟩ = some (.int .i64 H.1) ∧ w'.cell? ⟨w.heap.size, 1, none⟩ = some (.slice ah H.2.length ch)) (first | (simp [go_sem, *]; done)) (first
    | (go_at_call_of 40 (Value.int .u64 a); refine (HOFA.out _ (by repeat (first | exact Bw.refl _ | exact BK2.out | exact BK.out | exact BO1.out | exact BO2.out | exact BB1.out | exact BB2.out | exact B5.out | exact B6.out | exact B7.out | exact B8.out | apply Bw.alloc | apply Bw.drewN | apply Bw.drew))).mono ?_; rintro e wo1 ⟨vb1, vv1, vk1, he1, hol1, hlo1⟩; have hbo1 := hlo1.bw; clear hlo1; obtain ⟨ab1, cb1, eb1⟩ := hol1.1.form; obtain ⟨av1, cv1, ev1⟩ := hol1.2.1.form; obtain ⟨ak1, ck1, ek1⟩ := hol1.2.2.form; subst eb1 ev1 ek1; simp only [objV] at he1; subst he1; have HSA := hid hol1.1; have BO1 := hid (show Bw w wo1 from Bw.trans (by repeat (first | exact Bw.refl _ | exact BK2.out | exact BK.out | exact BO1.out | exact BO2.out | exact BB1.out | exact BB2.out | exact B5.out | exact B6.out | exact B7.out | exact B8.out | apply Bw.alloc | apply Bw.drewN | apply Bw.drew)) hbo1); replace P0 := hid (show Blk wo1 (w.heap.size) #[.int .i64 H.1, .slice ah H.2.length ch] 32 by refine Blk.bw ?_ hbo1; repeat (first | exact P0.out | exact P2.out | exact P3.out | exact P4.out | exact Blk.newG _ _ (by simp) | apply Blk.alloc | apply Blk.dr)); have ywo1P00 : wo1.cell? ⟨w.heap.size, 0, none⟩ = some (.int .i64 H.1) := P0.out.cell 0; have ywo1P01 : wo1.cell? ⟨w.heap.size, 1, none⟩ = some (.slice ah H.2.length ch) := P0.out.cell 1; have swo1P0 : w.heap.size < wo1.heap.size := P0.out.lt; replace P2 := hid (show Blk wo1 (w.heap.size + 1) #[.int .i64 0, .slice none 0 0] 32 by refine Blk.bw ?_ hbo1; repeat (first | exact P0.out | exact P2.out | exact P3.out | exact P4.out | exact Blk.newG _ _ (by simp) | apply Blk.alloc | apply Blk.dr)); have ywo1P20 : wo1.cell? ⟨w.heap.size + 1, 0, none⟩ = some (.int .i64 0) := P2.out.cell 0; have ywo1P21 : wo1.cell? ⟨w.heap.size + 1, 1, none⟩ = some (.slice none 0 0) := P2.out.cell 1; have fwo1P20 : wo1.frozen? ⟨w.heap.size + 1, 0, none⟩ = false := P2.out.free 0; have fwo1P21 : wo1.frozen? ⟨w.heap.size + 1, 1, none⟩ = false := P2.out.free 1; have swo1P2 : w.heap.size + 1 < wo1.heap.size := P2.out.lt; clear hbo1 hol1)
    | (go_at_call_of 40 (Value.int .u64 b); refine (HOFB.out _ (by repeat (first | exact Bw.refl _ | exact BK2.out | exact BK.out | exact BO1.out | exact BO2.out | exact BB1.out | exact BB2.out | exact B5.out | exact B6.out | exact B7.out | exact B8.out | apply Bw.alloc | apply Bw.drewN | apply Bw.drew))).mono ?_; rintro e wo2 ⟨vb2, vv2, vk2, he2, hol2, hlo2⟩; have hbo2 := hlo2.bw; clear hlo2; obtain ⟨ab2, cb2, eb2⟩ := hol2.1.form; obtain ⟨av2, cv2, ev2⟩ := hol2.2.1.form; obtain ⟨ak2, ck2, ek2⟩ := hol2.2.2.form; subst eb2 ev2 ek2; simp only [objV] at he2; subst he2; have HSB := hid hol2.1; have BO2 := hid (show Bw w wo2 from Bw.trans (by repeat (first | exact Bw.refl _ | exact BK2.out | exact BK.out | exact BO1.out | exact BO2.out | exact BB1.out | exact BB2.out | exact B5.out | exact B6.out | exact B7.out | exact B8.out | apply Bw.alloc | apply Bw.drewN | apply Bw.drew)) hbo2); replace P0 := hid (show Blk wo2 (w.heap.size) #[.int .i64 H.1, .slice ah H.2.length ch] 32 by refine Blk.bw ?_ hbo2; repeat (first | exact P0.out | exact P2.out | exact P3.out | exact P4.out | exact Blk.newG _ _ (by simp) | apply Blk.alloc | apply Blk.dr)); have ywo2P00 : wo2.cell? ⟨w.heap.size, 0, none⟩ = some (.int .i64 H.1) := P0.out.cell 0; have ywo2P01 : wo2.cell? ⟨w.heap.size, 1, none⟩ = some (.slice ah H.2.length ch) := P0.out.cell 1; have swo2P0 : w.heap.size < wo2.heap.size := P0.out.lt; replace P2 := hid (show Blk wo2 (w.heap.size + 1) #[.int .i64 0, .slice none 0 0] 32 by refine Blk.bw ?_ hbo2; repeat (first | exact P0.out | exact P2.out | exact P3.out | exact P4.out | exact Blk.newG _ _ (by simp) | apply Blk.alloc | apply Blk.dr)); have ywo2P20 : wo2.cell? ⟨w.heap.size + 1, 0, none⟩ = some (.int .i64 0) := P2.out.cell 0; have ywo2P21 : wo2.cell? ⟨w.heap.size + 1, 1, none⟩ = some (.slice none 0 0) := P2.out.cell 1; have fwo2P20 : wo2.frozen? ⟨w.heap.size + 1, 0, none⟩ = false := P2.out.free 0; have fwo2P21 : wo2.frozen? ⟨w.heap.size + 1, 1, none⟩ = false := P2.out.free 1; have swo2P2 : w.heap.size + 1 < wo2.heap.size := P2.out.lt; clear hbo2 hol2)
    | fail)
  all_goals go_wp2
  all_goals go_region_held3 (fun w' => w'.cell? ⟨w.heap.size, 0, none⟩ = some (.int .i64 H.1) ∧ w'.cell? ⟨w.heap.size, 1, none⟩ = some (.slice ah H.2.length ch)) (first | (simp [go_sem, *]; done)) (first
    | (go_at_call 42; (fail_if_success (have _g := BB1)); refine (nbelow_any G _ _ _ _ (by first | exact Sl.below HSA.out (by repeat (first | exact Bw.refl _ | exact BK2.out | exact BK.out | exact BO1.out | exact BO2.out | exact BB1.out | exact BB2.out | exact B5.out | exact B6.out | exact B7.out | exact B8.out | apply Bw.alloc | apply Bw.drewN | apply Bw.drew)) | exact Sl.below HSB.out (by repeat (first | exact Bw.refl _ | exact BK2.out | exact BK.out | exact BO1.out | exact BO2.out | exact BB1.out | exact BB2.out | exact B5.out | exact B6.out | exact B7.out | exact B8.out | apply Bw.alloc | apply Bw.drewN | apply Bw.drew))) (by first | exact Sl.below HSB.out (by repeat (first | exact Bw.refl _ | exact BK2.out | exact BK.out | exact BO1.out | exact BO2.out | exact BB1.out | exact BB2.out | exact B5.out | exact B6.out | exact B7.out | exact B8.out | apply Bw.alloc | apply Bw.drewN | apply Bw.drew)) | exact Sl.below HSA.out (by repeat (first | exact Bw.refl _ | exact BK2.out | exact BK.out | exact BO1.out | exact BO2.out | exact BB1.out | exact BB2.out | exact B5.out | exact B6.out | exact B7.out | exact B8.out | apply Bw.alloc | apply Bw.drewN | apply Bw.drew))) (by omega) (by omega)).mono ?_; rintro e wb1 ⟨rfl, hlb1⟩; have hbb1 := hlb1.bw; clear hlb1; have BB1 := hid (show Bw w wb1 from Bw.trans (by repeat (first | exact Bw.refl _ | exact BK2.out | exact BK.out | exact BO1.out | exact BO2.out | exact BB1.out | exact BB2.out | exact B5.out | exact B6.out | exact B7.out | exact B8.out | apply Bw.alloc | apply Bw.drewN | apply Bw.drew)) hbb1); replace P0 := hid (show Blk wb1 (w.heap.size) #[.int .i64 H.1, .slice ah H.2.length ch] 32 by refine Blk.bw ?_ hbb1; repeat (first | exact P0.out | exact P2.out | exact P3.out | exact P4.out | exact Blk.newG _ _ (by simp) | apply Blk.alloc | apply Blk.dr)); have ywb1P00 : wb1.cell? ⟨w.heap.size, 0, none⟩ = some (.int .i64 H.1) := P0.out.cell 0; have ywb1P01 : wb1.cell? ⟨w.heap.size, 1, none⟩ = some (.slice ah H.2.length ch) := P0.out.cell 1; have swb1P0 : w.heap.size < wb1.heap.size := P0.out.lt; replace P2 := hid (show Blk wb1 (w.heap.size + 1) #[.int .i64 0, .slice none 0 0] 32 by refine Blk.bw ?_ hbb1; repeat (first | exact P0.out | exact P2.out | exact P3.out | exact P4.out | exact Blk.newG _ _ (by simp) | apply Blk.alloc | apply Blk.dr)); have ywb1P20 : wb1.cell? ⟨w.heap.size + 1, 0, none⟩ = some (.int .i64 0) := P2.out.cell 0; have ywb1P21 : wb1.cell? ⟨w.heap.size + 1, 1, none⟩ = some (.slice none 0 0) := P2.out.cell 1; have fwb1P20 : wb1.frozen? ⟨w.heap.size + 1, 0, none⟩ = false := P2.out.free 0; have fwb1P21 : wb1.frozen? ⟨w.heap.size + 1, 1, none⟩ = false := P2.out.free 1; have swb1P2 : w.heap.size + 1 < wb1.heap.size := P2.out.lt; clear hbb1)
    | (go_at_call 42; have _g := BB1; clear _g; refine (nbelow_any G _ _ _ _ (by first | exact Sl.below HSA.out (by repeat (first | exact Bw.refl _ | exact BK2.out | exact BK.out | exact BO1.out | exact BO2.out | exact BB1.out | exact BB2.out | exact B5.out | exact B6.out | exact B7.out | exact B8.out | apply Bw.alloc | apply Bw.drewN | apply Bw.drew)) | exact Sl.below HSB.out (by repeat (first | exact Bw.refl _ | exact BK2.out | exact BK.out | exact BO1.out | exact BO2.out | exact BB1.out | exact BB2.out | exact B5.out | exact B6.out | exact B7.out | exact B8.out | apply Bw.alloc | apply Bw.drewN | apply Bw.drew))) (by first | exact Sl.below HSB.out (by repeat (first | exact Bw.refl _ | exact BK2.out | exact BK.out | exact BO1.out | exact BO2.out | exact BB1.out | exact BB2.out | exact B5.out | exact B6.out | exact B7.out | exact B8.out | apply Bw.alloc | apply Bw.drewN | apply Bw.drew)) | exact Sl.below HSA.out (by repeat (first | exact Bw.refl _ | exact BK2.out | exact BK.out | exact BO1.out | exact BO2.out | exact BB1.out | exact BB2.out | exact B5.out | exact B6.out | exact B7.out | exact B8.out | apply Bw.alloc | apply Bw.drewN | apply Bw.drew))) (by omega) (by omega)).mono ?_; rintro e wb2 ⟨rfl, hlb2⟩; have hbb2 := hlb2.bw; clear hlb2; have BB2 := hid (show Bw w wb2 from Bw.trans (by repeat (first | exact Bw.refl _ | exact BK2.out | exact BK.out | exact BO1.out | exact BO2.out | exact BB1.out | exact BB2.out | exact B5.out | exact B6.out | exact B7.out | exact B8.out | apply Bw.alloc | apply Bw.drewN | apply Bw.drew)) hbb2); replace P0 := hid (show Blk wb2 (w.heap.size) #[.int .i64 H.1, .slice ah H.2.length ch] 32 by refine Blk.bw ?_ hbb2; repeat (first | exact P0.out | exact P2.out | exact P3.out | exact P4.out | exact Blk.newG _ _ (by simp) | apply Blk.alloc | apply Blk.dr)); have ywb2P00 : wb2.cell? ⟨w.heap.size, 0, none⟩ = some (.int .i64 H.1) := P0.out.cell 0; have ywb2P01 : wb2.cell? ⟨w.heap.size, 1, none⟩ = some (.slice ah H.2.length ch) := P0.out.cell 1; have swb2P0 : w.heap.size < wb2.heap.size := P0.out.lt; replace P2 := hid (show Blk wb2 (w.heap.size + 1) #[.int .i64 0, .slice none 0 0] 32 by refine Blk.bw ?_ hbb2; repeat (first | exact P0.out | exact P2.out | exact P3.out | exact P4.out | exact Blk.newG _ _ (by simp) | apply Blk.alloc | apply Blk.dr)); have ywb2P20 : wb2.cell? ⟨w.heap.size + 1, 0, none⟩ = some (.int .i64 0) := P2.out.cell 0; have ywb2P21 : wb2.cell? ⟨w.heap.size + 1, 1, none⟩ = some (.slice none 0 0) := P2.out.cell 1; have fwb2P20 : wb2.frozen? ⟨w.heap.size + 1, 0, none⟩ = false := P2.out.free 0; have fwb2P21 : wb2.frozen? ⟨w.heap.size + 1, 1, none⟩ = false := P2.out.free 1; have swb2P2 : w.heap.size + 1 < wb2.heap.size := P2.out.lt; clear hbb2)
    | (go_at_call 37; refine (HO1.out _).mono ?_; rintro e w5 ⟨rfl, hly5⟩; have hb5 := hly5.bw; clear hly5; have B5 := hid (show Bw w w5 from Bw.trans (by repeat (first | exact Bw.refl _ | exact BK2.out | exact BK.out | exact BO1.out | exact BO2.out | exact BB1.out | exact BB2.out | exact B5.out | exact B6.out | exact B7.out | exact B8.out | apply Bw.alloc | apply Bw.drewN | apply Bw.drew)) hb5); replace P0 := hid (show Blk w5 (w.heap.size) #[.int .i64 H.1, .slice ah H.2.length ch] 32 by refine Blk.bw ?_ hb5; repeat (first | exact P0.out | exact P2.out | exact P3.out | exact P4.out | exact Blk.newG _ _ (by simp) | apply Blk.alloc | apply Blk.dr)); have yw5P00 : w5.cell? ⟨w.heap.size, 0, none⟩ = some (.int .i64 H.1) := P0.out.cell 0; have yw5P01 : w5.cell? ⟨w.heap.size, 1, none⟩ = some (.slice ah H.2.length ch) := P0.out.cell 1; have sw5P0 : w.heap.size < w5.heap.size := P0.out.lt; replace P2 := hid (show Blk w5 (w.heap.size + 1) #[.int .i64 0, .slice none 0 0] 32 by refine Blk.bw ?_ hb5; repeat (first | exact P0.out | exact P2.out | exact P3.out | exact P4.out | exact Blk.newG _ _ (by simp) | apply Blk.alloc | apply Blk.dr)); have yw5P20 : w5.cell? ⟨w.heap.size + 1, 0, none⟩ = some (.int .i64 0) := P2.out.cell 0; have yw5P21 : w5.cell? ⟨w.heap.size + 1, 1, none⟩ = some (.slice none 0 0) := P2.out.cell 1; have fw5P20 : w5.frozen? ⟨w.heap.size + 1, 0, none⟩ = false := P2.out.free 0; have fw5P21 : w5.frozen? ⟨w.heap.size + 1, 1, none⟩ = false := P2.out.free 1; have sw5P2 : w.heap.size + 1 < w5.heap.size := P2.out.lt; clear hb5)
    | fail)
  all_goals go_wp2
  all_goals refine bodyPost_ret (v := .tuple #[.agg #[.int .i64 H.1, .slice ah H.2.length ch], .int .u64 (V), .int .i64 (0)]) (by simp [results, Tryz.results8, go_sem, *]) rfl ?_
  all_goals exact ⟨_, rfl, RdH.whole (g := w.heap.size + 1) (by repeat (first | exact RdH.below (RdH.part HR.out _ (by omega)) BK2.out | exact RdH.below (RdH.part HR.out _ (by omega)) BK.out | exact RdH.below (RdH.part HR.out _ (by omega)) BO1.out | exact RdH.below (RdH.part HR.out _ (by omega)) BO2.out | exact RdH.below (RdH.part HR.out _ (by omega)) BB1.out | exact RdH.below (RdH.part HR.out _ (by omega)) BB2.out | exact RdH.below (RdH.part HR.out _ (by omega)) B5.out | exact RdH.below (RdH.part HR.out _ (by omega)) B6.out | exact RdH.below (RdH.part HR.out _ (by omega)) B7.out | exact RdH.below (RdH.part HR.out _ (by omega)) B8.out | apply RdH.put | apply RdH.alloc | apply RdH.drew)), (by repeat (first | exact Bw.refl _ | exact BK2.out | exact BK.out | exact BO1.out | exact BO2.out | exact BB1.out | exact BB2.out | exact B5.out | exact B6.out | exact B7.out | exact B8.out | apply Bw.alloc | apply Bw.drewN | apply Bw.drew | (refine Bw.setCell ?_ (show w.heap.size ≤ w.heap.size + 1 by omega) _)))⟩

end

end Go.Proofs.YtjcoifdfemejkaaGreatDoor

set_option linter.unusedSimpArgs false
set_option linter.unusedVariables false
namespace Go.Proofs.YtjcoifdfemejkaaGreatDoor
open Go Go.RowKit

theorem step_append_slB {P : Program} {ops : Array Oper} {o : Oper} {a : Act} {w : World} {K : Act → World → Prop} {Q : Exit → Act → World → Prop} {E : Prop} {G : Nat → Prop}
    (hgd : o.guard = none) (s x : Operand) (t : TypeId) (ho : o.op = Op.call { callee := Callee.builtin Builtin.append, args := #[s, x], argTypes := #[t, t] })
    (base : Nat) (e : TypeId) (i : TypeInfo) (z : Value) (size bytes : Nat) (ht : P.underlying t = some (.slice e)) (hi : P.info? e = some i) (hz : i.zero = some z)
    (hsize : i.size = size) (hby : i.bytes = bytes) (hzs : z.cells.size = size) (hsz : 0 < size)
    (v : Value) (n : Nat) (xs : List Value) (hs : a.eval s = v) (hown : w.ownsRow base e size v n xs)
    (xv : Value) (m : Nat) (news : List Value) (hx : a.eval x = xv) (hsl : Sl w G xv m size news) (h1 : ∀ u ∈ news, u.oneCell' = true)
    (h63 : n + m ≤ maxLen) (hbytes : (n + m) * bytes ≤ 140737488355328) (hbase : base ≤ w.heap.size)
    (h : ∀ v' w', w'.ownsRow base e size v' (n + m) (xs ++ news) → (∀ g cur e', e ≠ e' → Blk w g cur e' → Blk w' g cur e') → (∀ a, Bw a w → a.heap.size ≤ base → Bw a w') → K (a.put o.dst v') w') :
    if Region.wanted o (yielded ops a.tmps) = true then Oper.wp P o a w K Q else E :=
  step_append_sl hgd s x t ho base e i z size bytes ht hi hz hsize hby hzs hsz v n xs hs hown xv m news hx hsl h1 h63 hbytes hbase
    (fun v' w' how hgr => h v' w' how (fun g cur e' hne hb => Blk.grownOwn hb hown hne hgr) (fun a ha hb => bw_grown ha hb hown hgr))

section
variable {w w' : World}

set_option maxRecDepth 100000 in
set_option maxHeartbeats 4000000 in
theorem nbin_sjoin (G : Nat → Prop) (hv : Value) (H : AHeap) (a b : Int) (ha : U a) (hb : U b) (hok : HOK H) (ka0 : kd a ≠ 0) (ka1 : kk H a = 1) (kb1 : kk H b = 1) (hlen : (ob H a).bytes.length + (ob H b).bytes.length ≤ 1000000) (hGn : ∀ b, w.heap.size ≤ b → G b) (h : RdH w G hv H) (hm : H.2.length ≤ 1000000) :
    Calls Tryz.prog 8 #[hv, .int .i64 0, .int .u64 a, .int .u64 b] w (BD G w (mkR H (oStr ((ob H a).bytes ++ (ob H b).bytes)))) := by
  have HR := hid h
  obtain ⟨ah, ch, rfl⟩ := h.form
  clear h
  unfold BD
  have HA := hid (fun w1 => rkind_any a ha w1)
  generalize hpa : kd a = pa at HA ka0
  have npa : (pa == 0) = false := by simpa using ka0
  clear hpa ka0
  have HKA := hid (fun w1 (hw : Bw w w1) => rkindH_any G _ H a ha w1 (HR.out.below hw) (by omega))
  have HKB := hid (fun w1 (hw : Bw w w1) => rkindH_any G _ H b hb w1 (HR.out.below hw) (by omega))
  rw [ka1] at HKA
  rw [kb1] at HKB
  obtain ⟨_, _, k1, hi1, hg1⟩ := ob_mem (H := H) ha (by omega)
  obtain ⟨_, _, k2, hi2, hg2⟩ := ob_mem (H := H) hb (by omega)
  have HOFA := hid (fun w1 (hw : Bw w w1) => rof_any G _ H a ha k1 hi1 (ob H a) hg1 w w1 hw HR.out (by omega))
  have HOFB := hid (fun w1 (hw : Bw w w1) => rof_any G _ H b hb k2 hi2 (ob H b) hg2 w w1 hw HR.out (by omega))
  have lx : (ob H a).bytes.length ≤ 1000000 := (ob_ok hok ha (kk_ref (by omega)).2.1).2.2.2.2.2.1
  have ly : (ob H b).bytes.length ≤ 1000000 := (ob_ok hok hb (kk_ref (by omega)).2.1).2.2.2.2.2.1
  generalize ob H a = oa at HOFA lx hlen ⊢
  generalize ob H b = oc at HOFB ly hlen ⊢
  have HMK := hid (fun (vb : Value) (w1 : World) (hw : Bw w w1) (hs : w.heap.size + 2 ≤ w1.heap.size) (hsl : Sl w1 (fun _ => True) vb (oa.bytes ++ oc.bytes).length 1 ((oa.bytes ++ oc.bytes).map (Value.int .u8))) => show Calls Tryz.prog 41 #[.agg #[.int .i64 H.1, .slice ah H.2.length ch], .agg #[.int .i64 1, vb, .slice none 0 0, .slice none 0 0, .int .i64 0, .int .u64 0, .int .u64 0]] w1 (BD (fun b => G b ∧ b ≠ w.heap.size + 1) w1 (mkR H (oStr (oa.bytes ++ oc.bytes)))) by
    have := nMake_any (w := w1) (fun b => G b ∧ b ≠ w.heap.size + 1) (fun _ => True) _ H (oStr (oa.bytes ++ oc.bytes)) vb (.slice none 0 0) (.slice none 0 0) (fun b h => ⟨hGn b (by omega), by omega⟩) ((HR.out.part _ (by omega)).below hw) ⟨hsl, Sl.nil _ _ _, Sl.nil _ _ _⟩ (fun v hv => by cases hv) hm (by show (oa.bytes ++ oc.bytes).length ≤ 1000000; rw [List.length_append]; omega) (Nat.zero_le _) (Nat.zero_le _)
    rw [dk_str] at this
    exact this)
  unfold BD at HMK
  generalize mkR H (oStr (oa.bytes ++ oc.bytes)) = R at HMK ⊢
  obtain ⟨V, F, H'⟩ := R
  simp only at HMK ⊢
  obtain ⟨i1, hi1', hz1, hs1, hy1⟩ := info_parts infoU8
  have I1 := hid (And.intro hi1' (And.intro hz1 (And.intro hs1 hy1)))
  clear hi1' hz1 hs1 hy1 hlen
  clear hGn hok ka1 kb1 hi1 hg1 hi2 hg2
  go_enter Tryz.func8, Tryz.ntmps8
  go_wp2_with (first
    | (go_at_call_of 35 (Value.int .u64 a); (fail_if_success (have _g := G1)); refine (HA.out _).mono ?_; rintro e w' ⟨rfl, hw'⟩; subst w'; have G1 := hid trivial)
    | (go_at_call_of 39 (Value.int .u64 a); (fail_if_success (have _g := BK)); refine (HKA.out _ (by repeat (first | exact Bw.refl _ | exact BK2.out | exact BK.out | exact BO1.out | exact BO2.out | exact BB1.out | exact BB2.out | exact B5.out | exact B6.out | exact B7.out | exact B8.out | apply Bw.alloc | apply Bw.drewN | apply Bw.drew))).mono ?_; rintro e wk ⟨rfl, hlk⟩; have hbk := hlk.bw; clear hlk; have BK := hid (show Bw w wk from Bw.trans (by repeat (first | exact Bw.refl _ | exact BK2.out | exact BK.out | exact BO1.out | exact BO2.out | exact BB1.out | exact BB2.out | exact B5.out | exact B6.out | exact B7.out | exact B8.out | apply Bw.alloc | apply Bw.drewN | apply Bw.drew)) hbk); have P0 := hid (show Blk wk (w.heap.size) #[.int .i64 H.1, .slice ah H.2.length ch] 32 by refine Blk.bw ?_ hbk; repeat (first | exact P0.out | exact P2.out | exact P3.out | exact P4.out | exact Blk.newG _ _ (by simp) | apply Blk.alloc | apply Blk.dr)); have ywkP00 : wk.cell? ⟨w.heap.size, 0, none⟩ = some (.int .i64 H.1) := P0.out.cell 0; have ywkP01 : wk.cell? ⟨w.heap.size, 1, none⟩ = some (.slice ah H.2.length ch) := P0.out.cell 1; have swkP0 : w.heap.size < wk.heap.size := P0.out.lt; have P2 := hid (show Blk wk (w.heap.size + 1) #[.int .i64 0, .slice none 0 0] 32 by refine Blk.bw ?_ hbk; repeat (first | exact P0.out | exact P2.out | exact P3.out | exact P4.out | exact Blk.newG _ _ (by simp) | apply Blk.alloc | apply Blk.dr)); have ywkP20 : wk.cell? ⟨w.heap.size + 1, 0, none⟩ = some (.int .i64 0) := P2.out.cell 0; have ywkP21 : wk.cell? ⟨w.heap.size + 1, 1, none⟩ = some (.slice none 0 0) := P2.out.cell 1; have fwkP20 : wk.frozen? ⟨w.heap.size + 1, 0, none⟩ = false := P2.out.free 0; have fwkP21 : wk.frozen? ⟨w.heap.size + 1, 1, none⟩ = false := P2.out.free 1; have swkP2 : w.heap.size + 1 < wk.heap.size := P2.out.lt; clear hbk)
    | (go_at_call_of 39 (Value.int .u64 b); have _g := BK; clear _g; refine (HKB.out _ (by repeat (first | exact Bw.refl _ | exact BK2.out | exact BK.out | exact BO1.out | exact BO2.out | exact BB1.out | exact BB2.out | exact B5.out | exact B6.out | exact B7.out | exact B8.out | apply Bw.alloc | apply Bw.drewN | apply Bw.drew))).mono ?_; rintro e wk2 ⟨rfl, hlk2⟩; have hbk2 := hlk2.bw; clear hlk2; have BK2 := hid (show Bw w wk2 from Bw.trans (by repeat (first | exact Bw.refl _ | exact BK2.out | exact BK.out | exact BO1.out | exact BO2.out | exact BB1.out | exact BB2.out | exact B5.out | exact B6.out | exact B7.out | exact B8.out | apply Bw.alloc | apply Bw.drewN | apply Bw.drew)) hbk2); replace P0 := hid (show Blk wk2 (w.heap.size) #[.int .i64 H.1, .slice ah H.2.length ch] 32 by refine Blk.bw ?_ hbk2; repeat (first | exact P0.out | exact P2.out | exact P3.out | exact P4.out | exact Blk.newG _ _ (by simp) | apply Blk.alloc | apply Blk.dr)); have ywk2P00 : wk2.cell? ⟨w.heap.size, 0, none⟩ = some (.int .i64 H.1) := P0.out.cell 0; have ywk2P01 : wk2.cell? ⟨w.heap.size, 1, none⟩ = some (.slice ah H.2.length ch) := P0.out.cell 1; have swk2P0 : w.heap.size < wk2.heap.size := P0.out.lt; replace P2 := hid (show Blk wk2 (w.heap.size + 1) #[.int .i64 0, .slice none 0 0] 32 by refine Blk.bw ?_ hbk2; repeat (first | exact P0.out | exact P2.out | exact P3.out | exact P4.out | exact Blk.newG _ _ (by simp) | apply Blk.alloc | apply Blk.dr)); have ywk2P20 : wk2.cell? ⟨w.heap.size + 1, 0, none⟩ = some (.int .i64 0) := P2.out.cell 0; have ywk2P21 : wk2.cell? ⟨w.heap.size + 1, 1, none⟩ = some (.slice none 0 0) := P2.out.cell 1; have fwk2P20 : wk2.frozen? ⟨w.heap.size + 1, 0, none⟩ = false := P2.out.free 0; have fwk2P21 : wk2.frozen? ⟨w.heap.size + 1, 1, none⟩ = false := P2.out.free 1; have swk2P2 : w.heap.size + 1 < wk2.heap.size := P2.out.lt; clear hbk2)
    | fail)
  go_region_held3 (fun w' => w'.cell? ⟨w.heap.size, 0, none⟩ = some (.int .i64 H.1) ∧ w'.cell? ⟨w.heap.size, 1, none⟩ = some (.slice ah H.2.length ch)) (first | (simp [go_sem, *]; done)) (first
    | (go_at_call_of 40 (Value.int .u64 a); refine (HOFA.out _ (by repeat (first | exact Bw.refl _ | exact BK2.out | exact BK.out | exact BO1.out | exact BO2.out | exact BB1.out | exact BB2.out | exact B5.out | exact B6.out | exact B7.out | exact B8.out | apply Bw.alloc | apply Bw.drewN | apply Bw.drew))).mono ?_; rintro e wo1 ⟨vb1, vv1, vk1, he1, hol1, hlo1⟩; have hbo1 := hlo1.bw; clear hlo1; obtain ⟨ab1, cb1, eb1⟩ := hol1.1.form; obtain ⟨av1, cv1, ev1⟩ := hol1.2.1.form; obtain ⟨ak1, ck1, ek1⟩ := hol1.2.2.form; subst eb1 ev1 ek1; simp only [objV] at he1; subst he1; have HSA := hid hol1.1; have BO1 := hid (show Bw w wo1 from Bw.trans (by repeat (first | exact Bw.refl _ | exact BK2.out | exact BK.out | exact BO1.out | exact BO2.out | exact BB1.out | exact BB2.out | exact B5.out | exact B6.out | exact B7.out | exact B8.out | apply Bw.alloc | apply Bw.drewN | apply Bw.drew)) hbo1); replace P0 := hid (show Blk wo1 (w.heap.size) #[.int .i64 H.1, .slice ah H.2.length ch] 32 by refine Blk.bw ?_ hbo1; repeat (first | exact P0.out | exact P2.out | exact P3.out | exact P4.out | exact Blk.newG _ _ (by simp) | apply Blk.alloc | apply Blk.dr)); have ywo1P00 : wo1.cell? ⟨w.heap.size, 0, none⟩ = some (.int .i64 H.1) := P0.out.cell 0; have ywo1P01 : wo1.cell? ⟨w.heap.size, 1, none⟩ = some (.slice ah H.2.length ch) := P0.out.cell 1; have swo1P0 : w.heap.size < wo1.heap.size := P0.out.lt; replace P2 := hid (show Blk wo1 (w.heap.size + 1) #[.int .i64 0, .slice none 0 0] 32 by refine Blk.bw ?_ hbo1; repeat (first | exact P0.out | exact P2.out | exact P3.out | exact P4.out | exact Blk.newG _ _ (by simp) | apply Blk.alloc | apply Blk.dr)); have ywo1P20 : wo1.cell? ⟨w.heap.size + 1, 0, none⟩ = some (.int .i64 0) := P2.out.cell 0; have ywo1P21 : wo1.cell? ⟨w.heap.size + 1, 1, none⟩ = some (.slice none 0 0) := P2.out.cell 1; have fwo1P20 : wo1.frozen? ⟨w.heap.size + 1, 0, none⟩ = false := P2.out.free 0; have fwo1P21 : wo1.frozen? ⟨w.heap.size + 1, 1, none⟩ = false := P2.out.free 1; have swo1P2 : w.heap.size + 1 < wo1.heap.size := P2.out.lt; clear hbo1 hol1)
    | (go_at_call_of 40 (Value.int .u64 b); refine (HOFB.out _ (by repeat (first | exact Bw.refl _ | exact BK2.out | exact BK.out | exact BO1.out | exact BO2.out | exact BB1.out | exact BB2.out | exact B5.out | exact B6.out | exact B7.out | exact B8.out | apply Bw.alloc | apply Bw.drewN | apply Bw.drew))).mono ?_; rintro e wo2 ⟨vb2, vv2, vk2, he2, hol2, hlo2⟩; have hbo2 := hlo2.bw; clear hlo2; obtain ⟨ab2, cb2, eb2⟩ := hol2.1.form; obtain ⟨av2, cv2, ev2⟩ := hol2.2.1.form; obtain ⟨ak2, ck2, ek2⟩ := hol2.2.2.form; subst eb2 ev2 ek2; simp only [objV] at he2; subst he2; have HSB := hid hol2.1; have BO2 := hid (show Bw w wo2 from Bw.trans (by repeat (first | exact Bw.refl _ | exact BK2.out | exact BK.out | exact BO1.out | exact BO2.out | exact BB1.out | exact BB2.out | exact B5.out | exact B6.out | exact B7.out | exact B8.out | apply Bw.alloc | apply Bw.drewN | apply Bw.drew)) hbo2); replace P0 := hid (show Blk wo2 (w.heap.size) #[.int .i64 H.1, .slice ah H.2.length ch] 32 by refine Blk.bw ?_ hbo2; repeat (first | exact P0.out | exact P2.out | exact P3.out | exact P4.out | exact Blk.newG _ _ (by simp) | apply Blk.alloc | apply Blk.dr)); have ywo2P00 : wo2.cell? ⟨w.heap.size, 0, none⟩ = some (.int .i64 H.1) := P0.out.cell 0; have ywo2P01 : wo2.cell? ⟨w.heap.size, 1, none⟩ = some (.slice ah H.2.length ch) := P0.out.cell 1; have swo2P0 : w.heap.size < wo2.heap.size := P0.out.lt; replace P2 := hid (show Blk wo2 (w.heap.size + 1) #[.int .i64 0, .slice none 0 0] 32 by refine Blk.bw ?_ hbo2; repeat (first | exact P0.out | exact P2.out | exact P3.out | exact P4.out | exact Blk.newG _ _ (by simp) | apply Blk.alloc | apply Blk.dr)); have ywo2P20 : wo2.cell? ⟨w.heap.size + 1, 0, none⟩ = some (.int .i64 0) := P2.out.cell 0; have ywo2P21 : wo2.cell? ⟨w.heap.size + 1, 1, none⟩ = some (.slice none 0 0) := P2.out.cell 1; have fwo2P20 : wo2.frozen? ⟨w.heap.size + 1, 0, none⟩ = false := P2.out.free 0; have fwo2P21 : wo2.frozen? ⟨w.heap.size + 1, 1, none⟩ = false := P2.out.free 1; have swo2P2 : w.heap.size + 1 < wo2.heap.size := P2.out.lt; clear hbo2 hol2)
    | fail)
  all_goals go_wp2
  all_goals go_region_law (first
    | (refine step_append_slB (G := fun _ => True) (by rfl) (.tmp 107) (.tmp 108) 46 (by rfl) (w.heap.size + 2) 5 i1 (.int .u8 0) 1 1 Tryz.underlying46 I1.out.1 I1.out.2.1 I1.out.2.2.1 I1.out.2.2.2 (by rfl) (by decide) _ 0 [] (by rfl) (by first | exact own_empty _ 5 1 _ _ (by simp) (by first | (simp; done) | (simp; omega) | omega) | exact (own_empty _ 5 1 _ _ (by simp) (by first | (simp; done) | (simp; omega) | omega)).drew) _ oa.bytes.length (oa.bytes.map (Value.int .u8)) (by rfl) (Sl.any (Sl.below HSA.out (by repeat (first | exact Bw.refl _ | exact BK2.out | exact BK.out | exact BO1.out | exact BO2.out | exact BB1.out | exact BB2.out | exact B5.out | exact B6.out | exact B7.out | exact B8.out | apply Bw.alloc | apply Bw.drewN | apply Bw.drew)))) (ints_one _ _) (by unfold maxLen; omega) (by omega) (by first | (simp; done) | (simp; omega) | omega) ?_; intro v6 w6 how6 hk6 hb6; simp only [Nat.zero_add, List.nil_append] at how6; obtain ⟨a6, c6, rfl⟩ := own_form how6; have B6 := hid (hb6 w (by repeat (first | exact Bw.refl _ | exact BK2.out | exact BK.out | exact BO1.out | exact BO2.out | exact BB1.out | exact BB2.out | exact B5.out | exact B6.out | exact B7.out | exact B8.out | apply Bw.alloc | apply Bw.drewN | apply Bw.drew)) (by omega)); have O6 := hid how6; replace P0 := hid (hk6 (w.heap.size) #[.int .i64 H.1, .slice ah H.2.length ch] 32 (by decide) (by repeat (first | exact P0.out | exact P2.out | exact Blk.newG _ _ (by simp) | apply Blk.alloc | apply Blk.dr))); have yw6P00 : w6.cell? ⟨w.heap.size, 0, none⟩ = some (.int .i64 H.1) := P0.out.cell 0; have yw6P01 : w6.cell? ⟨w.heap.size, 1, none⟩ = some (.slice ah H.2.length ch) := P0.out.cell 1; have sw6P0 : w.heap.size < w6.heap.size := P0.out.lt; replace P2 := hid (hk6 (w.heap.size + 1) #[.int .i64 0, .slice none 0 0] 32 (by decide) (by repeat (first | exact P0.out | exact P2.out | exact Blk.newG _ _ (by simp) | apply Blk.alloc | apply Blk.dr))); have yw6P20 : w6.cell? ⟨w.heap.size + 1, 0, none⟩ = some (.int .i64 0) := P2.out.cell 0; have yw6P21 : w6.cell? ⟨w.heap.size + 1, 1, none⟩ = some (.slice none 0 0) := P2.out.cell 1; have fw6P20 : w6.frozen? ⟨w.heap.size + 1, 0, none⟩ = false := P2.out.free 0; have fw6P21 : w6.frozen? ⟨w.heap.size + 1, 1, none⟩ = false := P2.out.free 1; have sw6P2 : w.heap.size + 1 < w6.heap.size := P2.out.lt; clear how6 hk6 hb6)
    | (refine step_append_slB (G := fun _ => True) (by rfl) (.tmp 109) (.tmp 110) 46 (by rfl) (w.heap.size + 2) 5 i1 (.int .u8 0) 1 1 Tryz.underlying46 I1.out.1 I1.out.2.1 I1.out.2.2.1 I1.out.2.2.2 (by rfl) (by decide) (.slice a6 oa.bytes.length c6) oa.bytes.length (oa.bytes.map (Value.int .u8)) (by rfl) (by first | exact O6.out | exact O6.out.drew) _ oc.bytes.length (oc.bytes.map (Value.int .u8)) (by rfl) (Sl.any (Sl.below HSB.out (by repeat (first | exact Bw.refl _ | exact BK2.out | exact BK.out | exact BO1.out | exact BO2.out | exact BB1.out | exact BB2.out | exact B5.out | exact B6.out | exact B7.out | exact B8.out | apply Bw.alloc | apply Bw.drewN | apply Bw.drew)))) (ints_one _ _) (by unfold maxLen; omega) (by omega) (by first | (simp; done) | (simp; omega) | omega) ?_; intro v7 w7 how7 hk7 hb7; obtain ⟨a7, c7, rfl⟩ := own_form how7; have B7 := hid (hb7 w (by repeat (first | exact Bw.refl _ | exact BK2.out | exact BK.out | exact BO1.out | exact BO2.out | exact BB1.out | exact BB2.out | exact B5.out | exact B6.out | exact B7.out | exact B8.out | apply Bw.alloc | apply Bw.drewN | apply Bw.drew)) (by omega)); have O7 := hid how7; replace P0 := hid (hk7 (w.heap.size) #[.int .i64 H.1, .slice ah H.2.length ch] 32 (by decide) (by repeat (first | exact P0.out | exact P2.out | exact Blk.newG _ _ (by simp) | apply Blk.alloc | apply Blk.dr))); have yw7P00 : w7.cell? ⟨w.heap.size, 0, none⟩ = some (.int .i64 H.1) := P0.out.cell 0; have yw7P01 : w7.cell? ⟨w.heap.size, 1, none⟩ = some (.slice ah H.2.length ch) := P0.out.cell 1; have sw7P0 : w.heap.size < w7.heap.size := P0.out.lt; replace P2 := hid (hk7 (w.heap.size + 1) #[.int .i64 0, .slice none 0 0] 32 (by decide) (by repeat (first | exact P0.out | exact P2.out | exact Blk.newG _ _ (by simp) | apply Blk.alloc | apply Blk.dr))); have yw7P20 : w7.cell? ⟨w.heap.size + 1, 0, none⟩ = some (.int .i64 0) := P2.out.cell 0; have yw7P21 : w7.cell? ⟨w.heap.size + 1, 1, none⟩ = some (.slice none 0 0) := P2.out.cell 1; have fw7P20 : w7.frozen? ⟨w.heap.size + 1, 0, none⟩ = false := P2.out.free 0; have fw7P21 : w7.frozen? ⟨w.heap.size + 1, 1, none⟩ = false := P2.out.free 1; have sw7P2 : w.heap.size + 1 < w7.heap.size := P2.out.lt; clear how7 hk7 hb7)
    | (go_simp; go_at_call 41; refine (HMK.out (.slice a7 (oa.bytes.length + oc.bytes.length) c7) _ (by repeat (first | exact Bw.refl _ | exact BK2.out | exact BK.out | exact BO1.out | exact BO2.out | exact BB1.out | exact BB2.out | exact B5.out | exact B6.out | exact B7.out | exact B8.out | apply Bw.alloc | apply Bw.drewN | apply Bw.drew)) (by first | (simp; done) | (simp; omega) | omega) (by have h7 := own_sl (G := fun _ => True) O7.out (fun _ _ => trivial); rw [List.length_append, List.map_append]; first | exact h7 | exact Sl.below h7 (Bw.drew (Bw.refl _)))).mono ?_; rintro e w8 ⟨v', rfl, hr8, hb8⟩; obtain ⟨a8, c8, rfl⟩ := hr8.form; have R1 := hid hr8; have B8 := hid (show Bw w w8 from Bw.trans (by repeat (first | exact Bw.refl _ | exact BK2.out | exact BK.out | exact BO1.out | exact BO2.out | exact BB1.out | exact BB2.out | exact B5.out | exact B6.out | exact B7.out | exact B8.out | apply Bw.alloc | apply Bw.drewN | apply Bw.drew)) hb8); replace P0 := hid (show Blk w8 (w.heap.size) #[.int .i64 H.1, .slice ah H.2.length ch] 32 by refine Blk.bw ?_ hb8; repeat (first | exact P0.out | exact P2.out | exact P3.out | exact P4.out | exact Blk.newG _ _ (by simp) | apply Blk.alloc | apply Blk.dr)); have yw8P00 : w8.cell? ⟨w.heap.size, 0, none⟩ = some (.int .i64 H.1) := P0.out.cell 0; have yw8P01 : w8.cell? ⟨w.heap.size, 1, none⟩ = some (.slice ah H.2.length ch) := P0.out.cell 1; have sw8P0 : w.heap.size < w8.heap.size := P0.out.lt; replace P2 := hid (show Blk w8 (w.heap.size + 1) #[.int .i64 0, .slice none 0 0] 32 by refine Blk.bw ?_ hb8; repeat (first | exact P0.out | exact P2.out | exact P3.out | exact P4.out | exact Blk.newG _ _ (by simp) | apply Blk.alloc | apply Blk.dr)); have yw8P20 : w8.cell? ⟨w.heap.size + 1, 0, none⟩ = some (.int .i64 0) := P2.out.cell 0; have yw8P21 : w8.cell? ⟨w.heap.size + 1, 1, none⟩ = some (.slice none 0 0) := P2.out.cell 1; have fw8P20 : w8.frozen? ⟨w.heap.size + 1, 0, none⟩ = false := P2.out.free 0; have fw8P21 : w8.frozen? ⟨w.heap.size + 1, 1, none⟩ = false := P2.out.free 1; have sw8P2 : w.heap.size + 1 < w8.heap.size := P2.out.lt; clear hb8 hr8)
    | fail)
  all_goals go_wp2
  all_goals refine bodyPost_ret (v := .tuple #[.agg #[.int .i64 H'.1, .slice a8 H'.2.length c8], .int .u64 (V), .int .i64 (F)]) (by simp [results, Tryz.results8, go_sem, *]) rfl ?_
  all_goals exact ⟨_, rfl, RdH.whole (g := w.heap.size + 1) (by repeat (first | exact R1.out | apply RdH.put | apply RdH.alloc | apply RdH.drew | apply RdH.lay)), (by repeat (first | exact Bw.refl _ | exact BK2.out | exact BK.out | exact BO1.out | exact BO2.out | exact BB1.out | exact BB2.out | exact B5.out | exact B6.out | exact B7.out | exact B8.out | apply Bw.alloc | apply Bw.drewN | apply Bw.drew | (refine Bw.setCell ?_ (show w.heap.size ≤ w.heap.size + 1 by omega) _)))⟩

end

end Go.Proofs.YtjcoifdfemejkaaGreatDoor

