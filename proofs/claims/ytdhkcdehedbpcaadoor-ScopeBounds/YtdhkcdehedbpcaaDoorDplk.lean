/- The document's parser: plain: contracts, by steps. -/
import Derived.Test.YtdhkcdehedbpcaaDoorM7
set_option linter.unusedSimpArgs false
set_option linter.unusedVariables false
namespace Go.Proofs.YtdhkcdehedbpcaaDoor
open Go Go.RowKit

section
variable {w w' : World} {r f : Nat} {T : List ATok} {o : Int} {s s' : DS} {l : List ANode} {k : Int}

set_option maxRecDepth 100000 in
set_option maxHeartbeats 8000000 in
theorem plain_step (hc : ∀ g, g ≤ f → Con T r g) (h : dR T (f + 1) .plain o s = some (l, k, s')) (hr : RdM w r T o s) : Calls Tryd.prog 51 #[.pointer (some ⟨r, 0, none⟩)] w (DG w r T o l s') := by
  unfold dR at h
  obtain ⟨⟨l1, k1, s1⟩, h1, h2⟩ := bnd h
  have HR := hid hr
  have hrl := hr.lt
  have HX := hid (fun w1 (hw : RdM w1 r T o s) => (hc f (Nat.le_refl _)).expr 0 h1 hw)
  have HI := hid (fun w1 (hw : RdM w1 r T o s1) => dis_any ⟨#[61]⟩ hw)
  have hgo := dR_goes _ _ _ _ _ _ _ h1
  rcases ite_some h2 with ⟨he, h2⟩ | ⟨he, h2⟩
  · obtain ⟨rfl, rfl, hlen⟩ := rete3 h2
    have e1 : (s'.e != 0) = true := by simpa using he
    unfold DG at HX ⊢
    clear h h1 h2 hc hr he hgo HI
    go_enter Tryd.func51, Tryd.ntmps51
    go_wp2_with (first
      | (go_at_call 49; (fail_if_success (have _g := R3)); refine (HX.out _ HR.out).mono ?_; rintro e w3 ⟨a3, c3, rfl, hn3, hr3, hk3, hl3⟩; have N3 := hid hn3; have R3 := hid hr3; have K3 := hid hk3; have L3 := hid hl3; (obtain ⟨gq, cq, qq, xq⟩ := hr3.x); have z3 : w3.cell? ⟨r, 3, none⟩ = some (.int .i64 s'.e) := xq.b.cell 3; have zl3 : r < w3.heap.size := xq.b.lt; clear hr3 hk3 hl3 xq hn3)
      | fail)
    all_goals go_ret
    all_goals exact ⟨_, _, rfl, Nd.nil _ _, R3.out, K3.out, by decide⟩
  have he0 : s1.e = 0 := by simpa using he
  have e1 : (s1.e != 0) = false := by simpa using he0
  have HNE := hid (hgo.ne rfl he0)
  rcases ite_some h2 with ⟨hi, h2⟩ | ⟨hi, h2⟩
  · rw [hi] at HI
    obtain ⟨⟨l3, k3, s3⟩, h3, h4⟩ := bnd h2
    obtain ⟨rfl, rfl, hlen⟩ := rete3 h4
    simp only at hlen ⊢
    have HLJ := hid hlen
    have LB3 := hid (show l3.length ≤ 1000000 from dR_len h3)
    obtain ⟨J, hJ⟩ : ∃ J, l1 ++ l3 = J := ⟨_, rfl⟩
    rw [hJ] at HLJ ⊢
    have LJ := hid (show J.length ≤ 2000000 by have a : l1.length ≤ 1000000 := dR_len h1; have := LB3.out; rw [← hJ, List.length_append]; omega)
    have HJ := hid hJ
    have HY := hid (fun w1 (hw : RdM w1 r T o (dWant T (if dKd0 l1 = 19 ∨ dKd0 l1 = 29 ∨ dKd0 l1 = 30 then s1 else dBad T s1 6) ⟨#[61]⟩)) => (hc f (Nat.le_refl _)).expr 0 h3 hw)
    have HZ := hid (fun w1 (hw : RdM w1 r T o s3) => dwant_any ⟨#[59]⟩ hw)
    obtain ⟨Z, hZ⟩ : ∃ Z, dWant T s3 ⟨#[59]⟩ = Z := ⟨_, rfl⟩
    rw [hZ] at HZ ⊢
    clear h h1 h2 h3 h4 hc hr he hgo hi hlen hJ he0 hZ
    unfold DG at HX HY ⊢
    generalize hd : dKd0 l1 = d at HY
    have HD := hid hd
    clear hd
    by_cases hd19 : d = 19
    · subst hd19
      rw [if_pos (by omega)] at HY
      have HK0 := hid (show True from trivial)
      have HW := hid (fun w1 (hw : RdM w1 r T o s1) => dwant_any ⟨#[61]⟩ hw)
      obtain ⟨A, hA⟩ : ∃ A, dWant T s1 ⟨#[61]⟩ = A := ⟨_, rfl⟩
      rw [hA] at HW HY
      clear hA
      have y9 : dKd0 l1 = 19 := HD.out
      go_enter Tryd.func51, Tryd.ntmps51
      go_wp2_with (first
        | (go_at_call 49; (fail_if_success (have _g := R3)); refine (HX.out _ HR.out).mono ?_; rintro e w3 ⟨a3, c3, rfl, hn3, hr3, hk3, hl3⟩; have N3 := hid hn3; have R3 := hid hr3; have K3 := hid hk3; have L3 := hid hl3; (obtain ⟨gq, cq, qq, xq⟩ := hr3.x); have z3 : w3.cell? ⟨r, 3, none⟩ = some (.int .i64 s1.e) := xq.b.cell 3; have zl3 : r < w3.heap.size := xq.b.lt; (obtain ⟨g3, e3, gb3, gl3, gp3, y0, y4, yf0, yf4⟩ := hn3.head HNE.out); subst e3; clear hr3 hk3 hl3 xq hn3)
        | (go_at_call 42; refine (HI.out _ (R3.out.bw bq)).mono ?_; rintro e w4 ⟨rfl, hb4⟩; have R4 := hid (R3.out.bw (Bw.trans bq hb4)); have K4 := hid (show Kp r w w4 from K3.out.bw (Bw.trans bq hb4)); have N4 := hid (N3.out.bw (Bw.trans bq hb4)); have P4 := hid (show Blk w4 w3.heap.size #[.int .i64 13, .int .i64 0, .string { data := #[] }, .int .i64 0, .int .i64 (dAt0 l1)] 43 from (Blk.new w3 _ _).bw hb4); have zl4 : r < w4.heap.size := R4.out.lt; have u0 := P4.out.cell; have uf := P4.out.free; have ul := P4.out.lt; (obtain ⟨g4, e4, gb4, gl4, gp4, x0, x4, xf0, xf4⟩ := N4.out.head HNE.out); (obtain rfl : g3 = g4 := by (cases e4; rfl)); clear e4;  clear hb4)
        | (go_at_call 48; (fail_if_success (have _g := R6)); refine (HW.out _ (R4.out.bw bq)).mono ?_; rintro e w6 ⟨rfl, hr6, hk6⟩; have R6 := hid hr6; have K6 := hid (show Kp r w w6 from K4.out.trans (Kp.trans (Kp.of_bw bq) hk6)); have N6 := hid (N4.out.kp (Kp.trans (Kp.of_bw bq) hk6) hrl); have P6 := hid (show Blk w6 w3.heap.size #[.int .i64 13, .int .i64 0, .string { data := #[] }, .int .i64 0, .int .i64 (dAt0 l1)] 43 from P4.out.kp (Kp.trans (Kp.of_bw bq) hk6) (by have := K3.out.size; omega)); have ul6 := P6.out.lt; have u6 := P6.out.cell; have uf6 := P6.out.free; have ur6 : r < w6.heap.size := R6.out.lt; clear hr6 hk6)
        | (go_at_call 49; have _g := R6; clear _g; refine (HY.out _ (R6.out.setO P6.out 0 _)).mono ?_; rintro e w7 ⟨a7, c7, rfl, hn7, hr7, hk7, hl7⟩; have N7 := hid (hn7.low (b' := w.heap.size) (by have := K6.out.size; simp only [World.size_setCell]; omega)); have M7 := hid ((N6.out.setO (N3.out.old (Nat.le_refl _)) 0 _).kp hk7 hrl); have R7 := hid hr7; have K7 := hid (show Kp r w w7 from Kp.trans (K6.out.setNew K3.out.size 0 _) hk7); have P7 := hid (show Blk w7 w3.heap.size #[.int .i64 4, .int .i64 0, .string { data := #[] }, .int .i64 0, .int .i64 (dAt0 l1)] 43 from (P6.out.set 0 _).kp hk7 (by have := K3.out.size; omega)); have L7 := hid hl7; clear hn7 hr7 hk7 hl7)
        | (go_at_call 48; have _g := R7; clear _g; refine (HZ.out _ (R7.out.bw bq)).mono ?_; rintro e w8 ⟨rfl, hr8, hk8⟩; have R8 := hid hr8; have K8 := hid (show Kp r w w8 from K7.out.trans (Kp.trans (Kp.of_bw bq) hk8)); have N8 := hid (N7.out.kp (Kp.trans (Kp.of_bw bq) hk8) hrl); have M8 := hid (M7.out.kp (Kp.trans (Kp.of_bw bq) hk8) hrl); have P8 := hid (show Blk w8 w3.heap.size #[.int .i64 4, .int .i64 0, .string { data := #[] }, .int .i64 0, .int .i64 (dAt0 l1)] 43 from P7.out.kp (Kp.trans (Kp.of_bw bq) hk8) (by have := K3.out.size; omega)); have ul8 := P8.out.lt; have u8 := P8.out.cell; clear hr8 hk8)
        | fail)
      go_region_held3 (fun w' => w'.cell? ⟨w3.heap.size, 0, none⟩ = some (.int .i64 4) ∧ w'.cell? ⟨w3.heap.size, 1, none⟩ = some (.int .i64 0) ∧ w'.cell? ⟨w3.heap.size, 2, none⟩ = some (.string { data := #[] }) ∧ w'.cell? ⟨w3.heap.size, 3, none⟩ = some (.int .i64 0) ∧ w'.cell? ⟨w3.heap.size, 4, none⟩ = some (.int .i64 (dAt0 l1))) (first | (simp [go_sem, *]; done)) (first
        | (go_at_call 50; refine (dboth_as J _ _ l1 l3 HJ.out (M8.out.bw bq).sl (N8.out.bw bq).sl (by have := L3.out; omega) (by have := L7.out; omega)).mono ?_; rintro e w10 ⟨a10, c10, rfl, hn10, hb10⟩; have N10 := hid hn10; have R10 := hid (R8.out.bw (Bw.trans bq hb10)); have K10 := hid (K8.out.bw (Bw.trans bq hb10)); have P10 := hid (P8.out.bw (Bw.trans bq hb10)); have v7 := P10.out.cell; have v8 := P10.out.lt; clear hn10 hb10)
        | (go_at_call 22; refine (djoin_any (4, 0, [], 0, dAt0 l1) 2 _ J (N10.out.bw bq).sl (by have := LJ.out; omega)).mono ?_; rintro e w9 ⟨a9, c9, rfl, hn9, hb9⟩; have N9 := hid hn9; have B9 := hid (show Bw w10 w9 from Bw.trans bq hb9); have P9 := hid (P10.out.bw B9.out); have v9 := P9.out.cell; have v10 := P9.out.lt; clear hn9 hb9)
        | fail)
      all_goals go_wp2
      all_goals go_ret
      all_goals exact ⟨_, _, rfl, N9.out.low K10.out.size, R10.out.bw B9.out, K10.out.bw B9.out, HLJ.out⟩
    by_cases hd29 : d = 29
    · subst hd29
      rw [if_pos (by omega)] at HY
      have HK0 := hid (show True from trivial)
      have HW := hid (fun w1 (hw : RdM w1 r T o s1) => dwant_any ⟨#[61]⟩ hw)
      obtain ⟨A, hA⟩ : ∃ A, dWant T s1 ⟨#[61]⟩ = A := ⟨_, rfl⟩
      rw [hA] at HW HY
      clear hA
      have y9 : dKd0 l1 = 29 := HD.out
      go_enter Tryd.func51, Tryd.ntmps51
      go_wp2_with (first
        | (go_at_call 49; (fail_if_success (have _g := R3)); refine (HX.out _ HR.out).mono ?_; rintro e w3 ⟨a3, c3, rfl, hn3, hr3, hk3, hl3⟩; have N3 := hid hn3; have R3 := hid hr3; have K3 := hid hk3; have L3 := hid hl3; (obtain ⟨gq, cq, qq, xq⟩ := hr3.x); have z3 : w3.cell? ⟨r, 3, none⟩ = some (.int .i64 s1.e) := xq.b.cell 3; have zl3 : r < w3.heap.size := xq.b.lt; (obtain ⟨g3, e3, gb3, gl3, gp3, y0, y4, yf0, yf4⟩ := hn3.head HNE.out); subst e3; clear hr3 hk3 hl3 xq hn3)
        | (go_at_call 42; refine (HI.out _ (R3.out.bw bq)).mono ?_; rintro e w4 ⟨rfl, hb4⟩; have R4 := hid (R3.out.bw (Bw.trans bq hb4)); have K4 := hid (show Kp r w w4 from K3.out.bw (Bw.trans bq hb4)); have N4 := hid (N3.out.bw (Bw.trans bq hb4)); have P4 := hid (show Blk w4 w3.heap.size #[.int .i64 13, .int .i64 0, .string { data := #[] }, .int .i64 0, .int .i64 (dAt0 l1)] 43 from (Blk.new w3 _ _).bw hb4); have zl4 : r < w4.heap.size := R4.out.lt; have u0 := P4.out.cell; have uf := P4.out.free; have ul := P4.out.lt; (obtain ⟨g4, e4, gb4, gl4, gp4, x0, x4, xf0, xf4⟩ := N4.out.head HNE.out); (obtain rfl : g3 = g4 := by (cases e4; rfl)); clear e4;  clear hb4)
        | (go_at_call 48; (fail_if_success (have _g := R6)); refine (HW.out _ (R4.out.bw bq)).mono ?_; rintro e w6 ⟨rfl, hr6, hk6⟩; have R6 := hid hr6; have K6 := hid (show Kp r w w6 from K4.out.trans (Kp.trans (Kp.of_bw bq) hk6)); have N6 := hid (N4.out.kp (Kp.trans (Kp.of_bw bq) hk6) hrl); have P6 := hid (show Blk w6 w3.heap.size #[.int .i64 13, .int .i64 0, .string { data := #[] }, .int .i64 0, .int .i64 (dAt0 l1)] 43 from P4.out.kp (Kp.trans (Kp.of_bw bq) hk6) (by have := K3.out.size; omega)); have ul6 := P6.out.lt; have u6 := P6.out.cell; have uf6 := P6.out.free; have ur6 : r < w6.heap.size := R6.out.lt; clear hr6 hk6)
        | (go_at_call 49; have _g := R6; clear _g; refine (HY.out _ (R6.out.setO P6.out 0 _)).mono ?_; rintro e w7 ⟨a7, c7, rfl, hn7, hr7, hk7, hl7⟩; have N7 := hid (hn7.low (b' := w.heap.size) (by have := K6.out.size; simp only [World.size_setCell]; omega)); have M7 := hid ((N6.out.setO (N3.out.old (Nat.le_refl _)) 0 _).kp hk7 hrl); have R7 := hid hr7; have K7 := hid (show Kp r w w7 from Kp.trans (K6.out.setNew K3.out.size 0 _) hk7); have P7 := hid (show Blk w7 w3.heap.size #[.int .i64 4, .int .i64 0, .string { data := #[] }, .int .i64 0, .int .i64 (dAt0 l1)] 43 from (P6.out.set 0 _).kp hk7 (by have := K3.out.size; omega)); have L7 := hid hl7; clear hn7 hr7 hk7 hl7)
        | (go_at_call 48; have _g := R7; clear _g; refine (HZ.out _ (R7.out.bw bq)).mono ?_; rintro e w8 ⟨rfl, hr8, hk8⟩; have R8 := hid hr8; have K8 := hid (show Kp r w w8 from K7.out.trans (Kp.trans (Kp.of_bw bq) hk8)); have N8 := hid (N7.out.kp (Kp.trans (Kp.of_bw bq) hk8) hrl); have M8 := hid (M7.out.kp (Kp.trans (Kp.of_bw bq) hk8) hrl); have P8 := hid (show Blk w8 w3.heap.size #[.int .i64 4, .int .i64 0, .string { data := #[] }, .int .i64 0, .int .i64 (dAt0 l1)] 43 from P7.out.kp (Kp.trans (Kp.of_bw bq) hk8) (by have := K3.out.size; omega)); have ul8 := P8.out.lt; have u8 := P8.out.cell; clear hr8 hk8)
        | fail)
      go_region_held3 (fun w' => w'.cell? ⟨w3.heap.size, 0, none⟩ = some (.int .i64 4) ∧ w'.cell? ⟨w3.heap.size, 1, none⟩ = some (.int .i64 0) ∧ w'.cell? ⟨w3.heap.size, 2, none⟩ = some (.string { data := #[] }) ∧ w'.cell? ⟨w3.heap.size, 3, none⟩ = some (.int .i64 0) ∧ w'.cell? ⟨w3.heap.size, 4, none⟩ = some (.int .i64 (dAt0 l1))) (first | (simp [go_sem, *]; done)) (first
        | (go_at_call 50; refine (dboth_as J _ _ l1 l3 HJ.out (M8.out.bw bq).sl (N8.out.bw bq).sl (by have := L3.out; omega) (by have := L7.out; omega)).mono ?_; rintro e w10 ⟨a10, c10, rfl, hn10, hb10⟩; have N10 := hid hn10; have R10 := hid (R8.out.bw (Bw.trans bq hb10)); have K10 := hid (K8.out.bw (Bw.trans bq hb10)); have P10 := hid (P8.out.bw (Bw.trans bq hb10)); have v7 := P10.out.cell; have v8 := P10.out.lt; clear hn10 hb10)
        | (go_at_call 22; refine (djoin_any (4, 0, [], 0, dAt0 l1) 2 _ J (N10.out.bw bq).sl (by have := LJ.out; omega)).mono ?_; rintro e w9 ⟨a9, c9, rfl, hn9, hb9⟩; have N9 := hid hn9; have B9 := hid (show Bw w10 w9 from Bw.trans bq hb9); have P9 := hid (P10.out.bw B9.out); have v9 := P9.out.cell; have v10 := P9.out.lt; clear hn9 hb9)
        | fail)
      all_goals go_wp2
      all_goals go_ret
      all_goals exact ⟨_, _, rfl, N9.out.low K10.out.size, R10.out.bw B9.out, K10.out.bw B9.out, HLJ.out⟩
    by_cases hd30 : d = 30
    · subst hd30
      rw [if_pos (by omega)] at HY
      have HK0 := hid (show True from trivial)
      have HW := hid (fun w1 (hw : RdM w1 r T o s1) => dwant_any ⟨#[61]⟩ hw)
      obtain ⟨A, hA⟩ : ∃ A, dWant T s1 ⟨#[61]⟩ = A := ⟨_, rfl⟩
      rw [hA] at HW HY
      clear hA
      have y9 : dKd0 l1 = 30 := HD.out
      go_enter Tryd.func51, Tryd.ntmps51
      go_wp2_with (first
        | (go_at_call 49; (fail_if_success (have _g := R3)); refine (HX.out _ HR.out).mono ?_; rintro e w3 ⟨a3, c3, rfl, hn3, hr3, hk3, hl3⟩; have N3 := hid hn3; have R3 := hid hr3; have K3 := hid hk3; have L3 := hid hl3; (obtain ⟨gq, cq, qq, xq⟩ := hr3.x); have z3 : w3.cell? ⟨r, 3, none⟩ = some (.int .i64 s1.e) := xq.b.cell 3; have zl3 : r < w3.heap.size := xq.b.lt; (obtain ⟨g3, e3, gb3, gl3, gp3, y0, y4, yf0, yf4⟩ := hn3.head HNE.out); subst e3; clear hr3 hk3 hl3 xq hn3)
        | (go_at_call 42; refine (HI.out _ (R3.out.bw bq)).mono ?_; rintro e w4 ⟨rfl, hb4⟩; have R4 := hid (R3.out.bw (Bw.trans bq hb4)); have K4 := hid (show Kp r w w4 from K3.out.bw (Bw.trans bq hb4)); have N4 := hid (N3.out.bw (Bw.trans bq hb4)); have P4 := hid (show Blk w4 w3.heap.size #[.int .i64 13, .int .i64 0, .string { data := #[] }, .int .i64 0, .int .i64 (dAt0 l1)] 43 from (Blk.new w3 _ _).bw hb4); have zl4 : r < w4.heap.size := R4.out.lt; have u0 := P4.out.cell; have uf := P4.out.free; have ul := P4.out.lt; (obtain ⟨g4, e4, gb4, gl4, gp4, x0, x4, xf0, xf4⟩ := N4.out.head HNE.out); (obtain rfl : g3 = g4 := by (cases e4; rfl)); clear e4;  clear hb4)
        | (go_at_call 48; (fail_if_success (have _g := R6)); refine (HW.out _ (R4.out.bw bq)).mono ?_; rintro e w6 ⟨rfl, hr6, hk6⟩; have R6 := hid hr6; have K6 := hid (show Kp r w w6 from K4.out.trans (Kp.trans (Kp.of_bw bq) hk6)); have N6 := hid (N4.out.kp (Kp.trans (Kp.of_bw bq) hk6) hrl); have P6 := hid (show Blk w6 w3.heap.size #[.int .i64 13, .int .i64 0, .string { data := #[] }, .int .i64 0, .int .i64 (dAt0 l1)] 43 from P4.out.kp (Kp.trans (Kp.of_bw bq) hk6) (by have := K3.out.size; omega)); have ul6 := P6.out.lt; have u6 := P6.out.cell; have uf6 := P6.out.free; have ur6 : r < w6.heap.size := R6.out.lt; clear hr6 hk6)
        | (go_at_call 49; have _g := R6; clear _g; refine (HY.out _ (R6.out.setO P6.out 0 _)).mono ?_; rintro e w7 ⟨a7, c7, rfl, hn7, hr7, hk7, hl7⟩; have N7 := hid (hn7.low (b' := w.heap.size) (by have := K6.out.size; simp only [World.size_setCell]; omega)); have M7 := hid ((N6.out.setO (N3.out.old (Nat.le_refl _)) 0 _).kp hk7 hrl); have R7 := hid hr7; have K7 := hid (show Kp r w w7 from Kp.trans (K6.out.setNew K3.out.size 0 _) hk7); have P7 := hid (show Blk w7 w3.heap.size #[.int .i64 4, .int .i64 0, .string { data := #[] }, .int .i64 0, .int .i64 (dAt0 l1)] 43 from (P6.out.set 0 _).kp hk7 (by have := K3.out.size; omega)); have L7 := hid hl7; clear hn7 hr7 hk7 hl7)
        | (go_at_call 48; have _g := R7; clear _g; refine (HZ.out _ (R7.out.bw bq)).mono ?_; rintro e w8 ⟨rfl, hr8, hk8⟩; have R8 := hid hr8; have K8 := hid (show Kp r w w8 from K7.out.trans (Kp.trans (Kp.of_bw bq) hk8)); have N8 := hid (N7.out.kp (Kp.trans (Kp.of_bw bq) hk8) hrl); have M8 := hid (M7.out.kp (Kp.trans (Kp.of_bw bq) hk8) hrl); have P8 := hid (show Blk w8 w3.heap.size #[.int .i64 4, .int .i64 0, .string { data := #[] }, .int .i64 0, .int .i64 (dAt0 l1)] 43 from P7.out.kp (Kp.trans (Kp.of_bw bq) hk8) (by have := K3.out.size; omega)); have ul8 := P8.out.lt; have u8 := P8.out.cell; clear hr8 hk8)
        | fail)
      go_region_held3 (fun w' => w'.cell? ⟨w3.heap.size, 0, none⟩ = some (.int .i64 4) ∧ w'.cell? ⟨w3.heap.size, 1, none⟩ = some (.int .i64 0) ∧ w'.cell? ⟨w3.heap.size, 2, none⟩ = some (.string { data := #[] }) ∧ w'.cell? ⟨w3.heap.size, 3, none⟩ = some (.int .i64 0) ∧ w'.cell? ⟨w3.heap.size, 4, none⟩ = some (.int .i64 (dAt0 l1))) (first | (simp [go_sem, *]; done)) (first
        | (go_at_call 50; refine (dboth_as J _ _ l1 l3 HJ.out (M8.out.bw bq).sl (N8.out.bw bq).sl (by have := L3.out; omega) (by have := L7.out; omega)).mono ?_; rintro e w10 ⟨a10, c10, rfl, hn10, hb10⟩; have N10 := hid hn10; have R10 := hid (R8.out.bw (Bw.trans bq hb10)); have K10 := hid (K8.out.bw (Bw.trans bq hb10)); have P10 := hid (P8.out.bw (Bw.trans bq hb10)); have v7 := P10.out.cell; have v8 := P10.out.lt; clear hn10 hb10)
        | (go_at_call 22; refine (djoin_any (4, 0, [], 0, dAt0 l1) 2 _ J (N10.out.bw bq).sl (by have := LJ.out; omega)).mono ?_; rintro e w9 ⟨a9, c9, rfl, hn9, hb9⟩; have N9 := hid hn9; have B9 := hid (show Bw w10 w9 from Bw.trans bq hb9); have P9 := hid (P10.out.bw B9.out); have v9 := P9.out.cell; have v10 := P9.out.lt; clear hn9 hb9)
        | fail)
      all_goals go_wp2
      all_goals go_ret
      all_goals exact ⟨_, _, rfl, N9.out.low K10.out.size, R10.out.bw B9.out, K10.out.bw B9.out, HLJ.out⟩
    rw [if_neg (by omega)] at HY
    have HBD := hid (fun w1 (hw : RdM w1 r T o s1) => dbad_any 6 (by decide) hw)
    have HW := hid (fun w1 (hw : RdM w1 r T o (dBad T s1 6)) => dwant_any ⟨#[61]⟩ hw)
    obtain ⟨A, hA⟩ : ∃ A, dWant T (dBad T s1 6) ⟨#[61]⟩ = A := ⟨_, rfl⟩
    rw [hA] at HW HY
    clear hA
    generalize dBad T s1 6 = Bd at HBD HW
    have y19 : (dKd0 l1 != 19) = true := by rw [HD.out]; simpa using hd19
    have y29 : (dKd0 l1 != 29) = true := by rw [HD.out]; simpa using hd29
    have y30 : (dKd0 l1 != 30) = true := by rw [HD.out]; simpa using hd30
    clear hd19 hd29 hd30
    go_enter Tryd.func51, Tryd.ntmps51
    go_wp2_with (first
      | (go_at_call 49; (fail_if_success (have _g := R3)); refine (HX.out _ HR.out).mono ?_; rintro e w3 ⟨a3, c3, rfl, hn3, hr3, hk3, hl3⟩; have N3 := hid hn3; have R3 := hid hr3; have K3 := hid hk3; have L3 := hid hl3; (obtain ⟨gq, cq, qq, xq⟩ := hr3.x); have z3 : w3.cell? ⟨r, 3, none⟩ = some (.int .i64 s1.e) := xq.b.cell 3; have zl3 : r < w3.heap.size := xq.b.lt; (obtain ⟨g3, e3, gb3, gl3, gp3, y0, y4, yf0, yf4⟩ := hn3.head HNE.out); subst e3; clear hr3 hk3 hl3 xq hn3)
      | (go_at_call 42; refine (HI.out _ (R3.out.bw bq)).mono ?_; rintro e w4 ⟨rfl, hb4⟩; have R4 := hid (R3.out.bw (Bw.trans bq hb4)); have K4 := hid (show Kp r w w4 from K3.out.bw (Bw.trans bq hb4)); have N4 := hid (N3.out.bw (Bw.trans bq hb4)); have P4 := hid (show Blk w4 w3.heap.size #[.int .i64 13, .int .i64 0, .string { data := #[] }, .int .i64 0, .int .i64 (dAt0 l1)] 43 from (Blk.new w3 _ _).bw hb4); have zl4 : r < w4.heap.size := R4.out.lt; have u0 := P4.out.cell; have uf := P4.out.free; have ul := P4.out.lt; (obtain ⟨g4, e4, gb4, gl4, gp4, x0, x4, xf0, xf4⟩ := N4.out.head HNE.out); (obtain rfl : g3 = g4 := by (cases e4; rfl)); clear e4;  clear hb4)
      | (go_at_call 69; refine (HBD.out _ (R4.out.bw bq)).mono ?_; rintro e w5 ⟨rfl, hr5, hk5⟩; have R5 := hid hr5; have K5 := hid (show Kp r w w5 from K4.out.trans (Kp.trans (Kp.of_bw bq) hk5)); have N5 := hid (N4.out.kp (Kp.trans (Kp.of_bw bq) hk5) hrl); have P5 := hid (show Blk w5 w3.heap.size #[.int .i64 13, .int .i64 0, .string { data := #[] }, .int .i64 0, .int .i64 (dAt0 l1)] 43 from P4.out.kp (Kp.trans (Kp.of_bw bq) hk5) (by have := K3.out.size; omega)); clear hr5 hk5)
      | (go_at_call 48; (fail_if_success (have _g := R6)); refine (HW.out _ (R5.out.bw bq)).mono ?_; rintro e w6 ⟨rfl, hr6, hk6⟩; have R6 := hid hr6; have K6 := hid (show Kp r w w6 from K5.out.trans (Kp.trans (Kp.of_bw bq) hk6)); have N6 := hid (N5.out.kp (Kp.trans (Kp.of_bw bq) hk6) hrl); have P6 := hid (show Blk w6 w3.heap.size #[.int .i64 13, .int .i64 0, .string { data := #[] }, .int .i64 0, .int .i64 (dAt0 l1)] 43 from P5.out.kp (Kp.trans (Kp.of_bw bq) hk6) (by have := K3.out.size; omega)); have ul6 := P6.out.lt; have u6 := P6.out.cell; have uf6 := P6.out.free; have ur6 : r < w6.heap.size := R6.out.lt; clear hr6 hk6)
      | (go_at_call 49; have _g := R6; clear _g; refine (HY.out _ (R6.out.setO P6.out 0 _)).mono ?_; rintro e w7 ⟨a7, c7, rfl, hn7, hr7, hk7, hl7⟩; have N7 := hid (hn7.low (b' := w.heap.size) (by have := K6.out.size; simp only [World.size_setCell]; omega)); have M7 := hid ((N6.out.setO (N3.out.old (Nat.le_refl _)) 0 _).kp hk7 hrl); have R7 := hid hr7; have K7 := hid (show Kp r w w7 from Kp.trans (K6.out.setNew K3.out.size 0 _) hk7); have P7 := hid (show Blk w7 w3.heap.size #[.int .i64 4, .int .i64 0, .string { data := #[] }, .int .i64 0, .int .i64 (dAt0 l1)] 43 from (P6.out.set 0 _).kp hk7 (by have := K3.out.size; omega)); have L7 := hid hl7; clear hn7 hr7 hk7 hl7)
      | (go_at_call 48; have _g := R7; clear _g; refine (HZ.out _ (R7.out.bw bq)).mono ?_; rintro e w8 ⟨rfl, hr8, hk8⟩; have R8 := hid hr8; have K8 := hid (show Kp r w w8 from K7.out.trans (Kp.trans (Kp.of_bw bq) hk8)); have N8 := hid (N7.out.kp (Kp.trans (Kp.of_bw bq) hk8) hrl); have M8 := hid (M7.out.kp (Kp.trans (Kp.of_bw bq) hk8) hrl); have P8 := hid (show Blk w8 w3.heap.size #[.int .i64 4, .int .i64 0, .string { data := #[] }, .int .i64 0, .int .i64 (dAt0 l1)] 43 from P7.out.kp (Kp.trans (Kp.of_bw bq) hk8) (by have := K3.out.size; omega)); have ul8 := P8.out.lt; have u8 := P8.out.cell; clear hr8 hk8)
      | fail)
    go_region_held3 (fun w' => w'.cell? ⟨w3.heap.size, 0, none⟩ = some (.int .i64 4) ∧ w'.cell? ⟨w3.heap.size, 1, none⟩ = some (.int .i64 0) ∧ w'.cell? ⟨w3.heap.size, 2, none⟩ = some (.string { data := #[] }) ∧ w'.cell? ⟨w3.heap.size, 3, none⟩ = some (.int .i64 0) ∧ w'.cell? ⟨w3.heap.size, 4, none⟩ = some (.int .i64 (dAt0 l1))) (first | (simp [go_sem, *]; done)) (first
      | (go_at_call 50; refine (dboth_as J _ _ l1 l3 HJ.out (M8.out.bw bq).sl (N8.out.bw bq).sl (by have := L3.out; omega) (by have := L7.out; omega)).mono ?_; rintro e w10 ⟨a10, c10, rfl, hn10, hb10⟩; have N10 := hid hn10; have R10 := hid (R8.out.bw (Bw.trans bq hb10)); have K10 := hid (K8.out.bw (Bw.trans bq hb10)); have P10 := hid (P8.out.bw (Bw.trans bq hb10)); have v7 := P10.out.cell; have v8 := P10.out.lt; clear hn10 hb10)
      | (go_at_call 22; refine (djoin_any (4, 0, [], 0, dAt0 l1) 2 _ J (N10.out.bw bq).sl (by have := LJ.out; omega)).mono ?_; rintro e w9 ⟨a9, c9, rfl, hn9, hb9⟩; have N9 := hid hn9; have B9 := hid (show Bw w10 w9 from Bw.trans bq hb9); have P9 := hid (P10.out.bw B9.out); have v9 := P9.out.cell; have v10 := P9.out.lt; clear hn9 hb9)
      | fail)
    all_goals go_wp2
    all_goals go_ret
    all_goals exact ⟨_, _, rfl, N9.out.low K10.out.size, R10.out.bw B9.out, K10.out.bw B9.out, HLJ.out⟩
  · have hi2 : dIs T s1 ⟨#[61]⟩ = false := by simpa using hi
    rw [hi2] at HI
    obtain ⟨rfl, rfl, hlen⟩ := rete3 h2
    simp only at hlen ⊢
    have HLJ := hid hlen
    have HW := hid (fun w1 (hw : RdM w1 r T o s1) => dwant_any ⟨#[59]⟩ hw)
    obtain ⟨Z, hZ⟩ : ∃ Z, dWant T s1 ⟨#[59]⟩ = Z := ⟨_, rfl⟩
    rw [hZ] at HW ⊢
    unfold DG at HX ⊢
    clear h h1 h2 hc hr he hgo hi hi2 hlen he0 hZ
    go_enter Tryd.func51, Tryd.ntmps51
    go_wp2_with (first
      | (go_at_call 49; (fail_if_success (have _g := R3)); refine (HX.out _ HR.out).mono ?_; rintro e w3 ⟨a3, c3, rfl, hn3, hr3, hk3, hl3⟩; have N3 := hid hn3; have R3 := hid hr3; have K3 := hid hk3; have L3 := hid hl3; (obtain ⟨gq, cq, qq, xq⟩ := hr3.x); have z3 : w3.cell? ⟨r, 3, none⟩ = some (.int .i64 s1.e) := xq.b.cell 3; have zl3 : r < w3.heap.size := xq.b.lt; (obtain ⟨g3, e3, gb3, gl3, gp3, y0, y4, yf0, yf4⟩ := hn3.head HNE.out); subst e3; clear hr3 hk3 hl3 xq hn3)
      | (go_at_call 42; refine (HI.out _ (R3.out.bw bq)).mono ?_; rintro e w4 ⟨rfl, hb4⟩; have R4 := hid (R3.out.bw (Bw.trans bq hb4)); have K4 := hid (show Kp r w w4 from K3.out.bw (Bw.trans bq hb4)); have N4 := hid (N3.out.bw (Bw.trans bq hb4)); have P4 := hid (show Blk w4 w3.heap.size #[.int .i64 13, .int .i64 0, .string { data := #[] }, .int .i64 0, .int .i64 (dAt0 l1)] 43 from (Blk.new w3 _ _).bw hb4); have zl4 : r < w4.heap.size := R4.out.lt; have u0 := P4.out.cell; have uf := P4.out.free; have ul := P4.out.lt;  clear hb4)
      | (go_at_call 48; refine (HW.out _ (R4.out.bw bq)).mono ?_; rintro e w5 ⟨rfl, hr5, hk5⟩; have R5 := hid hr5; have K5 := hid (show Kp r w w5 from K4.out.trans (Kp.trans (Kp.of_bw bq) hk5)); have N5 := hid (N4.out.kp (Kp.trans (Kp.of_bw bq) hk5) hrl); have P5 := hid (show Blk w5 w3.heap.size #[.int .i64 13, .int .i64 0, .string { data := #[] }, .int .i64 0, .int .i64 (dAt0 l1)] 43 from P4.out.kp (Kp.trans (Kp.of_bw bq) hk5) (by have := K3.out.size; omega)); have ul5 := P5.out.lt; have u5 := P5.out.cell; have uf5 := P5.out.free; have ur5 : r < w5.heap.size := R5.out.lt; clear hr5 hk5)
      | (go_at_call 22; refine (djoin_any (13, 0, [], 0, dAt0 l1) 1 _ l1 N5.out.sl (by have := L3.out; omega)).mono ?_; rintro e w9 ⟨a9, c9, rfl, hn9, hb9⟩; have N9 := hid hn9; have B9 := hid hb9; clear hn9 hb9)
      | fail)
    all_goals go_ret
    all_goals exact ⟨_, _, rfl, N9.out.low K5.out.size, R5.out.bw B9.out, K5.out.bw B9.out, HLJ.out⟩

end

end Go.Proofs.YtdhkcdehedbpcaaDoor

