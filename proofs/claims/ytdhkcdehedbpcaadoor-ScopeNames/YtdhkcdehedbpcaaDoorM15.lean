/- What a list's first node is, in memory; stores beside the reader. · The document's parser: plain: contracts, by steps. · The document's parser: thing: contracts, by steps. -/
import Derived.Test.YtdhkcdehedbpcaaDoorM13
import Derived.Test.YtdhkcdehedbpcaaDoorM14
import Derived.OneCell
set_option linter.unusedSimpArgs false
set_option linter.unusedVariables false
namespace Go.Proofs.YtdhkcdehedbpcaaDoor
open Go Go.RowKit

theorem Nd.head {w : World} {b c : Nat} {a : Option Addr} {l : List ANode} (h : Nd w b (.slice a l.length c) l) (hne : l ≠ []) : ∃ g, a = some ⟨g, 0, none⟩ ∧ b ≤ g ∧ g < w.heap.size ∧ (0 : Int) < (l.length : Int) ∧ w.cell? ⟨g, 0, none⟩ = some (.int .i64 (dKd0 l)) ∧ w.cell? ⟨g, 4, none⟩ = some (.int .i64 (dAt0 l)) ∧ w.frozen? ⟨g, 0, none⟩ = false ∧ w.frozen? ⟨g, 4, none⟩ = false := by
 cases l with
 | nil => exact absurd rfl hne
 | cons n t =>
  rcases h.2 with ⟨h1, _⟩ | ⟨g, cap, cur, e, hb, hg, hn, hm, hs, ht⟩
  ·cases h1
  ·cases e
   have hB : Blk w g cur 43 := hg
   have key : ∀ j, j < 5 → cur[j]? = (ndV n)[j]? := by
    intro j hj
    have e1 : (cur.toList.take ((n :: t).length * 5))[j]? = ((n :: t).flatMap ndV)[j]? := by rw [ht]
    rw [List.getElem?_take, if_pos (by simp only [List.length_cons]; omega), List.flatMap_cons, List.getElem?_append_left (by show j < 5; omega)] at e1
    simpa using e1
   refine ⟨g, rfl, hb, hB.lt, by simp only [List.length_cons]; omega, ?_, ?_, hB.free 0, hB.free 4⟩
   ·rw [hB.cell 0, key 0 (by decide)]; rfl
   ·rw [hB.cell 4, key 4 (by decide)]; rfl

theorem RdM.setO {w : World} {r g : Nat} {T : List ATok} {o : Int} {s : DS} {cur : Array Value} (h : RdM w r T o s) (hb : Blk w g cur 43) (j : Nat) (v : Value) : RdM (w.setCell ⟨g, j, none⟩ v) r T o s := by
 obtain ⟨vt, q, h1, ⟨g', c, cur', e, h4, h5, h6, h7⟩, h3⟩ := h.b
 have n1 : g ≠ r := fun k => by subst k; have := hb.symm.trans h1; injection this with this; injection this with _ this; revert this; decide
 have n2 : g ≠ g' := fun k => by subst k; have := hb.symm.trans h5; injection this with this; injection this with _ this; revert this; decide
 exact ⟨⟨vt, q, h1.other n1 v, ⟨g', c, cur', e, h4, h5.other n2 v, h6, h7⟩, h3⟩, h.i, h.o, h.n⟩
theorem Nd.setO {w : World} {b g : Nat} {v : Value} {l : List ANode} (h : Nd w b v l) (hne : v.ownBlock ≠ some g) (j : Nat) (u : Value) : Nd (w.setCell ⟨g, j, none⟩ u) b v l := ownsRow_setCell_other h (a := ⟨g, j, none⟩) hne u
theorem Nd.old {w : World} {b g : Nat} {v : Value} {l : List ANode} (h : Nd w b v l) (hg : w.heap.size ≤ g) : v.ownBlock ≠ some g := fun e => by have := (h.lt g e).2; omega

end Go.Proofs.YtdhkcdehedbpcaaDoor

namespace Go.Proofs.YtdhkcdehedbpcaaDoor
open Go Go.RowKit

section
variable {w w' : World} {r f : Nat} {T : List ATok} {o : Int} {s s' : DS} {l : List ANode} {k : Int}

set_option maxRecDepth 100000 in
set_option maxHeartbeats 8000000 in
theorem plain_step (hc : ∀ g, g ≤ f → Con T r g) (h : dR T (f + 1) .plain o s = some (l, k, s')) (hr : RdM w r T o s) : Calls Tryd.prog 51 #[.pointer (some ⟨r, 0, none⟩)] w (DG w r T o l s') := by
 unfold dR at h
 obtain ⟨⟨l1, k1, s1⟩, h1, h2⟩ := bnd h
 have HR := hid hr
 have hrl := hr.lt
 have HX := hid (fun w1 (hw : RdM w1 r T o s) => (hc f (Nat.le_refl _)).expr 0 h1 hw)
 have HI := hid (fun w1 (hw : RdM w1 r T o s1) => dis_any ⟨#[61]⟩ hw)
 have hgo := dR_goes _ _ _ _ _ _ _ h1
 rcases ite_some h2 with ⟨he, h2⟩ | ⟨he, h2⟩
 ·obtain ⟨rfl, rfl, hlen⟩ := rete3 h2
  have e1 : (s'.e != 0) = true := by simpa using he
  unfold DG at HX ⊢
  clear h h1 h2 hc hr he hgo HI
  go_enter Tryd.func51, Tryd.ntmps51
  go_wp2_with (first
   | (go_at_call 49; (fail_if_success (have _g := R3)); refine (HX.out _ HR.out).mono ?_; rintro e w3 ⟨a3, c3, rfl, hn3, hr3, hk3, hl3⟩; have N3 := hid hn3; have R3 := hid hr3; have K3 := hid hk3; have L3 := hid hl3; (obtain ⟨gq, cq, qq, xq⟩ := hr3.x); have z3 : w3.cell? ⟨r, 3, none⟩ = some (.int .i64 s'.e) := xq.b.cell 3; have zl3 : r < w3.heap.size := xq.b.lt; clear hr3 hk3 hl3 xq hn3)
   | fail)
  all_goals go_ret
  all_goals exact ⟨_, _, rfl, Nd.nil _ _, R3.out, K3.out, by decide⟩
 have he0 : s1.e = 0 := by simpa using he
 have e1 : (s1.e != 0) = false := by simpa using he0
 have HNE := hid (hgo.ne rfl he0)
 rcases ite_some h2 with ⟨hi, h2⟩ | ⟨hi, h2⟩
 ·rw [hi] at HI
  obtain ⟨⟨l3, k3, s3⟩, h3, h4⟩ := bnd h2
  obtain ⟨rfl, rfl, hlen⟩ := rete3 h4
  simp only at hlen ⊢
  have HLJ := hid hlen
  have LB3 := hid (show l3.length ≤ 1000000 from dR_len h3)
  obtain ⟨J, hJ⟩ : ∃ J, l1 ++ l3 = J := ⟨_, rfl⟩
  rw [hJ] at HLJ ⊢
  have LJ := hid (show J.length ≤ 2000000 by have a : l1.length ≤ 1000000 := dR_len h1; have := LB3.out; rw [← hJ, List.length_append]; omega)
  have HJ := hid hJ
  have HY := hid (fun w1 (hw : RdM w1 r T o (dWant T (if dKd0 l1 = 19 ∨ dKd0 l1 = 29 ∨ dKd0 l1 = 30 then s1 else dBad T s1 6) ⟨#[61]⟩)) => (hc f (Nat.le_refl _)).expr 0 h3 hw)
  have HZ := hid (fun w1 (hw : RdM w1 r T o s3) => dwant_any ⟨#[59]⟩ hw)
  obtain ⟨Z, hZ⟩ : ∃ Z, dWant T s3 ⟨#[59]⟩ = Z := ⟨_, rfl⟩
  rw [hZ] at HZ ⊢
  clear h h1 h2 h3 h4 hc hr he hgo hi hlen hJ he0 hZ
  unfold DG at HX HY ⊢
  generalize hd : dKd0 l1 = d at HY
  have HD := hid hd
  clear hd
  by_cases hd19 : d = 19
  ·subst hd19
   rw [if_pos (by omega)] at HY
   have HK0 := hid (show True from trivial)
   have HW := hid (fun w1 (hw : RdM w1 r T o s1) => dwant_any ⟨#[61]⟩ hw)
   obtain ⟨A, hA⟩ : ∃ A, dWant T s1 ⟨#[61]⟩ = A := ⟨_, rfl⟩
   rw [hA] at HW HY
   clear hA
   have y9 : dKd0 l1 = 19 := HD.out
   go_enter Tryd.func51, Tryd.ntmps51
   go_wp2_with (first
    | (go_at_call 49; (fail_if_success (have _g := R3)); refine (HX.out _ HR.out).mono ?_; rintro e w3 ⟨a3, c3, rfl, hn3, hr3, hk3, hl3⟩; have N3 := hid hn3; have R3 := hid hr3; have K3 := hid hk3; have L3 := hid hl3; (obtain ⟨gq, cq, qq, xq⟩ := hr3.x); have z3 : w3.cell? ⟨r, 3, none⟩ = some (.int .i64 s1.e) := xq.b.cell 3; have zl3 : r < w3.heap.size := xq.b.lt; (obtain ⟨g3, e3, gb3, gl3, gp3, y0, y4, yf0, yf4⟩ := hn3.head HNE.out); subst e3; clear hr3 hk3 hl3 xq hn3)
    | (go_at_call 42; refine (HI.out _ (R3.out.bw bq)).mono ?_; rintro e w4 ⟨rfl, hb4⟩; have R4 := hid (R3.out.bw (Bw.trans bq hb4)); have K4 := hid (show Kp r w w4 from K3.out.bw (Bw.trans bq hb4)); have N4 := hid (N3.out.bw (Bw.trans bq hb4)); have P4 := hid (show Blk w4 w3.heap.size #[.int .i64 13, .int .i64 0, .string ⟨#[]⟩, .int .i64 0, .int .i64 (dAt0 l1)] 43 from (Blk.new w3 _ _).bw hb4); have zl4 : r < w4.heap.size := R4.out.lt; have u0 := P4.out.cell; have uf := P4.out.free; have ul := P4.out.lt; (obtain ⟨g4, e4, gb4, gl4, gp4, x0, x4, xf0, xf4⟩ := N4.out.head HNE.out); (obtain rfl : g3 = g4 := by (cases e4; rfl)); clear e4;  clear hb4)
    | (go_at_call 48; (fail_if_success (have _g := R6)); refine (HW.out _ (R4.out.bw bq)).mono ?_; rintro e w6 ⟨rfl, hr6, hk6⟩; have R6 := hid hr6; have K6 := hid (show Kp r w w6 from K4.out.trans (Kp.trans (Kp.of_bw bq) hk6)); have N6 := hid (N4.out.kp (Kp.trans (Kp.of_bw bq) hk6) hrl); have P6 := hid (show Blk w6 w3.heap.size #[.int .i64 13, .int .i64 0, .string ⟨#[]⟩, .int .i64 0, .int .i64 (dAt0 l1)] 43 from P4.out.kp (Kp.trans (Kp.of_bw bq) hk6) (by have := K3.out.size; omega)); have ul6 := P6.out.lt; have u6 := P6.out.cell; have uf6 := P6.out.free; have ur6 : r < w6.heap.size := R6.out.lt; clear hr6 hk6)
    | (go_at_call 49; have _g := R6; clear _g; refine (HY.out _ (R6.out.setO P6.out 0 _)).mono ?_; rintro e w7 ⟨a7, c7, rfl, hn7, hr7, hk7, hl7⟩; have N7 := hid (hn7.low (b' := w.heap.size) (by have := K6.out.size; simp only [World.size_setCell]; omega)); have M7 := hid ((N6.out.setO (N3.out.old (Nat.le_refl _)) 0 _).kp hk7 hrl); have R7 := hid hr7; have K7 := hid (show Kp r w w7 from Kp.trans (K6.out.setNew K3.out.size 0 _) hk7); have P7 := hid (show Blk w7 w3.heap.size #[.int .i64 4, .int .i64 0, .string ⟨#[]⟩, .int .i64 0, .int .i64 (dAt0 l1)] 43 from (P6.out.set 0 _).kp hk7 (by have := K3.out.size; omega)); have L7 := hid hl7; clear hn7 hr7 hk7 hl7)
    | (go_at_call 48; have _g := R7; clear _g; refine (HZ.out _ (R7.out.bw bq)).mono ?_; rintro e w8 ⟨rfl, hr8, hk8⟩; have R8 := hid hr8; have K8 := hid (show Kp r w w8 from K7.out.trans (Kp.trans (Kp.of_bw bq) hk8)); have N8 := hid (N7.out.kp (Kp.trans (Kp.of_bw bq) hk8) hrl); have M8 := hid (M7.out.kp (Kp.trans (Kp.of_bw bq) hk8) hrl); have P8 := hid (show Blk w8 w3.heap.size #[.int .i64 4, .int .i64 0, .string ⟨#[]⟩, .int .i64 0, .int .i64 (dAt0 l1)] 43 from P7.out.kp (Kp.trans (Kp.of_bw bq) hk8) (by have := K3.out.size; omega)); have ul8 := P8.out.lt; have u8 := P8.out.cell; clear hr8 hk8)
    | fail)
   go_region_held3 (fun w' => w'.cell? ⟨w3.heap.size, 0, none⟩ = some (.int .i64 4) ∧ w'.cell? ⟨w3.heap.size, 1, none⟩ = some (.int .i64 0) ∧ w'.cell? ⟨w3.heap.size, 2, none⟩ = some (.string ⟨#[]⟩) ∧ w'.cell? ⟨w3.heap.size, 3, none⟩ = some (.int .i64 0) ∧ w'.cell? ⟨w3.heap.size, 4, none⟩ = some (.int .i64 (dAt0 l1))) (first | (simp [go_sem, *]; done)) (first
    | (go_at_call 50; refine (dboth_as J _ _ l1 l3 HJ.out (M8.out.bw bq).sl (N8.out.bw bq).sl (by have := L3.out; omega) (by have := L7.out; omega)).mono ?_; rintro e w10 ⟨a10, c10, rfl, hn10, hb10⟩; have N10 := hid hn10; have R10 := hid (R8.out.bw (Bw.trans bq hb10)); have K10 := hid (K8.out.bw (Bw.trans bq hb10)); have P10 := hid (P8.out.bw (Bw.trans bq hb10)); have v7 := P10.out.cell; have v8 := P10.out.lt; clear hn10 hb10)
    | (go_at_call 22; refine (djoin_any (4, 0, [], 0, dAt0 l1) 2 _ J (N10.out.bw bq).sl (by have := LJ.out; omega)).mono ?_; rintro e w9 ⟨a9, c9, rfl, hn9, hb9⟩; have N9 := hid hn9; have B9 := hid (show Bw w10 w9 from Bw.trans bq hb9); have P9 := hid (P10.out.bw B9.out); have v9 := P9.out.cell; have v10 := P9.out.lt; clear hn9 hb9)
    | fail)
   all_goals go_wp2
   all_goals go_ret
   all_goals exact ⟨_, _, rfl, N9.out.low K10.out.size, R10.out.bw B9.out, K10.out.bw B9.out, HLJ.out⟩
  by_cases hd29 : d = 29
  ·subst hd29
   rw [if_pos (by omega)] at HY
   have HK0 := hid (show True from trivial)
   have HW := hid (fun w1 (hw : RdM w1 r T o s1) => dwant_any ⟨#[61]⟩ hw)
   obtain ⟨A, hA⟩ : ∃ A, dWant T s1 ⟨#[61]⟩ = A := ⟨_, rfl⟩
   rw [hA] at HW HY
   clear hA
   have y9 : dKd0 l1 = 29 := HD.out
   go_enter Tryd.func51, Tryd.ntmps51
   go_wp2_with (first
    | (go_at_call 49; (fail_if_success (have _g := R3)); refine (HX.out _ HR.out).mono ?_; rintro e w3 ⟨a3, c3, rfl, hn3, hr3, hk3, hl3⟩; have N3 := hid hn3; have R3 := hid hr3; have K3 := hid hk3; have L3 := hid hl3; (obtain ⟨gq, cq, qq, xq⟩ := hr3.x); have z3 : w3.cell? ⟨r, 3, none⟩ = some (.int .i64 s1.e) := xq.b.cell 3; have zl3 : r < w3.heap.size := xq.b.lt; (obtain ⟨g3, e3, gb3, gl3, gp3, y0, y4, yf0, yf4⟩ := hn3.head HNE.out); subst e3; clear hr3 hk3 hl3 xq hn3)
    | (go_at_call 42; refine (HI.out _ (R3.out.bw bq)).mono ?_; rintro e w4 ⟨rfl, hb4⟩; have R4 := hid (R3.out.bw (Bw.trans bq hb4)); have K4 := hid (show Kp r w w4 from K3.out.bw (Bw.trans bq hb4)); have N4 := hid (N3.out.bw (Bw.trans bq hb4)); have P4 := hid (show Blk w4 w3.heap.size #[.int .i64 13, .int .i64 0, .string ⟨#[]⟩, .int .i64 0, .int .i64 (dAt0 l1)] 43 from (Blk.new w3 _ _).bw hb4); have zl4 : r < w4.heap.size := R4.out.lt; have u0 := P4.out.cell; have uf := P4.out.free; have ul := P4.out.lt; (obtain ⟨g4, e4, gb4, gl4, gp4, x0, x4, xf0, xf4⟩ := N4.out.head HNE.out); (obtain rfl : g3 = g4 := by (cases e4; rfl)); clear e4;  clear hb4)
    | (go_at_call 48; (fail_if_success (have _g := R6)); refine (HW.out _ (R4.out.bw bq)).mono ?_; rintro e w6 ⟨rfl, hr6, hk6⟩; have R6 := hid hr6; have K6 := hid (show Kp r w w6 from K4.out.trans (Kp.trans (Kp.of_bw bq) hk6)); have N6 := hid (N4.out.kp (Kp.trans (Kp.of_bw bq) hk6) hrl); have P6 := hid (show Blk w6 w3.heap.size #[.int .i64 13, .int .i64 0, .string ⟨#[]⟩, .int .i64 0, .int .i64 (dAt0 l1)] 43 from P4.out.kp (Kp.trans (Kp.of_bw bq) hk6) (by have := K3.out.size; omega)); have ul6 := P6.out.lt; have u6 := P6.out.cell; have uf6 := P6.out.free; have ur6 : r < w6.heap.size := R6.out.lt; clear hr6 hk6)
    | (go_at_call 49; have _g := R6; clear _g; refine (HY.out _ (R6.out.setO P6.out 0 _)).mono ?_; rintro e w7 ⟨a7, c7, rfl, hn7, hr7, hk7, hl7⟩; have N7 := hid (hn7.low (b' := w.heap.size) (by have := K6.out.size; simp only [World.size_setCell]; omega)); have M7 := hid ((N6.out.setO (N3.out.old (Nat.le_refl _)) 0 _).kp hk7 hrl); have R7 := hid hr7; have K7 := hid (show Kp r w w7 from Kp.trans (K6.out.setNew K3.out.size 0 _) hk7); have P7 := hid (show Blk w7 w3.heap.size #[.int .i64 4, .int .i64 0, .string ⟨#[]⟩, .int .i64 0, .int .i64 (dAt0 l1)] 43 from (P6.out.set 0 _).kp hk7 (by have := K3.out.size; omega)); have L7 := hid hl7; clear hn7 hr7 hk7 hl7)
    | (go_at_call 48; have _g := R7; clear _g; refine (HZ.out _ (R7.out.bw bq)).mono ?_; rintro e w8 ⟨rfl, hr8, hk8⟩; have R8 := hid hr8; have K8 := hid (show Kp r w w8 from K7.out.trans (Kp.trans (Kp.of_bw bq) hk8)); have N8 := hid (N7.out.kp (Kp.trans (Kp.of_bw bq) hk8) hrl); have M8 := hid (M7.out.kp (Kp.trans (Kp.of_bw bq) hk8) hrl); have P8 := hid (show Blk w8 w3.heap.size #[.int .i64 4, .int .i64 0, .string ⟨#[]⟩, .int .i64 0, .int .i64 (dAt0 l1)] 43 from P7.out.kp (Kp.trans (Kp.of_bw bq) hk8) (by have := K3.out.size; omega)); have ul8 := P8.out.lt; have u8 := P8.out.cell; clear hr8 hk8)
    | fail)
   go_region_held3 (fun w' => w'.cell? ⟨w3.heap.size, 0, none⟩ = some (.int .i64 4) ∧ w'.cell? ⟨w3.heap.size, 1, none⟩ = some (.int .i64 0) ∧ w'.cell? ⟨w3.heap.size, 2, none⟩ = some (.string ⟨#[]⟩) ∧ w'.cell? ⟨w3.heap.size, 3, none⟩ = some (.int .i64 0) ∧ w'.cell? ⟨w3.heap.size, 4, none⟩ = some (.int .i64 (dAt0 l1))) (first | (simp [go_sem, *]; done)) (first
    | (go_at_call 50; refine (dboth_as J _ _ l1 l3 HJ.out (M8.out.bw bq).sl (N8.out.bw bq).sl (by have := L3.out; omega) (by have := L7.out; omega)).mono ?_; rintro e w10 ⟨a10, c10, rfl, hn10, hb10⟩; have N10 := hid hn10; have R10 := hid (R8.out.bw (Bw.trans bq hb10)); have K10 := hid (K8.out.bw (Bw.trans bq hb10)); have P10 := hid (P8.out.bw (Bw.trans bq hb10)); have v7 := P10.out.cell; have v8 := P10.out.lt; clear hn10 hb10)
    | (go_at_call 22; refine (djoin_any (4, 0, [], 0, dAt0 l1) 2 _ J (N10.out.bw bq).sl (by have := LJ.out; omega)).mono ?_; rintro e w9 ⟨a9, c9, rfl, hn9, hb9⟩; have N9 := hid hn9; have B9 := hid (show Bw w10 w9 from Bw.trans bq hb9); have P9 := hid (P10.out.bw B9.out); have v9 := P9.out.cell; have v10 := P9.out.lt; clear hn9 hb9)
    | fail)
   all_goals go_wp2
   all_goals go_ret
   all_goals exact ⟨_, _, rfl, N9.out.low K10.out.size, R10.out.bw B9.out, K10.out.bw B9.out, HLJ.out⟩
  by_cases hd30 : d = 30
  ·subst hd30
   rw [if_pos (by omega)] at HY
   have HK0 := hid (show True from trivial)
   have HW := hid (fun w1 (hw : RdM w1 r T o s1) => dwant_any ⟨#[61]⟩ hw)
   obtain ⟨A, hA⟩ : ∃ A, dWant T s1 ⟨#[61]⟩ = A := ⟨_, rfl⟩
   rw [hA] at HW HY
   clear hA
   have y9 : dKd0 l1 = 30 := HD.out
   go_enter Tryd.func51, Tryd.ntmps51
   go_wp2_with (first
    | (go_at_call 49; (fail_if_success (have _g := R3)); refine (HX.out _ HR.out).mono ?_; rintro e w3 ⟨a3, c3, rfl, hn3, hr3, hk3, hl3⟩; have N3 := hid hn3; have R3 := hid hr3; have K3 := hid hk3; have L3 := hid hl3; (obtain ⟨gq, cq, qq, xq⟩ := hr3.x); have z3 : w3.cell? ⟨r, 3, none⟩ = some (.int .i64 s1.e) := xq.b.cell 3; have zl3 : r < w3.heap.size := xq.b.lt; (obtain ⟨g3, e3, gb3, gl3, gp3, y0, y4, yf0, yf4⟩ := hn3.head HNE.out); subst e3; clear hr3 hk3 hl3 xq hn3)
    | (go_at_call 42; refine (HI.out _ (R3.out.bw bq)).mono ?_; rintro e w4 ⟨rfl, hb4⟩; have R4 := hid (R3.out.bw (Bw.trans bq hb4)); have K4 := hid (show Kp r w w4 from K3.out.bw (Bw.trans bq hb4)); have N4 := hid (N3.out.bw (Bw.trans bq hb4)); have P4 := hid (show Blk w4 w3.heap.size #[.int .i64 13, .int .i64 0, .string ⟨#[]⟩, .int .i64 0, .int .i64 (dAt0 l1)] 43 from (Blk.new w3 _ _).bw hb4); have zl4 : r < w4.heap.size := R4.out.lt; have u0 := P4.out.cell; have uf := P4.out.free; have ul := P4.out.lt; (obtain ⟨g4, e4, gb4, gl4, gp4, x0, x4, xf0, xf4⟩ := N4.out.head HNE.out); (obtain rfl : g3 = g4 := by (cases e4; rfl)); clear e4;  clear hb4)
    | (go_at_call 48; (fail_if_success (have _g := R6)); refine (HW.out _ (R4.out.bw bq)).mono ?_; rintro e w6 ⟨rfl, hr6, hk6⟩; have R6 := hid hr6; have K6 := hid (show Kp r w w6 from K4.out.trans (Kp.trans (Kp.of_bw bq) hk6)); have N6 := hid (N4.out.kp (Kp.trans (Kp.of_bw bq) hk6) hrl); have P6 := hid (show Blk w6 w3.heap.size #[.int .i64 13, .int .i64 0, .string ⟨#[]⟩, .int .i64 0, .int .i64 (dAt0 l1)] 43 from P4.out.kp (Kp.trans (Kp.of_bw bq) hk6) (by have := K3.out.size; omega)); have ul6 := P6.out.lt; have u6 := P6.out.cell; have uf6 := P6.out.free; have ur6 : r < w6.heap.size := R6.out.lt; clear hr6 hk6)
    | (go_at_call 49; have _g := R6; clear _g; refine (HY.out _ (R6.out.setO P6.out 0 _)).mono ?_; rintro e w7 ⟨a7, c7, rfl, hn7, hr7, hk7, hl7⟩; have N7 := hid (hn7.low (b' := w.heap.size) (by have := K6.out.size; simp only [World.size_setCell]; omega)); have M7 := hid ((N6.out.setO (N3.out.old (Nat.le_refl _)) 0 _).kp hk7 hrl); have R7 := hid hr7; have K7 := hid (show Kp r w w7 from Kp.trans (K6.out.setNew K3.out.size 0 _) hk7); have P7 := hid (show Blk w7 w3.heap.size #[.int .i64 4, .int .i64 0, .string ⟨#[]⟩, .int .i64 0, .int .i64 (dAt0 l1)] 43 from (P6.out.set 0 _).kp hk7 (by have := K3.out.size; omega)); have L7 := hid hl7; clear hn7 hr7 hk7 hl7)
    | (go_at_call 48; have _g := R7; clear _g; refine (HZ.out _ (R7.out.bw bq)).mono ?_; rintro e w8 ⟨rfl, hr8, hk8⟩; have R8 := hid hr8; have K8 := hid (show Kp r w w8 from K7.out.trans (Kp.trans (Kp.of_bw bq) hk8)); have N8 := hid (N7.out.kp (Kp.trans (Kp.of_bw bq) hk8) hrl); have M8 := hid (M7.out.kp (Kp.trans (Kp.of_bw bq) hk8) hrl); have P8 := hid (show Blk w8 w3.heap.size #[.int .i64 4, .int .i64 0, .string ⟨#[]⟩, .int .i64 0, .int .i64 (dAt0 l1)] 43 from P7.out.kp (Kp.trans (Kp.of_bw bq) hk8) (by have := K3.out.size; omega)); have ul8 := P8.out.lt; have u8 := P8.out.cell; clear hr8 hk8)
    | fail)
   go_region_held3 (fun w' => w'.cell? ⟨w3.heap.size, 0, none⟩ = some (.int .i64 4) ∧ w'.cell? ⟨w3.heap.size, 1, none⟩ = some (.int .i64 0) ∧ w'.cell? ⟨w3.heap.size, 2, none⟩ = some (.string ⟨#[]⟩) ∧ w'.cell? ⟨w3.heap.size, 3, none⟩ = some (.int .i64 0) ∧ w'.cell? ⟨w3.heap.size, 4, none⟩ = some (.int .i64 (dAt0 l1))) (first | (simp [go_sem, *]; done)) (first
    | (go_at_call 50; refine (dboth_as J _ _ l1 l3 HJ.out (M8.out.bw bq).sl (N8.out.bw bq).sl (by have := L3.out; omega) (by have := L7.out; omega)).mono ?_; rintro e w10 ⟨a10, c10, rfl, hn10, hb10⟩; have N10 := hid hn10; have R10 := hid (R8.out.bw (Bw.trans bq hb10)); have K10 := hid (K8.out.bw (Bw.trans bq hb10)); have P10 := hid (P8.out.bw (Bw.trans bq hb10)); have v7 := P10.out.cell; have v8 := P10.out.lt; clear hn10 hb10)
    | (go_at_call 22; refine (djoin_any (4, 0, [], 0, dAt0 l1) 2 _ J (N10.out.bw bq).sl (by have := LJ.out; omega)).mono ?_; rintro e w9 ⟨a9, c9, rfl, hn9, hb9⟩; have N9 := hid hn9; have B9 := hid (show Bw w10 w9 from Bw.trans bq hb9); have P9 := hid (P10.out.bw B9.out); have v9 := P9.out.cell; have v10 := P9.out.lt; clear hn9 hb9)
    | fail)
   all_goals go_wp2
   all_goals go_ret
   all_goals exact ⟨_, _, rfl, N9.out.low K10.out.size, R10.out.bw B9.out, K10.out.bw B9.out, HLJ.out⟩
  rw [if_neg (by omega)] at HY
  have HBD := hid (fun w1 (hw : RdM w1 r T o s1) => dbad_any 6 (by decide) hw)
  have HW := hid (fun w1 (hw : RdM w1 r T o (dBad T s1 6)) => dwant_any ⟨#[61]⟩ hw)
  obtain ⟨A, hA⟩ : ∃ A, dWant T (dBad T s1 6) ⟨#[61]⟩ = A := ⟨_, rfl⟩
  rw [hA] at HW HY
  clear hA
  generalize dBad T s1 6 = Bd at HBD HW
  have y19 : (dKd0 l1 != 19) = true := by rw [HD.out]; simpa using hd19
  have y29 : (dKd0 l1 != 29) = true := by rw [HD.out]; simpa using hd29
  have y30 : (dKd0 l1 != 30) = true := by rw [HD.out]; simpa using hd30
  clear hd19 hd29 hd30
  go_enter Tryd.func51, Tryd.ntmps51
  go_wp2_with (first
   | (go_at_call 49; (fail_if_success (have _g := R3)); refine (HX.out _ HR.out).mono ?_; rintro e w3 ⟨a3, c3, rfl, hn3, hr3, hk3, hl3⟩; have N3 := hid hn3; have R3 := hid hr3; have K3 := hid hk3; have L3 := hid hl3; (obtain ⟨gq, cq, qq, xq⟩ := hr3.x); have z3 : w3.cell? ⟨r, 3, none⟩ = some (.int .i64 s1.e) := xq.b.cell 3; have zl3 : r < w3.heap.size := xq.b.lt; (obtain ⟨g3, e3, gb3, gl3, gp3, y0, y4, yf0, yf4⟩ := hn3.head HNE.out); subst e3; clear hr3 hk3 hl3 xq hn3)
   | (go_at_call 42; refine (HI.out _ (R3.out.bw bq)).mono ?_; rintro e w4 ⟨rfl, hb4⟩; have R4 := hid (R3.out.bw (Bw.trans bq hb4)); have K4 := hid (show Kp r w w4 from K3.out.bw (Bw.trans bq hb4)); have N4 := hid (N3.out.bw (Bw.trans bq hb4)); have P4 := hid (show Blk w4 w3.heap.size #[.int .i64 13, .int .i64 0, .string ⟨#[]⟩, .int .i64 0, .int .i64 (dAt0 l1)] 43 from (Blk.new w3 _ _).bw hb4); have zl4 : r < w4.heap.size := R4.out.lt; have u0 := P4.out.cell; have uf := P4.out.free; have ul := P4.out.lt; (obtain ⟨g4, e4, gb4, gl4, gp4, x0, x4, xf0, xf4⟩ := N4.out.head HNE.out); (obtain rfl : g3 = g4 := by (cases e4; rfl)); clear e4;  clear hb4)
   | (go_at_call 69; refine (HBD.out _ (R4.out.bw bq)).mono ?_; rintro e w5 ⟨rfl, hr5, hk5⟩; have R5 := hid hr5; have K5 := hid (show Kp r w w5 from K4.out.trans (Kp.trans (Kp.of_bw bq) hk5)); have N5 := hid (N4.out.kp (Kp.trans (Kp.of_bw bq) hk5) hrl); have P5 := hid (show Blk w5 w3.heap.size #[.int .i64 13, .int .i64 0, .string ⟨#[]⟩, .int .i64 0, .int .i64 (dAt0 l1)] 43 from P4.out.kp (Kp.trans (Kp.of_bw bq) hk5) (by have := K3.out.size; omega)); clear hr5 hk5)
   | (go_at_call 48; (fail_if_success (have _g := R6)); refine (HW.out _ (R5.out.bw bq)).mono ?_; rintro e w6 ⟨rfl, hr6, hk6⟩; have R6 := hid hr6; have K6 := hid (show Kp r w w6 from K5.out.trans (Kp.trans (Kp.of_bw bq) hk6)); have N6 := hid (N5.out.kp (Kp.trans (Kp.of_bw bq) hk6) hrl); have P6 := hid (show Blk w6 w3.heap.size #[.int .i64 13, .int .i64 0, .string ⟨#[]⟩, .int .i64 0, .int .i64 (dAt0 l1)] 43 from P5.out.kp (Kp.trans (Kp.of_bw bq) hk6) (by have := K3.out.size; omega)); have ul6 := P6.out.lt; have u6 := P6.out.cell; have uf6 := P6.out.free; have ur6 : r < w6.heap.size := R6.out.lt; clear hr6 hk6)
   | (go_at_call 49; have _g := R6; clear _g; refine (HY.out _ (R6.out.setO P6.out 0 _)).mono ?_; rintro e w7 ⟨a7, c7, rfl, hn7, hr7, hk7, hl7⟩; have N7 := hid (hn7.low (b' := w.heap.size) (by have := K6.out.size; simp only [World.size_setCell]; omega)); have M7 := hid ((N6.out.setO (N3.out.old (Nat.le_refl _)) 0 _).kp hk7 hrl); have R7 := hid hr7; have K7 := hid (show Kp r w w7 from Kp.trans (K6.out.setNew K3.out.size 0 _) hk7); have P7 := hid (show Blk w7 w3.heap.size #[.int .i64 4, .int .i64 0, .string ⟨#[]⟩, .int .i64 0, .int .i64 (dAt0 l1)] 43 from (P6.out.set 0 _).kp hk7 (by have := K3.out.size; omega)); have L7 := hid hl7; clear hn7 hr7 hk7 hl7)
   | (go_at_call 48; have _g := R7; clear _g; refine (HZ.out _ (R7.out.bw bq)).mono ?_; rintro e w8 ⟨rfl, hr8, hk8⟩; have R8 := hid hr8; have K8 := hid (show Kp r w w8 from K7.out.trans (Kp.trans (Kp.of_bw bq) hk8)); have N8 := hid (N7.out.kp (Kp.trans (Kp.of_bw bq) hk8) hrl); have M8 := hid (M7.out.kp (Kp.trans (Kp.of_bw bq) hk8) hrl); have P8 := hid (show Blk w8 w3.heap.size #[.int .i64 4, .int .i64 0, .string ⟨#[]⟩, .int .i64 0, .int .i64 (dAt0 l1)] 43 from P7.out.kp (Kp.trans (Kp.of_bw bq) hk8) (by have := K3.out.size; omega)); have ul8 := P8.out.lt; have u8 := P8.out.cell; clear hr8 hk8)
   | fail)
  go_region_held3 (fun w' => w'.cell? ⟨w3.heap.size, 0, none⟩ = some (.int .i64 4) ∧ w'.cell? ⟨w3.heap.size, 1, none⟩ = some (.int .i64 0) ∧ w'.cell? ⟨w3.heap.size, 2, none⟩ = some (.string ⟨#[]⟩) ∧ w'.cell? ⟨w3.heap.size, 3, none⟩ = some (.int .i64 0) ∧ w'.cell? ⟨w3.heap.size, 4, none⟩ = some (.int .i64 (dAt0 l1))) (first | (simp [go_sem, *]; done)) (first
   | (go_at_call 50; refine (dboth_as J _ _ l1 l3 HJ.out (M8.out.bw bq).sl (N8.out.bw bq).sl (by have := L3.out; omega) (by have := L7.out; omega)).mono ?_; rintro e w10 ⟨a10, c10, rfl, hn10, hb10⟩; have N10 := hid hn10; have R10 := hid (R8.out.bw (Bw.trans bq hb10)); have K10 := hid (K8.out.bw (Bw.trans bq hb10)); have P10 := hid (P8.out.bw (Bw.trans bq hb10)); have v7 := P10.out.cell; have v8 := P10.out.lt; clear hn10 hb10)
   | (go_at_call 22; refine (djoin_any (4, 0, [], 0, dAt0 l1) 2 _ J (N10.out.bw bq).sl (by have := LJ.out; omega)).mono ?_; rintro e w9 ⟨a9, c9, rfl, hn9, hb9⟩; have N9 := hid hn9; have B9 := hid (show Bw w10 w9 from Bw.trans bq hb9); have P9 := hid (P10.out.bw B9.out); have v9 := P9.out.cell; have v10 := P9.out.lt; clear hn9 hb9)
   | fail)
  all_goals go_wp2
  all_goals go_ret
  all_goals exact ⟨_, _, rfl, N9.out.low K10.out.size, R10.out.bw B9.out, K10.out.bw B9.out, HLJ.out⟩
 ·have hi2 : dIs T s1 ⟨#[61]⟩ = false := by simpa using hi
  rw [hi2] at HI
  obtain ⟨rfl, rfl, hlen⟩ := rete3 h2
  simp only at hlen ⊢
  have HLJ := hid hlen
  have HW := hid (fun w1 (hw : RdM w1 r T o s1) => dwant_any ⟨#[59]⟩ hw)
  obtain ⟨Z, hZ⟩ : ∃ Z, dWant T s1 ⟨#[59]⟩ = Z := ⟨_, rfl⟩
  rw [hZ] at HW ⊢
  unfold DG at HX ⊢
  clear h h1 h2 hc hr he hgo hi hi2 hlen he0 hZ
  go_enter Tryd.func51, Tryd.ntmps51
  go_wp2_with (first
   | (go_at_call 49; (fail_if_success (have _g := R3)); refine (HX.out _ HR.out).mono ?_; rintro e w3 ⟨a3, c3, rfl, hn3, hr3, hk3, hl3⟩; have N3 := hid hn3; have R3 := hid hr3; have K3 := hid hk3; have L3 := hid hl3; (obtain ⟨gq, cq, qq, xq⟩ := hr3.x); have z3 : w3.cell? ⟨r, 3, none⟩ = some (.int .i64 s1.e) := xq.b.cell 3; have zl3 : r < w3.heap.size := xq.b.lt; (obtain ⟨g3, e3, gb3, gl3, gp3, y0, y4, yf0, yf4⟩ := hn3.head HNE.out); subst e3; clear hr3 hk3 hl3 xq hn3)
   | (go_at_call 42; refine (HI.out _ (R3.out.bw bq)).mono ?_; rintro e w4 ⟨rfl, hb4⟩; have R4 := hid (R3.out.bw (Bw.trans bq hb4)); have K4 := hid (show Kp r w w4 from K3.out.bw (Bw.trans bq hb4)); have N4 := hid (N3.out.bw (Bw.trans bq hb4)); have P4 := hid (show Blk w4 w3.heap.size #[.int .i64 13, .int .i64 0, .string ⟨#[]⟩, .int .i64 0, .int .i64 (dAt0 l1)] 43 from (Blk.new w3 _ _).bw hb4); have zl4 : r < w4.heap.size := R4.out.lt; have u0 := P4.out.cell; have uf := P4.out.free; have ul := P4.out.lt;  clear hb4)
   | (go_at_call 48; refine (HW.out _ (R4.out.bw bq)).mono ?_; rintro e w5 ⟨rfl, hr5, hk5⟩; have R5 := hid hr5; have K5 := hid (show Kp r w w5 from K4.out.trans (Kp.trans (Kp.of_bw bq) hk5)); have N5 := hid (N4.out.kp (Kp.trans (Kp.of_bw bq) hk5) hrl); have P5 := hid (show Blk w5 w3.heap.size #[.int .i64 13, .int .i64 0, .string ⟨#[]⟩, .int .i64 0, .int .i64 (dAt0 l1)] 43 from P4.out.kp (Kp.trans (Kp.of_bw bq) hk5) (by have := K3.out.size; omega)); have ul5 := P5.out.lt; have u5 := P5.out.cell; have uf5 := P5.out.free; have ur5 : r < w5.heap.size := R5.out.lt; clear hr5 hk5)
   | (go_at_call 22; refine (djoin_any (13, 0, [], 0, dAt0 l1) 1 _ l1 N5.out.sl (by have := L3.out; omega)).mono ?_; rintro e w9 ⟨a9, c9, rfl, hn9, hb9⟩; have N9 := hid hn9; have B9 := hid hb9; clear hn9 hb9)
   | fail)
  all_goals go_ret
  all_goals exact ⟨_, _, rfl, N9.out.low K5.out.size, R5.out.bw B9.out, K5.out.bw B9.out, HLJ.out⟩

end

end Go.Proofs.YtdhkcdehedbpcaaDoor

namespace Go.Proofs.YtdhkcdehedbpcaaDoor
open Go Go.RowKit

section
variable {w w' : World} {r f : Nat} {T : List ATok} {o : Int} {s s' : DS} {l : List ANode} {k : Int}

theorem thingL_inv {x : List ANode} {X : List ANode × Int × DS} (h : dR T f (.thingL x) o s = some X) : ∃ g, f = g + 1 ∧ x.length ≤ 1000000 ∧
    ((s.e ≠ 0 ∧ X = (x, 0, s)) ∨
     (s.e = 0 ∧ dIs T s ⟨#[40]⟩ = true ∧ ∃ l1 k1 s1, dR T g .args o s = some (l1, k1, s1) ∧ dR T g (.thingL (dJoin (28, 0, [], 0, dAt0 x) (k1 + 1) (x ++ l1))) o s1 = some X) ∨
     (s.e = 0 ∧ dIs T s ⟨#[40]⟩ = false ∧ dIs T s ⟨#[91]⟩ = true ∧ ∃ l1 k1 s1, dR T g (.expr 0) (o + 1) (dEnter T o s ⟨#[91]⟩) = some (l1, k1, s1) ∧ dR T g (.thingL (dJoin (29, 0, [], 0, dAt0 x) 2 (x ++ l1))) o (dWant T s1 ⟨#[93]⟩) = some X) ∨
     (s.e = 0 ∧ dIs T s ⟨#[40]⟩ = false ∧ dIs T s ⟨#[91]⟩ = false ∧ dIs T s ⟨#[46]⟩ = true ∧ dR T g (.thingL (dJoin (30, 0, dNameT T (dNx s), 0, dAt0 x) 1 x)) o (dNameS T (dNx s)) = some X) ∨
     (s.e = 0 ∧ dIs T s ⟨#[40]⟩ = false ∧ dIs T s ⟨#[91]⟩ = false ∧ dIs T s ⟨#[46]⟩ = false ∧ X = (x, 0, s))) := by
  cases f with
  | zero => cases h
  | succ g =>
    unfold dR at h
    obtain ⟨h, h1, _⟩ := gde h
    refine ⟨g, rfl, h1, ?_⟩
    rcases ite_some h with ⟨hi, h⟩ | ⟨hn, h⟩
    · obtain ⟨l', k', s'⟩ := X
      have e := rete3 h
      refine .inl ⟨hi, ?_⟩
      unfold dret at h; rw [if_pos e.2.2] at h; exact (Option.some.inj h).symm
    have he : s.e = 0 := by simpa using hn
    refine .inr ?_
    rcases ite_some h with ⟨hi, h⟩ | ⟨hn1, h⟩
    · obtain ⟨⟨l1, k1, s1⟩, h4, h5⟩ := bnd h
      exact .inl ⟨he, hi, l1, k1, s1, h4, h5⟩
    have e1 : dIs T s ⟨#[40]⟩ = false := by simpa using hn1
    refine .inr ?_
    rcases ite_some h with ⟨hi, h⟩ | ⟨hn2, h⟩
    · obtain ⟨⟨l1, k1, s1⟩, h4, h5⟩ := bnd h
      exact .inl ⟨he, e1, hi, l1, k1, s1, h4, h5⟩
    have e2 : dIs T s ⟨#[91]⟩ = false := by simpa using hn2
    refine .inr ?_
    rcases ite_some h with ⟨hi, h⟩ | ⟨hn3, h⟩
    · exact .inl ⟨he, e1, e2, hi, h⟩
    have e3 : dIs T s ⟨#[46]⟩ = false := by simpa using hn3
    obtain ⟨l', k', s'⟩ := X
    have e := rete3 h
    refine .inr ⟨he, e1, e2, e3, ?_⟩
    unfold dret at h; rw [if_pos e.2.2] at h; exact (Option.some.inj h).symm

set_option maxRecDepth 100000 in
set_option maxHeartbeats 8000000 in
theorem thing_step (hc : ∀ g, g ≤ f → Con T r g) (h : dR T (f + 1) .thing o s = some (l, k, s')) (hr : RdM w r T o s) : Calls Tryd.prog 71 #[.pointer (some ⟨r, 0, none⟩)] w (DG w r T o l s') := by
  unfold dR at h
  obtain ⟨⟨l1, k1, s1⟩, h1, h2⟩ := bnd h
  simp only at h2
  have HC := hid hc
  have HR := hid hr
  have hrl := hr.lt
  have HP := hid (fun w1 (hw : RdM w1 r T o s) => (hc f (Nat.le_refl _)).prim h1 hw)
  have HL := hid h2
  have HNE := hid (fun e => (dR_goes _ _ _ _ _ _ _ h1).ne rfl e)
  have HLL := hid (dR_len h2)
  unfold DG at HP ⊢
  clear h1 h2 h hc hr
  go_enter Tryd.func71, Tryd.ntmps71
  go_wp2_with (first
    | (go_at_call 85; refine (HP.out _ HR.out).mono ?_; rintro e w1 ⟨a1, c1, rfl, hn1, hr1, hk1, hl1⟩; have N1 := hid hn1; have R1 := hid hr1; have K1 := hid hk1; clear hn1 hr1 hk1 hl1)
    | fail)
  go_loopw [3] (fun v3 wr => ∃ (f' : Nat) (x0 : List ANode) (s0 : DS), f' ≤ f ∧ dR T f' (.thingL x0) o s0 = some (l, k, s') ∧ (∃ a c, v3 = .slice a x0.length c) ∧ Nd wr w.heap.size v3 x0 ∧ (s0.e = 0 → x0 ≠ []) ∧ RdM wr r T o s0 ∧ Kp r w wr) (fun _ wr => rdL T.length wr r)
  case atStart => exact ⟨f, l1, s1, Nat.le_refl _, HL.out, ⟨_, _, rfl⟩, N1.out, HNE.out, R1.out, K1.out⟩
  case round =>
    obtain ⟨f', x0, s0, hf, hd, ⟨a3, c3, rfl⟩, hn, hne, hrd, hkp⟩ := hrel
    have R3 := hid hrd
    have N3 := hid hn
    have K3 := hid hkp
    have HOO := hid hrd.o
    obtain ⟨g, c, q, x⟩ := hrd.x
    have z3 : wr.cell? ⟨r, 3, none⟩ = some (.int .i64 s0.e) := x.b.cell 3
    have zl : r < wr.heap.size := x.b.lt
    obtain ⟨f2, rfl, hx0, hcase⟩ := thingL_inv hd
    have HX0 := hid hx0
    have HF := hid hf
    have HI1 := hid (fun w1 (hw : RdM w1 r T o s0) => dis_any ⟨#[40]⟩ hw)
    have HI2 := hid (fun w1 (hw : RdM w1 r T o s0) => dis_any ⟨#[91]⟩ hw)
    have HE := hid (fun w1 (hw : RdM w1 r T o s0) => deat_any ⟨#[46]⟩ hw)
    unfold dEat at HE
    clear x hkp hrd hd hx0 hf HL
    rcases hcase with ⟨he, hx⟩ | hcase
    · simp only [Prod.mk.injEq] at hx
      obtain ⟨rfl, rfl, rfl⟩ := hx
      have e1 : (s'.e == 0) = false := by simpa using he
      clear he hn hne HI1 HI2 HE
      go_wp2
      all_goals go_ret
      all_goals exact ⟨_, _, rfl, N3.out, R3.out, K3.out, HLL.out⟩
    have he0 : s0.e = 0 := by rcases hcase with h | h | h | h <;> exact h.1
    have e1 : (s0.e == 0) = true := by simpa using he0
    obtain ⟨g3, e3, gb3, gl3, gp3, y0, y4, yf0, yf4⟩ := hn.head (hne he0)
    subst e3
    have HE0 := hid he0
    rcases hcase with ⟨_, i1, l1, k1, s1, h4, h5⟩ | ⟨_, i1, i2, l1, k1, s1, h4, h5⟩ | ⟨_, i1, i2, i3, h5⟩ | ⟨_, i1, i2, i3, hx⟩
    · rw [i1] at HI1
      have HV := hid (fun w1 (hw : RdM w1 r T o s0) => (HC.out f2 (by have := HF.out; omega)).args h4 hw)
      have HFL := hid (fun (e : s1.e = 0) => (((dR_goes _ _ _ _ _ _ _ h4).fs rfl).2 e).2)
      obtain ⟨J, hJ⟩ : ∃ J, x0 ++ l1 = J := ⟨_, rfl⟩
      rw [hJ] at h5
      have HNX := hid h5
      have LJ := hid (show J.length ≤ 2000000 by have a : l1.length ≤ 1000000 := dR_len h4; have := HX0.out; rw [← hJ, List.length_append]; omega)
      have HJ := hid hJ
      clear h4 h5 hJ i1 he0 hn hne HI2 HE
      go_wp2_with (first
        | (go_at_call 42; (fail_if_success (have _g := R4)); refine (HI1.out _ (R3.out.bw bq)).mono ?_; rintro e w4 ⟨rfl, hb4⟩; have R4 := hid (R3.out.bw (Bw.trans bq hb4)); have K4 := hid (show Kp r w w4 from K3.out.bw (Bw.trans bq hb4)); have N4 := hid (N3.out.bw (Bw.trans bq hb4)); have P4 := hid (show Blk w4 wr.heap.size #[.int .i64 0, .int .i64 0, .string ⟨#[]⟩, .int .i64 0, .int .i64 (dAt0 x0)] 43 from (Blk.new wr _ _).bw hb4); have ur4 : r < w4.heap.size := R4.out.lt; have ul4 := P4.out.lt; have u4 := P4.out.cell; have uf4 := P4.out.free; clear hb4)
        | (go_at_call 86; refine (HV.out _ (R4.out.setO P4.out 0 _)).mono ?_; rintro e w7 ⟨a7, c7, rfl, hn7, hr7, hk7, hl7, hka, hkb⟩; have N7 := hid (hn7.low (b' := w.heap.size) (by have := K4.out.size; simp only [World.size_setCell]; omega)); have M7 := hid ((N4.out.setO (N3.out.old (Nat.le_refl _)) 0 _).kp hk7 hrl); have R7 := hid hr7; have K7 := hid (show Kp r w w7 from Kp.trans (K4.out.setNew K3.out.size 0 _) hk7); have P7 := hid (show Blk w7 wr.heap.size #[.int .i64 28, .int .i64 0, .string ⟨#[]⟩, .int .i64 0, .int .i64 (dAt0 x0)] 43 from (P4.out.set 0 _).kp hk7 (by have := K3.out.size; omega)); have L7 := hid hl7; have ul7 := P7.out.lt; have u7 := P7.out.cell; have HKW := hid (show IntKind.i64.wrap (k1 + 1) = k1 + 1 by rw [IntKind.wrap_i64]; omega); clear hn7 hr7 hk7 hl7 hka hkb)
        | fail)
      go_region_held3 (fun w' => w'.cell? ⟨wr.heap.size, 0, none⟩ = some (.int .i64 28) ∧ w'.cell? ⟨wr.heap.size, 1, none⟩ = some (.int .i64 0) ∧ w'.cell? ⟨wr.heap.size, 2, none⟩ = some (.string ⟨#[]⟩) ∧ w'.cell? ⟨wr.heap.size, 3, none⟩ = some (.int .i64 0) ∧ w'.cell? ⟨wr.heap.size, 4, none⟩ = some (.int .i64 (dAt0 x0))) (first | (simp [go_sem, *]; done)) (first
        | (go_at_call 50; refine (dboth_as J _ _ x0 l1 HJ.out (M7.out.bw bq).sl (N7.out.bw bq).sl (by have := HX0.out; omega) (by have := L7.out; omega)).mono ?_; rintro e w10 ⟨a10, c10, rfl, hn10, hb10⟩; have N10 := hid hn10; have R10 := hid (R7.out.bw (Bw.trans bq hb10)); have K10 := hid (K7.out.bw (Bw.trans bq hb10)); have P10 := hid (P7.out.bw (Bw.trans bq hb10)); have v7 := P10.out.cell; have v8 := P10.out.lt; clear hn10 hb10)
        | (go_at_call 22; refine (djoin_any (28, 0, [], 0, dAt0 x0) _ _ J (N10.out.bw bq).sl (by have := LJ.out; omega)).mono ?_; rintro e w9 ⟨a9, c9, rfl, hn9, hb9⟩; (try rw [HKW.out] at hn9); have N9 := hid hn9; have B9 := hid (show Bw w10 w9 from Bw.trans bq hb9); have P9 := hid (P10.out.bw B9.out); have v9 := P9.out.cell; have v10 := P9.out.lt; clear hn9 hb9)
        | fail)
      all_goals go_wp2
      case roundEnd =>
        exact ⟨⟨f2, dJoin (28, 0, [], 0, dAt0 x0) (k1 + 1) J, s1, by have := HF.out; omega, HNX.out, ⟨_, _, rfl⟩, N9.out.low K10.out.size, fun _ => dJoin_ne _ _ _, R10.out.bw B9.out, K10.out.bw B9.out⟩, left_lt R3.out (R10.out.bw B9.out) HE0.out HFL.out⟩
    · rw [i1] at HI1
      rw [i2] at HI2
      have HV := hid (fun w1 (hw : RdM w1 r T (o + 1) (dEnter T o s0 ⟨#[91]⟩)) => (HC.out f2 (by have := HF.out; omega)).expr 0 h4 hw)
      unfold DG at HV
      have HEN := hid (fun w1 (hw : RdM w1 r T o s0) => denter_any ⟨#[91]⟩ hw)
      have HW := hid (fun w1 (hw : RdM w1 r T (o + 1) s1) => dwant_any ⟨#[93]⟩ hw)
      have HFL := hid (fun (e : (dWant T s1 ⟨#[93]⟩).e = 0) => (((fs_enter (T := T) o s0 ⟨#[91]⟩).then ((dR_goes _ _ _ _ _ _ _ h4).fw.trans (fs_want (T := T) s1 ⟨#[93]⟩).fw)).2 e).2)
      have HOW := hid (fun (e : (dWant T s1 ⟨#[93]⟩).e = 0) => (HOO.out he0).1)
      obtain ⟨J, hJ⟩ : ∃ J, x0 ++ l1 = J := ⟨_, rfl⟩
      rw [hJ] at h5
      have LJ := hid (show J.length ≤ 2000000 by have a : l1.length ≤ 1000000 := dR_len h4; have := HX0.out; rw [← hJ, List.length_append]; omega)
      have HJ := hid hJ
      generalize dEnter T o s0 ⟨#[91]⟩ = A at HEN HV
      generalize dWant T s1 ⟨#[93]⟩ = W at HW HFL HOW h5
      have HNX := hid h5
      clear h4 h5 hJ i1 i2 he0 hn hne HE
      go_wp2_with (first
        | (go_at_call 42; (fail_if_success (have _g := R4)); refine (HI1.out _ (R3.out.bw bq)).mono ?_; rintro e w4 ⟨rfl, hb4⟩; have R4 := hid (R3.out.bw (Bw.trans bq hb4)); have K4 := hid (show Kp r w w4 from K3.out.bw (Bw.trans bq hb4)); have N4 := hid (N3.out.bw (Bw.trans bq hb4)); have P4 := hid (show Blk w4 wr.heap.size #[.int .i64 0, .int .i64 0, .string ⟨#[]⟩, .int .i64 0, .int .i64 (dAt0 x0)] 43 from (Blk.new wr _ _).bw hb4); have ur4 : r < w4.heap.size := R4.out.lt; have ul4 := P4.out.lt; have u4 := P4.out.cell; have uf4 := P4.out.free; clear hb4)
        | (go_at_call 42; have _g := R4; clear _g; (fail_if_success (have _g := R5)); refine (HI2.out _ (R4.out.bw bq)).mono ?_; rintro e w5 ⟨rfl, hb5⟩; have R5 := hid (R4.out.bw (Bw.trans bq hb5)); have K5 := hid (show Kp r w w5 from K4.out.bw (Bw.trans bq hb5)); have N5 := hid (N4.out.bw (Bw.trans bq hb5)); have P5 := hid (show Blk w5 wr.heap.size #[.int .i64 0, .int .i64 0, .string ⟨#[]⟩, .int .i64 0, .int .i64 (dAt0 x0)] 43 from P4.out.bw hb5); have ur5 : r < w5.heap.size := R5.out.lt; have ul5 := P5.out.lt; have u5 := P5.out.cell; have uf5 := P5.out.free; clear hb5)
        | (go_at_call 68; refine (HEN.out _ (R5.out.setO P5.out 0 _)).mono ?_; rintro e w6 ⟨rfl, hr6, hk6⟩; have R6 := hid hr6; have K6 := hid (show Kp r w w6 from Kp.trans (K5.out.setNew K3.out.size 0 _) hk6); have M6 := hid ((N5.out.setO (N3.out.old (Nat.le_refl _)) 0 _).kp hk6 hrl); have P6 := hid (show Blk w6 wr.heap.size #[.int .i64 29, .int .i64 0, .string ⟨#[]⟩, .int .i64 0, .int .i64 (dAt0 x0)] 43 from (P5.out.set 0 _).kp hk6 (by have := K3.out.size; omega)); clear hr6 hk6)
        | (go_at_call 49; refine (HV.out _ (R6.out.bw bq)).mono ?_; rintro e w7 ⟨a7, c7, rfl, hn7, hr7, hk7, hl7⟩; have N7 := hid (hn7.low (b' := w.heap.size) (Nat.le_trans K6.out.size (by first | (simp; done) | exact Nat.le_refl _))); have M7 := hid (M6.out.kp (Kp.trans (Kp.of_bw bq) hk7) hrl); have R7 := hid hr7; have K7 := hid (show Kp r w w7 from K6.out.trans (Kp.trans (Kp.of_bw bq) hk7)); have P7 := hid (P6.out.kp (Kp.trans (Kp.of_bw bq) hk7) (by have := K3.out.size; omega)); have L7 := hid hl7; clear hn7 hr7 hk7 hl7)
        | (go_at_call 48; refine (HW.out _ (R7.out.bw bq)).mono ?_; rintro e w8 ⟨rfl, hr8, hk8⟩; have K8a := hid (show Kp r w w8 from K7.out.trans (Kp.trans (Kp.of_bw bq) hk8)); have N8a := hid (N7.out.kp (Kp.trans (Kp.of_bw bq) hk8) hrl); have M8a := hid (M7.out.kp (Kp.trans (Kp.of_bw bq) hk8) hrl); have P8a := hid (P7.out.kp (Kp.trans (Kp.of_bw bq) hk8) (by have := K3.out.size; omega)); (obtain ⟨q6, z0, z1, z2, HQ6⟩ := RdM.off hr8 HOW.out); have R8 := hid HQ6; have K8 := hid (K8a.out.set 2 (.int .i64 (wrap64 (q6 - 1)))); have N8 := hid (N8a.out.kp ((Kp.refl r w8).set 2 (.int .i64 (wrap64 (q6 - 1)))) hrl); have M8 := hid (M8a.out.kp ((Kp.refl r w8).set 2 (.int .i64 (wrap64 (q6 - 1)))) hrl); have P8 := hid (P8a.out.kp ((Kp.refl r w8).set 2 (.int .i64 (wrap64 (q6 - 1)))) (by have := K3.out.size; omega)); have ul8 := P8a.out.lt; have u8 := P8a.out.cell; have un : wr.heap.size ≠ r := (by have := K3.out.size; omega); clear hr8 hk8 HQ6)
        | fail)
      go_region_held3 (fun w' => w'.cell? ⟨wr.heap.size, 0, none⟩ = some (.int .i64 29) ∧ w'.cell? ⟨wr.heap.size, 1, none⟩ = some (.int .i64 0) ∧ w'.cell? ⟨wr.heap.size, 2, none⟩ = some (.string ⟨#[]⟩) ∧ w'.cell? ⟨wr.heap.size, 3, none⟩ = some (.int .i64 0) ∧ w'.cell? ⟨wr.heap.size, 4, none⟩ = some (.int .i64 (dAt0 x0))) (first | (simp [go_sem, *]; done)) (first
        | (go_at_call 50; refine (dboth_as J _ _ x0 l1 HJ.out (M8.out.bw bq).sl (N8.out.bw bq).sl (by have := HX0.out; omega) (by have := L7.out; omega)).mono ?_; rintro e w10 ⟨a10, c10, rfl, hn10, hb10⟩; have N10 := hid hn10; have R10 := hid (R8.out.bw (Bw.trans bq hb10)); have K10 := hid (K8.out.bw (Bw.trans bq hb10)); have P10 := hid (P8.out.bw (Bw.trans bq hb10)); have v7 := P10.out.cell; have v8 := P10.out.lt; clear hn10 hb10)
        | (go_at_call 22; refine (djoin_any (29, 0, [], 0, dAt0 x0) 2 _ J (N10.out.bw bq).sl (by have := LJ.out; omega)).mono ?_; rintro e w9 ⟨a9, c9, rfl, hn9, hb9⟩; have N9 := hid hn9; have B9 := hid (show Bw w10 w9 from Bw.trans bq hb9); have P9 := hid (P10.out.bw B9.out); have v9 := P9.out.cell; have v10 := P9.out.lt; clear hn9 hb9)
        | fail)
      all_goals go_wp2
      case roundEnd =>
        exact ⟨⟨f2, dJoin (29, 0, [], 0, dAt0 x0) 2 J, W, by have := HF.out; omega, HNX.out, ⟨_, _, rfl⟩, N9.out.low K10.out.size, fun _ => dJoin_ne _ _ _, R10.out.bw B9.out, K10.out.bw B9.out⟩, left_lt R3.out (R10.out.bw B9.out) HE0.out HFL.out⟩
    · rw [i1] at HI1
      rw [i2] at HI2
      rw [i3, if_pos rfl] at HE
      have HNM := hid (fun w1 (hw : RdM w1 r T o (dNx s0)) => dname_any hw)
      have HFL := hid (fun (e : (dNameS T (dNx s0)).e = 0) => (((fs_nx s0 he0).then (fs_name (T := T) (dNx s0)).fw).2 e).2)
      generalize dNameS T (dNx s0) = W at HNM HFL h5
      generalize dNameT T (dNx s0) = nx at HNM h5
      have HNX := hid h5
      have HU := hid (show strOfNums nx = strOfNums nx from rfl)
      clear h5 i1 i2 i3 he0 hn hne
      go_wp2_with (first
        | (go_at_call 42; (fail_if_success (have _g := R4)); refine (HI1.out _ (R3.out.bw bq)).mono ?_; rintro e w4 ⟨rfl, hb4⟩; have R4 := hid (R3.out.bw (Bw.trans bq hb4)); have K4 := hid (show Kp r w w4 from K3.out.bw (Bw.trans bq hb4)); have N4 := hid (N3.out.bw (Bw.trans bq hb4)); have P4 := hid (show Blk w4 wr.heap.size #[.int .i64 0, .int .i64 0, .string ⟨#[]⟩, .int .i64 0, .int .i64 (dAt0 x0)] 43 from (Blk.new wr _ _).bw hb4); have ur4 : r < w4.heap.size := R4.out.lt; have ul4 := P4.out.lt; have u4 := P4.out.cell; have uf4 := P4.out.free; clear hb4)
        | (go_at_call 42; have _g := R4; clear _g; (fail_if_success (have _g := R5)); refine (HI2.out _ (R4.out.bw bq)).mono ?_; rintro e w5 ⟨rfl, hb5⟩; have R5 := hid (R4.out.bw (Bw.trans bq hb5)); have K5 := hid (show Kp r w w5 from K4.out.bw (Bw.trans bq hb5)); have N5 := hid (N4.out.bw (Bw.trans bq hb5)); have P5 := hid (show Blk w5 wr.heap.size #[.int .i64 0, .int .i64 0, .string ⟨#[]⟩, .int .i64 0, .int .i64 (dAt0 x0)] 43 from P4.out.bw hb5); have ur5 : r < w5.heap.size := R5.out.lt; have ul5 := P5.out.lt; have u5 := P5.out.cell; have uf5 := P5.out.free; clear hb5)
        | (go_at_call 47; refine (HE.out _ (R5.out.bw bq)).mono ?_; rintro e w6 ⟨rfl, hr6, hk6⟩; have R6 := hid hr6; have K6 := hid (show Kp r w w6 from K5.out.trans (Kp.trans (Kp.of_bw bq) hk6)); have N6 := hid (N5.out.kp (Kp.trans (Kp.of_bw bq) hk6) hrl); have P6 := hid (show Blk w6 wr.heap.size #[.int .i64 0, .int .i64 0, .string ⟨#[]⟩, .int .i64 0, .int .i64 (dAt0 x0)] 43 from P5.out.kp (Kp.trans (Kp.of_bw bq) hk6) (by have := K3.out.size; omega)); clear hr6 hk6)
        | (go_at_call 45; refine (HNM.out _ (R6.out.bw bq)).mono ?_; rintro e w7 ⟨rfl, hr7, hk7⟩; have R7 := hid hr7; have K7 := hid (show Kp r w w7 from K6.out.trans (Kp.trans (Kp.of_bw bq) hk7)); have N7 := hid (N6.out.kp (Kp.trans (Kp.of_bw bq) hk7) hrl); have P7 := hid (show Blk w7 wr.heap.size #[.int .i64 0, .int .i64 0, .string ⟨#[]⟩, .int .i64 0, .int .i64 (dAt0 x0)] 43 from P6.out.kp (Kp.trans (Kp.of_bw bq) hk7) (by have := K3.out.size; omega)); have ul7 := P7.out.lt; have u7 := P7.out.cell; have uf7 := P7.out.free; clear hr7 hk7)
        | (go_at_call 22; refine (djoin_any (30, 0, nx, 0, dAt0 x0) 1 _ x0 ((N7.out.setO (N3.out.old (Nat.le_refl _)) 0 _).setO (N3.out.old (Nat.le_refl _)) 2 _).sl (by have := HX0.out; omega)).mono ?_; rintro e w9 ⟨a9, c9, rfl, hn9, hb9⟩; have N9 := hid hn9; have B9 := hid hb9; clear hn9 hb9)
        | fail)
      case roundEnd =>
        exact ⟨⟨f2, dJoin (30, 0, nx, 0, dAt0 x0) 1 x0, W, by have := HF.out; omega, HNX.out, ⟨_, _, rfl⟩, N9.out.low (by have := K7.out.size; simp only [World.size_setCell]; omega), fun _ => dJoin_ne _ _ _, ((R7.out.setO P7.out 0 _).setO (P7.out.set 0 _) 2 _).bw B9.out, ((K7.out.setNew K3.out.size 0 _).setNew K3.out.size 2 _).bw B9.out⟩, left_lt R3.out (((R7.out.setO P7.out 0 _).setO (P7.out.set 0 _) 2 _).bw B9.out) HE0.out HFL.out⟩
    · have HXE := hid hx
      clear hx
      rw [i1] at HI1
      rw [i2] at HI2
      rw [i3, if_neg (by decide)] at HE
      clear i1 i2 i3 he0 hn hne
      go_wp2_with (first
        | (go_at_call 42; (fail_if_success (have _g := R4)); refine (HI1.out _ (R3.out.bw bq)).mono ?_; rintro e w4 ⟨rfl, hb4⟩; have R4 := hid (R3.out.bw (Bw.trans bq hb4)); have K4 := hid (show Kp r w w4 from K3.out.bw (Bw.trans bq hb4)); have N4 := hid (N3.out.bw (Bw.trans bq hb4)); have P4 := hid (show Blk w4 wr.heap.size #[.int .i64 0, .int .i64 0, .string ⟨#[]⟩, .int .i64 0, .int .i64 (dAt0 x0)] 43 from (Blk.new wr _ _).bw hb4); have ur4 : r < w4.heap.size := R4.out.lt; have ul4 := P4.out.lt; have u4 := P4.out.cell; have uf4 := P4.out.free; clear hb4)
        | (go_at_call 42; have _g := R4; clear _g; (fail_if_success (have _g := R5)); refine (HI2.out _ (R4.out.bw bq)).mono ?_; rintro e w5 ⟨rfl, hb5⟩; have R5 := hid (R4.out.bw (Bw.trans bq hb5)); have K5 := hid (show Kp r w w5 from K4.out.bw (Bw.trans bq hb5)); have N5 := hid (N4.out.bw (Bw.trans bq hb5)); have P5 := hid (show Blk w5 wr.heap.size #[.int .i64 0, .int .i64 0, .string ⟨#[]⟩, .int .i64 0, .int .i64 (dAt0 x0)] 43 from P4.out.bw hb5); have ur5 : r < w5.heap.size := R5.out.lt; have ul5 := P5.out.lt; have u5 := P5.out.cell; have uf5 := P5.out.free; clear hb5)
        | (go_at_call 47; refine (HE.out _ (R5.out.bw bq)).mono ?_; rintro e w6 ⟨rfl, hr6, hk6⟩; have R6 := hid hr6; have K6 := hid (show Kp r w w6 from K5.out.trans (Kp.trans (Kp.of_bw bq) hk6)); have N6 := hid (N5.out.kp (Kp.trans (Kp.of_bw bq) hk6) hrl); have P6 := hid (show Blk w6 wr.heap.size #[.int .i64 0, .int .i64 0, .string ⟨#[]⟩, .int .i64 0, .int .i64 (dAt0 x0)] 43 from P5.out.kp (Kp.trans (Kp.of_bw bq) hk6) (by have := K3.out.size; omega)); clear hr6 hk6)
        | fail)
      all_goals go_ret
      all_goals
        obtain ⟨rfl, rfl, rfl⟩ := (by simpa using HXE.out : l = x0 ∧ k = 0 ∧ s' = s0)
        exact ⟨_, _, rfl, N6.out, R6.out, K6.out, HLL.out⟩

end

end Go.Proofs.YtdhkcdehedbpcaaDoor

