/- No list of the document's parser is longer than so many: plain data. · The document's parser: choice: contracts, by steps. · The document's parser: expr's loop, plain. -/
import Derived.Test.YtdhkcdehedbpcaaDoorM3
import Derived.Test.YtdhkcdehedbpcaaDoorM13
set_option linter.unusedSimpArgs false
set_option linter.unusedVariables false
namespace Go.Proofs.YtdhkcdehedbpcaaDoor
open Go Go.RowKit

section
variable {T : List ATok}

theorem dR_len : ∀ {f : Nat} {q : Dq} {o : Int} {s s' : DS} {l : List ANode} {k : Int}, dR T f q o s = some (l, k, s') → l.length ≤ 1000000
 | 0, _, _, _, _, _, _, h => by cases h
 | f + 1, q, o, s, s', l, k, h => by
  cases q with
  | block => unfold dR at h; obtain ⟨x, h1, h2⟩ := bnd h; exact (rete3 h2).1 ▸ (rete3 h2).2.2
  | blockL l0 k0 =>
   unfold dR at h
   obtain ⟨h, hl, _⟩ := gde h
   rcases ite_some h with ⟨_, h⟩ | ⟨_, h⟩
   ·obtain ⟨x, h1, h2⟩ := bnd h; exact dR_len h2
   ·rw [(some3 h).1]; exact hl
  | func n => unfold dR at h; obtain ⟨x, h1, h2⟩ := bnd h; obtain ⟨y, h3, h4⟩ := bnd h2; exact (rete3 h4).1 ▸ (rete3 h4).2.2
  | funcL l0 k0 =>
   unfold dR at h
   obtain ⟨h, hl, _⟩ := gde h
   rcases ite_some h with ⟨_, h⟩ | ⟨_, h⟩
   ·exact dR_len h
   ·rw [(some3 h).1]; exact hl
  | choice =>
   unfold dR at h
   obtain ⟨x, h1, h2⟩ := bnd h; obtain ⟨y, h3, h4⟩ := bnd h2
   rcases ite_some h4 with ⟨_, h4⟩ | ⟨_, h4⟩
   ·rcases ite_some h4 with ⟨_, h4⟩ | ⟨_, h4⟩
    ·obtain ⟨z, h5, h6⟩ := bnd h4; exact (rete3 h6).1 ▸ (rete3 h6).2.2
    ·obtain ⟨z, h5, h6⟩ := bnd h4; exact (rete3 h6).1 ▸ (rete3 h6).2.2
   ·exact (rete3 h4).1 ▸ (rete3 h4).2.2
  | stmt =>
   unfold dR at h
   rcases ite_some h with ⟨_, h⟩ | ⟨_, h⟩
   ·exact dR_len h
   rcases ite_some h with ⟨_, h⟩ | ⟨_, h⟩
   ·exact dR_len h
   rcases ite_some h with ⟨_, h⟩ | ⟨_, h⟩
   ·exact dR_len h
   rcases ite_some h with ⟨_, h⟩ | ⟨_, h⟩
   ·obtain ⟨x, h1, h2⟩ := bnd h; exact (rete3 h2).1 ▸ (rete3 h2).2.2
   rcases ite_some h with ⟨_, h⟩ | ⟨_, h⟩
   ·obtain ⟨x, h1, h2⟩ := bnd h; obtain ⟨y, h3, h4⟩ := bnd h2; exact (rete3 h4).1 ▸ (rete3 h4).2.2
   rcases ite_some h with ⟨_, h⟩ | ⟨_, h⟩
   ·exact (rete3 h).1 ▸ (rete3 h).2.2
   rcases ite_some h with ⟨_, h⟩ | ⟨_, h⟩
   ·exact (rete3 h).1 ▸ (rete3 h).2.2
   rcases ite_some h with ⟨_, h⟩ | ⟨_, h⟩
   ·rcases ite_some h with ⟨_, h⟩ | ⟨_, h⟩
    ·exact (rete3 h).1 ▸ (rete3 h).2.2
    ·obtain ⟨x, h1, h2⟩ := bnd h; exact (rete3 h2).1 ▸ (rete3 h2).2.2
   rcases ite_some h with ⟨_, h⟩ | ⟨_, h⟩
   ·obtain ⟨x, h1, h2⟩ := bnd h; exact (rete3 h2).1 ▸ (rete3 h2).2.2
   rcases ite_some h with ⟨_, h⟩ | ⟨_, h⟩
   ·obtain ⟨x, h1, h2⟩ := bnd h; obtain ⟨y, h3, h4⟩ := bnd h2; exact (rete3 h4).1 ▸ (rete3 h4).2.2
   ·exact dR_len h
  | plain =>
   unfold dR at h
   obtain ⟨x, h1, h2⟩ := bnd h
   rcases ite_some h2 with ⟨_, h2⟩ | ⟨_, h2⟩
   ·exact (rete3 h2).1 ▸ (rete3 h2).2.2
   rcases ite_some h2 with ⟨_, h2⟩ | ⟨_, h2⟩
   ·obtain ⟨y, h3, h4⟩ := bnd h2; exact (rete3 h4).1 ▸ (rete3 h4).2.2
   ·exact (rete3 h2).1 ▸ (rete3 h2).2.2
  | ahead t k0 lev => unfold dR at h; obtain ⟨x, h1, h2⟩ := bnd h; exact (rete3 h2).1 ▸ (rete3 h2).2.2
  | expr lev =>
   unfold dR at h
   rcases ite_some h with ⟨_, h⟩ | ⟨_, h⟩
   ·cases h
   rcases ite_some h with ⟨_, h⟩ | ⟨_, h⟩
   ·exact (rete3 h).1 ▸ (rete3 h).2.2
   rcases ite_some h with ⟨_, h⟩ | ⟨_, h⟩
   ·exact dR_len h
   rcases ite_some h with ⟨_, h⟩ | ⟨_, h⟩
   ·rcases ite_some h with ⟨_, h⟩ | ⟨_, h⟩
    ·exact dR_len h
    ·exact dR_len h
   ·obtain ⟨x, h1, h2⟩ := bnd h; exact dR_len h2
  | exprL lev x =>
   unfold dR at h
   obtain ⟨h, hl, _⟩ := gde h
   rcases ite_some h with ⟨_, h⟩ | ⟨_, h⟩
   ·obtain ⟨x, h1, h2⟩ := bnd h
    rcases ite_some h2 with ⟨_, h2⟩ | ⟨_, h2⟩
    ·exact (rete3 h2).1 ▸ (rete3 h2).2.2
    ·exact dR_len h2
   ·exact (rete3 h).1 ▸ (rete3 h).2.2
  | thing => unfold dR at h; obtain ⟨x, h1, h2⟩ := bnd h; exact dR_len h2
  | thingL x =>
   unfold dR at h
   obtain ⟨h, hl, _⟩ := gde h
   rcases ite_some h with ⟨_, h⟩ | ⟨_, h⟩
   ·exact (rete3 h).1 ▸ (rete3 h).2.2
   rcases ite_some h with ⟨_, h⟩ | ⟨_, h⟩
   ·obtain ⟨x, h1, h2⟩ := bnd h; exact dR_len h2
   rcases ite_some h with ⟨_, h⟩ | ⟨_, h⟩
   ·obtain ⟨x, h1, h2⟩ := bnd h; exact dR_len h2
   rcases ite_some h with ⟨_, h⟩ | ⟨_, h⟩
   ·exact dR_len h
   ·exact (rete3 h).1 ▸ (rete3 h).2.2
  | args => unfold dR at h; obtain ⟨x, h1, h2⟩ := bnd h; rw [(some3 h2).1]; exact dR_len h1
  | argsL l0 k0 =>
   unfold dR at h
   obtain ⟨h, hl, _⟩ := gde h
   rcases ite_some h with ⟨_, h⟩ | ⟨_, h⟩
   ·obtain ⟨x, h1, h2⟩ := bnd h; exact dR_len h2
   ·rw [(some3 h).1]; exact hl
  | prim =>
   unfold dR at h
   rcases ite_some h with ⟨_, h⟩ | ⟨_, h⟩
   ·exact (rete3 h).1 ▸ (rete3 h).2.2
   rcases ite_some h with ⟨_, h⟩ | ⟨_, h⟩
   ·exact (rete3 h).1 ▸ (rete3 h).2.2
   rcases ite_some h with ⟨_, h⟩ | ⟨_, h⟩
   ·exact (rete3 h).1 ▸ (rete3 h).2.2
   ·exact dR_len h
  | about n =>
   unfold dR at h
   rcases ite_some h with ⟨_, h⟩ | ⟨_, h⟩
   ·exact (rete3 h).1 ▸ (rete3 h).2.2
   rcases ite_some h with ⟨_, h⟩ | ⟨_, h⟩
   ·exact (rete3 h).1 ▸ (rete3 h).2.2
   rcases ite_some h with ⟨_, h⟩ | ⟨_, h⟩
   ·exact (rete3 h).1 ▸ (rete3 h).2.2
   rcases ite_some h with ⟨_, h⟩ | ⟨_, h⟩
   ·exact dR_len h
   rcases ite_some h with ⟨_, h⟩ | ⟨_, h⟩
   ·obtain ⟨x, h1, h2⟩ := bnd h; exact (rete3 h2).1 ▸ (rete3 h2).2.2
   rcases ite_some h with ⟨_, h⟩ | ⟨_, h⟩
   ·exact dR_len h
   rcases ite_some h with ⟨_, h⟩ | ⟨_, h⟩
   ·exact dR_len h
   rcases ite_some h with ⟨_, h⟩ | ⟨_, h⟩
   ·rcases ite_some h with ⟨_, h⟩ | ⟨_, h⟩
    ·exact (rete3 h).1 ▸ (rete3 h).2.2
    ·obtain ⟨x, h1, h2⟩ := bnd h
     rcases ite_some h2 with ⟨_, h2⟩ | ⟨_, h2⟩
     ·exact (rete3 h2).1 ▸ (rete3 h2).2.2
     ·exact (rete3 h2).1 ▸ (rete3 h2).2.2
   ·exact (rete3 h).1 ▸ (rete3 h).2.2
  | several n rc => unfold dR at h; obtain ⟨x, h1, h2⟩ := bnd h; exact (rete3 h2).1 ▸ (rete3 h2).2.2
  | severalL rc l0 k0 =>
   unfold dR at h
   obtain ⟨h, hl, _⟩ := gde h
   rcases ite_some h with ⟨_, h⟩ | ⟨_, h⟩
   ·rcases ite_some h with ⟨_, h⟩ | ⟨_, h⟩
    ·obtain ⟨x, h1, h2⟩ := bnd h; exact dR_len h2
    ·obtain ⟨x, h1, h2⟩ := bnd h; exact dR_len h2
   ·rw [(some3 h).1]; exact hl

end

end Go.Proofs.YtdhkcdehedbpcaaDoor

namespace Go.Proofs.YtdhkcdehedbpcaaDoor
open Go Go.RowKit

section
variable {w w' : World} {r f : Nat} {T : List ATok} {o : Int} {s s' : DS} {l : List ANode} {k : Int}

set_option maxRecDepth 100000 in
set_option maxHeartbeats 8000000 in
theorem choice_step (hc : ∀ g, g ≤ f → Con T r g) (h : dR T (f + 1) .choice o s = some (l, k, s')) (hr : RdM w r T o s) : Calls Tryd.prog 44 #[.pointer (some ⟨r, 0, none⟩)] w (DG w r T o l s') := by
 unfold dR at h
 obtain ⟨⟨l1, k1, s1⟩, h1, h2⟩ := bnd h
 obtain ⟨⟨l2, k2, s2⟩, h3, h4⟩ := bnd h2
 have HR := hid hr
 have hrl := hr.lt
 have HAT := hid (fun w1 (hw : Bw w w1) => dat_any (hr.bw hw))
 have HW := hid (fun w1 (hw : RdM w1 r T o s) => dwant_any ⟨#[105, 102]⟩ hw)
 have HX := hid (fun w1 (hw : RdM w1 r T o (dWant T s ⟨#[105, 102]⟩)) => (hc f (Nat.le_refl _)).expr 0 h1 hw)
 have HB := hid (fun w1 (hw : RdM w1 r T o s1) => (hc f (Nat.le_refl _)).block h3 hw)
 have HE := hid (fun w1 (hw : RdM w1 r T o s2) => deat_any ⟨#[101, 108, 115, 101]⟩ hw)
 have LB := hid (show (l1 ++ l2).length ≤ 2000000 by
  have a : l1.length ≤ 1000000 := dR_len h1
  have b : l2.length ≤ 1000000 := dR_len h3
  rw [List.length_append]; omega)
 unfold dEat at HE
 rcases ite_some h4 with ⟨hi, h4⟩ | ⟨hi, h4⟩
 ·rw [if_pos hi, hi] at HE
  have HI := hid (fun w1 (hw : RdM w1 r T o (dNx s2)) => dis_any ⟨#[105, 102]⟩ hw)
  rcases ite_some h4 with ⟨hj, h4⟩ | ⟨hj, h4⟩
  ·obtain ⟨⟨l3, k3, s3⟩, h5, h6⟩ := bnd h4
   obtain ⟨rfl, rfl, hlen⟩ := rete3 h6
   simp only at hlen ⊢
   have HLJ := hid hlen
   have HV := hid (fun w1 (hw : RdM w1 r T o (dNx s2)) => (hc f (Nat.le_refl _)).choice h5 hw)
   rw [hj] at HI
   unfold DG at HV
   have LB3 := hid (show l3.length ≤ 1000000 from dR_len h5)
   obtain ⟨J2, hJ2⟩ : ∃ J, l1 ++ l2 = J := ⟨_, rfl⟩
   rw [hJ2] at LB HLJ ⊢
   obtain ⟨J3, hJ3⟩ : ∃ J, J2 ++ l3 = J := ⟨_, rfl⟩
   have LJ3 := hid (show J3.length ≤ 4000000 by have := LB.out; have := LB3.out; rw [← hJ3, List.length_append]; omega)
   rw [hJ3] at HLJ ⊢
   have HJ2 := hid hJ2
   have HJ3 := hid hJ3
   clear hJ2 hJ3
   clear h h1 h2 h3 h4 h5 h6 hc hr hi hj hlen
   unfold DG at HX HB ⊢
   generalize dAt T s = p0 at HAT HLJ ⊢
   generalize dWant T s ⟨#[105, 102]⟩ = A at HX HW
   go_enter Tryd.func44, Tryd.ntmps44
   go_wp2_with (first
    | (go_at_call 41; (fail_if_success (have _g := B1)); refine (HAT.out _ (Bw.refl _)).mono ?_; rintro e w1 ⟨rfl, hb1⟩; have B1 := hid hb1; have R1 := hid (HR.out.bw hb1); clear hb1)
    | (go_at_call 48; refine (HW.out _ (R1.out.bw bq)).mono ?_; rintro e w2 ⟨rfl, hr2, hk2⟩; have R2 := hid hr2; have K2 := hid (show Kp r w w2 from Kp.trans (Kp.of_bw (B1.out.trans bq)) hk2); have P2 := hid (show Blk w2 w1.heap.size #[.int .i64 (5), .int .i64 0, .string ⟨#[]⟩, .int .i64 0, .int .i64 p0] 43 from (Blk.new w1 _ _).kp hk2 (kp_ge hrl B1.out (Nat.le_refl _))); clear hr2 hk2)
    | (go_at_call 49; refine (HX.out _ R2.out).mono ?_; rintro e w3 ⟨a3, c3, rfl, hn3, hr3, hk3, hl3⟩; have N3 := hid (hn3.low (b' := w1.heap.size + 1) P2.out.lt); have R3 := hid hr3; have K3 := hid (K2.out.trans hk3); have P3 := hid (P2.out.kp hk3 (kp_ge hrl B1.out (Nat.le_refl _))); have L3 := hid hl3; clear hn3 hr3 hk3 hl3)
    | (go_at_call 43; (fail_if_success (have _g := R4)); refine (HB.out _ R3.out).mono ?_; rintro e w4 ⟨a4, c4, rfl, hn4, hr4, hk4, hl4⟩; have N4 := hid (hn4.low (b' := w1.heap.size + 1) P3.out.lt); have N34 := hid (N3.out.kp hk4 (by have := B1.out.size; omega)); have R4 := hid hr4; have K4 := hid (K3.out.trans hk4); have P4 := hid (P3.out.kp hk4 (kp_ge hrl B1.out (Nat.le_refl _))); have L4 := hid hl4; clear hn4 hr4 hk4 hl4)
    | (go_at_call 50; (fail_if_success (have _g := N5)); refine (dboth_as J2 _ _ l1 l2 HJ2.out N34.out.sl N4.out.sl (by have := L3.out; omega) (by have := L4.out; omega)).mono ?_; rintro e w5 ⟨a5, c5, rfl, hn5, hb5⟩; have N5 := hid (hn5.low (b' := w1.heap.size + 1) P4.out.lt); have R5 := hid (R4.out.bw hb5); have K5 := hid (K4.out.bw hb5); have P5 := hid (P4.out.bw hb5); clear hn5 hb5)
    | (go_at_call 47; refine (HE.out _ R5.out).mono ?_; rintro e w6 ⟨rfl, hr6, hk6⟩; have R6 := hid hr6; have K6 := hid (K5.out.trans hk6); have N6 := hid (N5.out.kp hk6 (by have := B1.out.size; omega)); have P6 := hid (P5.out.kp hk6 (kp_ge hrl B1.out (Nat.le_refl _))); have u3 := P6.out.cell; have u4 := P6.out.lt; clear hr6 hk6)
    | (go_at_call 42; refine (HI.out _ R6.out).mono ?_; rintro e w7 ⟨rfl, hb7⟩; have B7 := hid hb7; have R7 := hid (R6.out.bw hb7); have K7 := hid (K6.out.bw hb7); have N7 := hid (N6.out.bw hb7); have P7 := hid (P6.out.bw hb7); have v3 := P7.out.cell; have v4 := P7.out.lt; clear hb7)
    | fail)
   go_region_held3 (fun w' => w'.cell? ⟨w1.heap.size, 0, none⟩ = some (.int .i64 5) ∧ w'.cell? ⟨w1.heap.size, 1, none⟩ = some (.int .i64 0) ∧ w'.cell? ⟨w1.heap.size, 2, none⟩ = some (.string ⟨#[]⟩) ∧ w'.cell? ⟨w1.heap.size, 3, none⟩ = some (.int .i64 0) ∧ w'.cell? ⟨w1.heap.size, 4, none⟩ = some (.int .i64 p0)) (first | (simp [go_sem, *]; done)) (first
    | (go_at_call 44; refine (HV.out _ (R7.out.bw bq)).mono ?_; rintro e w8 ⟨a8, c8, rfl, hn8, hr8, hk8, hl8⟩; have N8 := hid (hn8.low (b' := w1.heap.size + 1) (Nat.le_trans P7.out.lt (by first | (simp; done) | (simp; omega) | exact Nat.le_refl _))); have N78 := hid (N7.out.kp (Kp.trans (Kp.of_bw bq) hk8) (by have := B1.out.size; omega)); have R8 := hid hr8; have K8 := hid (show Kp r w w8 from K7.out.trans (Kp.trans (Kp.of_bw bq) hk8)); have P8 := hid (P7.out.kp (Kp.trans (Kp.of_bw bq) hk8) (kp_ge hrl B1.out (Nat.le_refl _))); have L8 := hid hl8; have v5 := P8.out.cell; have v6 := P8.out.lt; clear hn8 hr8 hk8 hl8)
    | (go_at_call 50; have _g := N5; clear _g; refine (dboth_as J3 _ _ J2 l3 HJ3.out N78.out.sl N8.out.sl (by have := LB.out; omega) (by have := L8.out; omega)).mono ?_; rintro e w10 ⟨a10, c10, rfl, hn10, hb10⟩; have N10 := hid hn10; have R10 := hid (R8.out.bw hb10); have K10 := hid (K8.out.bw hb10); have P10 := hid (P8.out.bw hb10); have v7 := P10.out.cell; have v8 := P10.out.lt; clear hn10 hb10)
    | (go_at_call 22; refine (djoin_any (5, 0, [], 0, p0) 3 _ (J3) N10.out.sl (by have := LJ3.out; omega)).mono ?_; rintro e w9 ⟨a9, c9, rfl, hn9, hb9⟩; have N9 := hid hn9; have B9 := hid hb9; have P9 := hid (P10.out.bw hb9); have v9 := P9.out.cell; have v10 := P9.out.lt; clear hn9 hb9)
    | fail)
   all_goals go_wp2
   all_goals go_ret
   all_goals exact ⟨_, _, rfl, N9.out.low (by have h1 := K10.out.size; exact h1), R10.out.bw B9.out, K10.out.bw B9.out, HLJ.out⟩
  ·obtain ⟨⟨l3, k3, s3⟩, h5, h6⟩ := bnd h4
   obtain ⟨rfl, rfl, hlen⟩ := rete3 h6
   simp only at hlen ⊢
   have HLJ := hid hlen
   have HV := hid (fun w1 (hw : RdM w1 r T o (dNx s2)) => (hc f (Nat.le_refl _)).block h5 hw)
   rw [show dIs T (dNx s2) ⟨#[105, 102]⟩ = false by simpa using hj] at HI
   unfold DG at HV
   have LB3 := hid (show l3.length ≤ 1000000 from dR_len h5)
   obtain ⟨J2, hJ2⟩ : ∃ J, l1 ++ l2 = J := ⟨_, rfl⟩
   rw [hJ2] at LB HLJ ⊢
   obtain ⟨J3, hJ3⟩ : ∃ J, J2 ++ l3 = J := ⟨_, rfl⟩
   have LJ3 := hid (show J3.length ≤ 4000000 by have := LB.out; have := LB3.out; rw [← hJ3, List.length_append]; omega)
   rw [hJ3] at HLJ ⊢
   have HJ2 := hid hJ2
   have HJ3 := hid hJ3
   clear hJ2 hJ3
   clear h h1 h2 h3 h4 h5 h6 hc hr hi hj hlen
   unfold DG at HX HB ⊢
   generalize dAt T s = p0 at HAT HLJ ⊢
   generalize dWant T s ⟨#[105, 102]⟩ = A at HX HW
   go_enter Tryd.func44, Tryd.ntmps44
   go_wp2_with (first
    | (go_at_call 41; (fail_if_success (have _g := B1)); refine (HAT.out _ (Bw.refl _)).mono ?_; rintro e w1 ⟨rfl, hb1⟩; have B1 := hid hb1; have R1 := hid (HR.out.bw hb1); clear hb1)
    | (go_at_call 48; refine (HW.out _ (R1.out.bw bq)).mono ?_; rintro e w2 ⟨rfl, hr2, hk2⟩; have R2 := hid hr2; have K2 := hid (show Kp r w w2 from Kp.trans (Kp.of_bw (B1.out.trans bq)) hk2); have P2 := hid (show Blk w2 w1.heap.size #[.int .i64 (5), .int .i64 0, .string ⟨#[]⟩, .int .i64 0, .int .i64 p0] 43 from (Blk.new w1 _ _).kp hk2 (kp_ge hrl B1.out (Nat.le_refl _))); clear hr2 hk2)
    | (go_at_call 49; refine (HX.out _ R2.out).mono ?_; rintro e w3 ⟨a3, c3, rfl, hn3, hr3, hk3, hl3⟩; have N3 := hid (hn3.low (b' := w1.heap.size + 1) P2.out.lt); have R3 := hid hr3; have K3 := hid (K2.out.trans hk3); have P3 := hid (P2.out.kp hk3 (kp_ge hrl B1.out (Nat.le_refl _))); have L3 := hid hl3; clear hn3 hr3 hk3 hl3)
    | (go_at_call 43; (fail_if_success (have _g := R4)); refine (HB.out _ R3.out).mono ?_; rintro e w4 ⟨a4, c4, rfl, hn4, hr4, hk4, hl4⟩; have N4 := hid (hn4.low (b' := w1.heap.size + 1) P3.out.lt); have N34 := hid (N3.out.kp hk4 (by have := B1.out.size; omega)); have R4 := hid hr4; have K4 := hid (K3.out.trans hk4); have P4 := hid (P3.out.kp hk4 (kp_ge hrl B1.out (Nat.le_refl _))); have L4 := hid hl4; clear hn4 hr4 hk4 hl4)
    | (go_at_call 50; (fail_if_success (have _g := N5)); refine (dboth_as J2 _ _ l1 l2 HJ2.out N34.out.sl N4.out.sl (by have := L3.out; omega) (by have := L4.out; omega)).mono ?_; rintro e w5 ⟨a5, c5, rfl, hn5, hb5⟩; have N5 := hid (hn5.low (b' := w1.heap.size + 1) P4.out.lt); have R5 := hid (R4.out.bw hb5); have K5 := hid (K4.out.bw hb5); have P5 := hid (P4.out.bw hb5); clear hn5 hb5)
    | (go_at_call 47; refine (HE.out _ R5.out).mono ?_; rintro e w6 ⟨rfl, hr6, hk6⟩; have R6 := hid hr6; have K6 := hid (K5.out.trans hk6); have N6 := hid (N5.out.kp hk6 (by have := B1.out.size; omega)); have P6 := hid (P5.out.kp hk6 (kp_ge hrl B1.out (Nat.le_refl _))); have u3 := P6.out.cell; have u4 := P6.out.lt; clear hr6 hk6)
    | (go_at_call 42; refine (HI.out _ R6.out).mono ?_; rintro e w7 ⟨rfl, hb7⟩; have B7 := hid hb7; have R7 := hid (R6.out.bw hb7); have K7 := hid (K6.out.bw hb7); have N7 := hid (N6.out.bw hb7); have P7 := hid (P6.out.bw hb7); have v3 := P7.out.cell; have v4 := P7.out.lt; clear hb7)
    | fail)
   go_region_held3 (fun w' => w'.cell? ⟨w1.heap.size, 0, none⟩ = some (.int .i64 5) ∧ w'.cell? ⟨w1.heap.size, 1, none⟩ = some (.int .i64 0) ∧ w'.cell? ⟨w1.heap.size, 2, none⟩ = some (.string ⟨#[]⟩) ∧ w'.cell? ⟨w1.heap.size, 3, none⟩ = some (.int .i64 0) ∧ w'.cell? ⟨w1.heap.size, 4, none⟩ = some (.int .i64 p0)) (first | (simp [go_sem, *]; done)) (first
    | (go_at_call 43; refine (HV.out _ (R7.out.bw bq)).mono ?_; rintro e w8 ⟨a8, c8, rfl, hn8, hr8, hk8, hl8⟩; have N8 := hid (hn8.low (b' := w1.heap.size + 1) (Nat.le_trans P7.out.lt (by first | (simp; done) | (simp; omega) | exact Nat.le_refl _))); have N78 := hid (N7.out.kp (Kp.trans (Kp.of_bw bq) hk8) (by have := B1.out.size; omega)); have R8 := hid hr8; have K8 := hid (show Kp r w w8 from K7.out.trans (Kp.trans (Kp.of_bw bq) hk8)); have P8 := hid (P7.out.kp (Kp.trans (Kp.of_bw bq) hk8) (kp_ge hrl B1.out (Nat.le_refl _))); have L8 := hid hl8; have v5 := P8.out.cell; have v6 := P8.out.lt; clear hn8 hr8 hk8 hl8)
    | (go_at_call 50; have _g := N5; clear _g; refine (dboth_as J3 _ _ J2 l3 HJ3.out N78.out.sl N8.out.sl (by have := LB.out; omega) (by have := L8.out; omega)).mono ?_; rintro e w10 ⟨a10, c10, rfl, hn10, hb10⟩; have N10 := hid hn10; have R10 := hid (R8.out.bw hb10); have K10 := hid (K8.out.bw hb10); have P10 := hid (P8.out.bw hb10); have v7 := P10.out.cell; have v8 := P10.out.lt; clear hn10 hb10)
    | (go_at_call 22; refine (djoin_any (5, 0, [], 0, p0) 3 _ (J3) N10.out.sl (by have := LJ3.out; omega)).mono ?_; rintro e w9 ⟨a9, c9, rfl, hn9, hb9⟩; have N9 := hid hn9; have B9 := hid hb9; have P9 := hid (P10.out.bw hb9); have v9 := P9.out.cell; have v10 := P9.out.lt; clear hn9 hb9)
    | fail)
   all_goals go_wp2
   all_goals go_ret
   all_goals exact ⟨_, _, rfl, N9.out.low (by have h1 := K10.out.size; exact h1), R10.out.bw B9.out, K10.out.bw B9.out, HLJ.out⟩
 ·have hi2 : dIs T s2 ⟨#[101, 108, 115, 101]⟩ = false := by simpa using hi
  rw [if_neg hi, hi2] at HE
  obtain ⟨rfl, rfl, hlen⟩ := rete3 h4
  simp only at hlen ⊢
  have HLJ := hid hlen
  obtain ⟨J2, hJ2⟩ : ∃ J, l1 ++ l2 = J := ⟨_, rfl⟩
  rw [hJ2] at LB HLJ ⊢
  have HJ2 := hid hJ2
  clear h h1 h2 h3 h4 hc hr hi hi2 hlen hJ2
  unfold DG at HX HB ⊢
  generalize dAt T s = p0 at HAT HLJ ⊢
  generalize dWant T s ⟨#[105, 102]⟩ = A at HX HW
  go_enter Tryd.func44, Tryd.ntmps44
  go_wp2_with (first
   | (go_at_call 41; (fail_if_success (have _g := B1)); refine (HAT.out _ (Bw.refl _)).mono ?_; rintro e w1 ⟨rfl, hb1⟩; have B1 := hid hb1; have R1 := hid (HR.out.bw hb1); clear hb1)
   | (go_at_call 48; refine (HW.out _ (R1.out.bw bq)).mono ?_; rintro e w2 ⟨rfl, hr2, hk2⟩; have R2 := hid hr2; have K2 := hid (show Kp r w w2 from Kp.trans (Kp.of_bw (B1.out.trans bq)) hk2); have P2 := hid (show Blk w2 w1.heap.size #[.int .i64 (5), .int .i64 0, .string ⟨#[]⟩, .int .i64 0, .int .i64 p0] 43 from (Blk.new w1 _ _).kp hk2 (kp_ge hrl B1.out (Nat.le_refl _))); clear hr2 hk2)
   | (go_at_call 49; refine (HX.out _ R2.out).mono ?_; rintro e w3 ⟨a3, c3, rfl, hn3, hr3, hk3, hl3⟩; have N3 := hid (hn3.low (b' := w1.heap.size + 1) P2.out.lt); have R3 := hid hr3; have K3 := hid (K2.out.trans hk3); have P3 := hid (P2.out.kp hk3 (kp_ge hrl B1.out (Nat.le_refl _))); have L3 := hid hl3; clear hn3 hr3 hk3 hl3)
   | (go_at_call 43; (fail_if_success (have _g := R4)); refine (HB.out _ R3.out).mono ?_; rintro e w4 ⟨a4, c4, rfl, hn4, hr4, hk4, hl4⟩; have N4 := hid (hn4.low (b' := w1.heap.size + 1) P3.out.lt); have N34 := hid (N3.out.kp hk4 (by have := B1.out.size; omega)); have R4 := hid hr4; have K4 := hid (K3.out.trans hk4); have P4 := hid (P3.out.kp hk4 (kp_ge hrl B1.out (Nat.le_refl _))); have L4 := hid hl4; clear hn4 hr4 hk4 hl4)
   | (go_at_call 50; (fail_if_success (have _g := N5)); refine (dboth_as J2 _ _ l1 l2 HJ2.out N34.out.sl N4.out.sl (by have := L3.out; omega) (by have := L4.out; omega)).mono ?_; rintro e w5 ⟨a5, c5, rfl, hn5, hb5⟩; have N5 := hid (hn5.low (b' := w1.heap.size + 1) P4.out.lt); have R5 := hid (R4.out.bw hb5); have K5 := hid (K4.out.bw hb5); have P5 := hid (P4.out.bw hb5); clear hn5 hb5)
   | (go_at_call 47; refine (HE.out _ R5.out).mono ?_; rintro e w6 ⟨rfl, hr6, hk6⟩; have R6 := hid hr6; have K6 := hid (K5.out.trans hk6); have N6 := hid (N5.out.kp hk6 (by have := B1.out.size; omega)); have P6 := hid (P5.out.kp hk6 (kp_ge hrl B1.out (Nat.le_refl _))); have u3 := P6.out.cell; have u4 := P6.out.lt; clear hr6 hk6)
   | (go_at_call 22; refine (djoin_any (5, 0, [], 0, p0) 2 _ (J2) N6.out.sl (by have := LB.out; omega)).mono ?_; rintro e w9 ⟨a9, c9, rfl, hn9, hb9⟩; have N9 := hid hn9; have B9 := hid hb9; clear hn9 hb9)
   | fail)
  all_goals go_ret
  all_goals exact ⟨_, _, rfl, N9.out.low (by have h1 := K6.out.size; exact h1), R6.out.bw B9.out, K6.out.bw B9.out, HLJ.out⟩
end

end Go.Proofs.YtdhkcdehedbpcaaDoor

namespace Go.Proofs.YtdhkcdehedbpcaaDoor
open Go Go.RowKit

def exN (T : List ATok) (lev : Int) (x : List ANode) (s : DS) : ANode := if lev < 2 then (25 - lev, 0, [], 0, dAt0 x) else (23, 0, (dtk T s.i).2.1, 0, dAt0 x)

theorem exprL_inv {T : List ATok} {f : Nat} {lev o : Int} {x l : List ANode} {k : Int} {s s' : DS} (h : dR T f (.exprL lev x) o s = some (l, k, s')) : ∃ g, f = g + 1 ∧ x.length ≤ 1000000 ∧
  ((s.e = 0 ∧ lev ≠ 2 ∧ dLev (dtk T s.i) = lev ∧ ∃ l1 k1 s1, dR T g (.expr (lev + 1)) o (dNx s) = some (l1, k1, s1) ∧
   ((lev = 3 ∧ l = dJoin (exN T lev x s) 2 (x ++ l1) ∧ s' = s1 ∧ l.length ≤ 1000000) ∨ (lev ≠ 3 ∧ dR T g (.exprL lev (dJoin (exN T lev x s) 2 (x ++ l1))) o s1 = some (l, k, s'))))
  ∨ (¬ (s.e = 0 ∧ lev ≠ 2 ∧ dLev (dtk T s.i) = lev) ∧ l = x ∧ s' = s)) := by
 cases f with
 | zero => cases h
 | succ g =>
  unfold dR at h
  obtain ⟨h, h1, _⟩ := gde h
  refine ⟨g, rfl, h1, ?_⟩
  rcases ite_some h with ⟨hi, h⟩ | ⟨hn, h⟩
  ·obtain ⟨⟨l1, k1, s1⟩, h3, h4⟩ := bnd h
   refine .inl ⟨hi.1, hi.2.1, hi.2.2, l1, k1, s1, h3, ?_⟩
   rcases ite_some h4 with ⟨h5, h4⟩ | ⟨h5, h4⟩
   ·exact .inl ⟨h5, (rete3 h4).1, (rete3 h4).2.1, (rete3 h4).1 ▸ (rete3 h4).2.2⟩
   ·exact .inr ⟨h5, h4⟩
  ·exact .inr ⟨hn, (rete3 h).1, (rete3 h).2.1⟩

end Go.Proofs.YtdhkcdehedbpcaaDoor

