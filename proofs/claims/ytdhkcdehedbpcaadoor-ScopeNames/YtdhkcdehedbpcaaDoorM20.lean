/- The document's parser: args: contracts, by steps. · The document's parser: function: contracts, by steps. · The document's parser: several, rows: contracts, by steps. -/
import Derived.Test.YtdhkcdehedbpcaaDoorM13
import Derived.Test.YtdhkcdehedbpcaaDoorM16
import Derived.Test.YtdhkcdehedbpcaaDoorM15
set_option linter.unusedSimpArgs false
set_option linter.unusedVariables false
namespace Go.Proofs.YtdhkcdehedbpcaaDoor
open Go Go.RowKit

section
variable {w w' : World} {r f : Nat} {T : List ATok} {o : Int} {s s' : DS} {l : List ANode} {k : Int}

theorem argsL_inv {x : List ANode × Int × DS} (h : dR T f (.argsL l k) o s = some x) : ∃ g, f = g + 1 ∧ l.length ≤ 1000000 ∧ 0 ≤ k ∧ k ≤ 1000000 ∧
  ((s.e = 0 ∧ dIs T s ⟨#[41]⟩ = false ∧ ∃ s1 s2 l1 k1 s3, s1 = (if 0 < k then dWant T s ⟨#[44]⟩ else s) ∧ s2 = (if s1.e = 0 ∧ k = 16 then dBad T s1 3 else s1) ∧ dR T g (.expr 0) o s2 = some (l1, k1, s3) ∧ dR T g (.argsL (l ++ l1) (k + 1)) o s3 = some x ∧ (s3.e = 0 → s.i < s3.i)) ∨ (¬ (s.e = 0 ∧ dIs T s ⟨#[41]⟩ = false) ∧ x = (l, k, s))) := by
 cases f with
 | zero => cases h
 | succ g =>
  unfold dR at h
  obtain ⟨h, h1, h2, h3⟩ := gde h
  refine ⟨g, rfl, h1, h2, h3, ?_⟩
  rcases ite_some h with ⟨hi, h⟩ | ⟨hn, h⟩
  ·obtain ⟨⟨l1, k1, s1⟩, h4, h5⟩ := bnd h
   refine .inl ⟨hi.1, hi.2, _, _, l1, k1, s1, rfl, rfl, h4, h5, fun e => ?_⟩
   have a : Fw s (if 0 < k then dWant T s ⟨#[44]⟩ else s) := by split; exact (fs_want _ _).fw; exact Fw.refl _
   have b := fw_if (T := T) a ((if 0 < k then dWant T s ⟨#[44]⟩ else s).e = 0 ∧ k = 16)
   exact ((b.then ((dR_goes _ _ _ _ _ _ _ h4).fs rfl)).2 e).2
  ·exact .inr ⟨hn, (Option.some.inj h).symm⟩

set_option maxRecDepth 100000 in
set_option maxHeartbeats 8000000 in
theorem args_step (hc : ∀ g, g ≤ f → Con T r g) (h : dR T (f + 1) .args o s = some (l, k, s')) (hr : RdM w r T o s) : Calls Tryd.prog 86 #[.pointer (some ⟨r, 0, none⟩)] w (fun e w' => ∃ a c, e = .returned (.tuple #[.slice a l.length c, .int .i64 k]) ∧ Nd w' w.heap.size (.slice a l.length c) l ∧ RdM w' r T o s' ∧ Kp r w w' ∧ l.length ≤ 1000000 ∧ 0 ≤ k ∧ k ≤ 1000000) := by
 unfold dR at h
 obtain ⟨⟨l1, k1, s1⟩, h1, h2⟩ := bnd h
 obtain ⟨rfl, rfl, rfl⟩ := some3 h2
 simp only at h2 ⊢
 have HC := hid hc
 have HR := hid hr
 have hrl := hr.lt
 have HO := hid (fun (e : s1.e = 0) => (hr.o (((fs_enter (T := T) o s ⟨#[40]⟩).2 ((dR_goes _ _ _ _ _ _ _ h1).fw.2 e)).1)).1)
 have HL := hid h1
 obtain ⟨i1, hi1, hz1, hs1, hy1⟩ := info_parts infoN8
 have I1 := hid (And.intro hi1 (And.intro hz1 (And.intro hs1 hy1)))
 have HEN := hid (denter_any ⟨#[40]⟩ hr)
 generalize dEnter T o s ⟨#[40]⟩ = A at HL HEN
 clear h1 h2 h hc hr hi1 hz1 hs1 hy1
 go_enter Tryd.func86, Tryd.ntmps86
 go_wp2_with (first
  | (go_at_call 68; refine HEN.out.mono ?_; rintro e w2 ⟨rfl, hr2, hk2⟩; have R2 := hid hr2; have K2 := hid hk2; clear hr2 hk2)
  | fail)
 go_loopw [4, 5] (fun v4 v5 wr => ∃ (f' : Nat) (l0 : List ANode) (k0 : Int) (s0 : DS), f' ≤ f ∧ dR T f' (.argsL l0 k0) (o + 1) s0 = some (l, k, s1) ∧ (∃ a c, v4 = .slice a l0.length c) ∧ Nd wr w.heap.size v4 l0 ∧ v5 = .int .i64 k0 ∧ RdM wr r T (o + 1) s0 ∧ Kp r w wr) (fun _ _ wr => rdL T.length wr r)
 case atStart => exact ⟨f, [], 0, A, Nat.le_refl _, HL.out, ⟨none, 0, rfl⟩, Nd.nil _ _, rfl, R2.out, K2.out⟩
 case round =>
  obtain ⟨f', l0, k0, s0, hf, hd, ⟨a4, c4, rfl⟩, hn, rfl, hrd, hkp⟩ := hrel
  have R3 := hid hrd
  have N3 := hid hn
  have K3 := hid hkp
  have HI := hid (dis_any ⟨#[41]⟩ hrd)
  obtain ⟨g, c, q, x⟩ := hrd.x
  have z3 : wr.cell? ⟨r, 3, none⟩ = some (.int .i64 s0.e) := x.b.cell 3
  have zl : r < wr.heap.size := x.b.lt
  obtain ⟨f2, rfl, hl0, hk0, hk1, hcase⟩ := argsL_inv hd
  clear x hn hkp hrd hd
  rcases hcase with ⟨he, hi, t1, t2, l2, k2, s3, ht1, ht2, hst, hnx, hfl⟩ | ⟨hno, hx⟩
  ·have e1 : (s0.e == 0) = true := by simpa using he
   rw [hi] at HI
   have HX := hid (fun w1 (hw : RdM w1 r T (o + 1) t2) => (HC.out f2 (by omega)).expr 0 hst hw)
   unfold DG at HX
   have HNX := hid hnx
   have HFL := hid hfl
   have HE0 := hid he
   have HF := hid hf
   have HW := hid (fun w1 (hw : RdM w1 r T (o + 1) s0) => dwant_any ⟨#[44]⟩ hw)
   have HBD := hid (fun w1 (hw : RdM w1 r T (o + 1) t1) => dbad_any 3 (by decide) hw)
   clear hst hnx hi hf hfl
   by_cases hk : 0 < k0
   ·rw [if_pos hk] at ht1
    rw [← ht1] at HW
    have kk : ¬ k0 = 0 := by omega
    by_cases h1e : t1.e = 0
    ·have e2 : (t1.e == 0) = true := by simpa using h1e
     by_cases h16 : k0 = 16
     ·rw [if_pos ⟨h1e, h16⟩] at ht2
      rw [← ht2] at HBD
      have e3 : (k0 == 16) = true := by simpa using h16
      clear ht1 ht2 h1e h16 he
      go_wp2_with (first
       | (go_at_call 42; refine HI.out.mono ?_; rintro e w4 ⟨rfl, hb4⟩; have B4 := hid hb4; have R4 := hid (R3.out.bw hb4); (obtain ⟨g4, c4', q4, x4⟩ := R4.out.x); have z4 : w4.cell? ⟨r, 3, none⟩ = some (.int .i64 s0.e) := x4.b.cell 3; have zl4 : r < w4.heap.size := x4.b.lt; clear hb4 x4)
       | (go_at_call 48; refine (HW.out _ (R4.out.bw bq)).mono ?_; rintro e w5 ⟨rfl, hr5, hk5⟩; have R5 := hid hr5; have K5 := hid (show Kp r wr w5 from Kp.trans (Kp.of_bw (B4.out.trans bq)) hk5); (obtain ⟨g5, c5, q5, x5⟩ := hr5.x); have z5 : w5.cell? ⟨r, 3, none⟩ = some (.int .i64 t1.e) := x5.b.cell 3; have zl5 : r < w5.heap.size := x5.b.lt; clear hr5 hk5 x5)
       | (go_at_call 69; refine (HBD.out _ (R5.out.bw bq)).mono ?_; rintro e w6 ⟨rfl, hr6, hk6⟩; have R6 := hid hr6; have K6 := hid (show Kp r wr w6 from K5.out.trans (Kp.trans (Kp.of_bw bq) hk6)); clear hr6 hk6)
       | (go_at_call 49; refine (HX.out _ (R6.out.bw bq)).mono ?_; rintro e w7 ⟨a7, c7, rfl, hn7, hr7, hk7, hl7⟩; have N7 := hid hn7; have R7 := hid hr7; have K7 := hid (show Kp r wr w7 from K6.out.trans (Kp.trans (Kp.of_bw bq) hk7)); have L7 := hid hl7; clear hn7 hr7 hk7 hl7)
       | (at_builtin; refine wpList_append_sl (G := fun _ => True) _ rfl _ _ 24 rfl w.heap.size 43 i1 (.agg #[.int .i64 0, .int .i64 0, .string ⟨#[]⟩, .int .i64 0, .int .i64 0]) 5 48 undN8 I1.out.1 I1.out.2.1 I1.out.2.2.1 I1.out.2.2.2 rfl (by decide) (.slice a4 l0.length c4) l0.length (l0.flatMap ndV) rfl (N3.out.kp K7.out hrl) (.slice a7 l2.length c7) l2.length (l2.flatMap ndV) rfl N7.out.sl (nd_one _) (by have := L7.out; unfold maxLen; omega) (by have := L7.out; omega) (Nat.le_trans K3.out.size K7.out.size) ?_; intro v8 w8 ho8 hg8; obtain ⟨a8, c8, rfl⟩ := own_form ho8; have ho8' : Nd w8 w.heap.size (.slice a8 (l0.length + l2.length) c8) (l0 ++ l2) := (by unfold Nd; rw [List.length_append, List.flatMap_append]; exact ho8); have N8 := hid ho8'; have R8 := hid (R7.out.grown (N3.out.kp K7.out hrl) hg8); have K8 := hid ((K3.out.trans K7.out).own (N3.out.kp K7.out hrl) hg8 (Nat.le_refl _)); clear ho8 hg8 ho8')
       | fail)
      case roundEnd =>
       exact ⟨⟨f2, l0 ++ l2, k0 + 1, s3, by have := HF.out; omega, HNX.out, ⟨_, _, by rw [List.length_append]⟩, N8.out, rfl, R8.out, K8.out⟩, left_lt R3.out R8.out HE0.out HFL.out⟩
     ·rw [if_neg (fun h => h16 h.2)] at ht2
      rw [ht2] at HX
      clear ht2
      have e3 : (k0 == 16) = false := by simpa using h16
      clear ht1 h1e h16 he
      go_wp2_with (first
       | (go_at_call 42; refine HI.out.mono ?_; rintro e w4 ⟨rfl, hb4⟩; have B4 := hid hb4; have R4 := hid (R3.out.bw hb4); (obtain ⟨g4, c4', q4, x4⟩ := R4.out.x); have z4 : w4.cell? ⟨r, 3, none⟩ = some (.int .i64 s0.e) := x4.b.cell 3; have zl4 : r < w4.heap.size := x4.b.lt; clear hb4 x4)
       | (go_at_call 48; refine (HW.out _ (R4.out.bw bq)).mono ?_; rintro e w5 ⟨rfl, hr5, hk5⟩; have R5 := hid hr5; have K5 := hid (show Kp r wr w5 from Kp.trans (Kp.of_bw (B4.out.trans bq)) hk5); (obtain ⟨g5, c5, q5, x5⟩ := hr5.x); have z5 : w5.cell? ⟨r, 3, none⟩ = some (.int .i64 t1.e) := x5.b.cell 3; have zl5 : r < w5.heap.size := x5.b.lt; clear hr5 hk5 x5)
       | (go_at_call 49; refine (HX.out _ (R5.out.bw bq)).mono ?_; rintro e w7 ⟨a7, c7, rfl, hn7, hr7, hk7, hl7⟩; have N7 := hid hn7; have R7 := hid hr7; have K7 := hid (show Kp r wr w7 from K5.out.trans (Kp.trans (Kp.of_bw bq) hk7)); have L7 := hid hl7; clear hn7 hr7 hk7 hl7)
       | (at_builtin; refine wpList_append_sl (G := fun _ => True) _ rfl _ _ 24 rfl w.heap.size 43 i1 (.agg #[.int .i64 0, .int .i64 0, .string ⟨#[]⟩, .int .i64 0, .int .i64 0]) 5 48 undN8 I1.out.1 I1.out.2.1 I1.out.2.2.1 I1.out.2.2.2 rfl (by decide) (.slice a4 l0.length c4) l0.length (l0.flatMap ndV) rfl (N3.out.kp K7.out hrl) (.slice a7 l2.length c7) l2.length (l2.flatMap ndV) rfl N7.out.sl (nd_one _) (by have := L7.out; unfold maxLen; omega) (by have := L7.out; omega) (Nat.le_trans K3.out.size K7.out.size) ?_; intro v8 w8 ho8 hg8; obtain ⟨a8, c8, rfl⟩ := own_form ho8; have ho8' : Nd w8 w.heap.size (.slice a8 (l0.length + l2.length) c8) (l0 ++ l2) := (by unfold Nd; rw [List.length_append, List.flatMap_append]; exact ho8); have N8 := hid ho8'; have R8 := hid (R7.out.grown (N3.out.kp K7.out hrl) hg8); have K8 := hid ((K3.out.trans K7.out).own (N3.out.kp K7.out hrl) hg8 (Nat.le_refl _)); clear ho8 hg8 ho8')
       | fail)
      case roundEnd =>
       exact ⟨⟨f2, l0 ++ l2, k0 + 1, s3, by have := HF.out; omega, HNX.out, ⟨_, _, by rw [List.length_append]⟩, N8.out, rfl, R8.out, K8.out⟩, left_lt R3.out R8.out HE0.out HFL.out⟩
    ·have e2 : (t1.e == 0) = false := by simpa using h1e
     rw [if_neg (fun h => h1e h.1)] at ht2
     rw [ht2] at HX
     clear ht2
     clear ht1 h1e he
     go_wp2_with (first
      | (go_at_call 42; refine HI.out.mono ?_; rintro e w4 ⟨rfl, hb4⟩; have B4 := hid hb4; have R4 := hid (R3.out.bw hb4); (obtain ⟨g4, c4', q4, x4⟩ := R4.out.x); have z4 : w4.cell? ⟨r, 3, none⟩ = some (.int .i64 s0.e) := x4.b.cell 3; have zl4 : r < w4.heap.size := x4.b.lt; clear hb4 x4)
      | (go_at_call 48; refine (HW.out _ (R4.out.bw bq)).mono ?_; rintro e w5 ⟨rfl, hr5, hk5⟩; have R5 := hid hr5; have K5 := hid (show Kp r wr w5 from Kp.trans (Kp.of_bw (B4.out.trans bq)) hk5); (obtain ⟨g5, c5, q5, x5⟩ := hr5.x); have z5 : w5.cell? ⟨r, 3, none⟩ = some (.int .i64 t1.e) := x5.b.cell 3; have zl5 : r < w5.heap.size := x5.b.lt; clear hr5 hk5 x5)
      | (go_at_call 49; refine (HX.out _ (R5.out.bw bq)).mono ?_; rintro e w7 ⟨a7, c7, rfl, hn7, hr7, hk7, hl7⟩; have N7 := hid hn7; have R7 := hid hr7; have K7 := hid (show Kp r wr w7 from K5.out.trans (Kp.trans (Kp.of_bw bq) hk7)); have L7 := hid hl7; clear hn7 hr7 hk7 hl7)
      | (at_builtin; refine wpList_append_sl (G := fun _ => True) _ rfl _ _ 24 rfl w.heap.size 43 i1 (.agg #[.int .i64 0, .int .i64 0, .string ⟨#[]⟩, .int .i64 0, .int .i64 0]) 5 48 undN8 I1.out.1 I1.out.2.1 I1.out.2.2.1 I1.out.2.2.2 rfl (by decide) (.slice a4 l0.length c4) l0.length (l0.flatMap ndV) rfl (N3.out.kp K7.out hrl) (.slice a7 l2.length c7) l2.length (l2.flatMap ndV) rfl N7.out.sl (nd_one _) (by have := L7.out; unfold maxLen; omega) (by have := L7.out; omega) (Nat.le_trans K3.out.size K7.out.size) ?_; intro v8 w8 ho8 hg8; obtain ⟨a8, c8, rfl⟩ := own_form ho8; have ho8' : Nd w8 w.heap.size (.slice a8 (l0.length + l2.length) c8) (l0 ++ l2) := (by unfold Nd; rw [List.length_append, List.flatMap_append]; exact ho8); have N8 := hid ho8'; have R8 := hid (R7.out.grown (N3.out.kp K7.out hrl) hg8); have K8 := hid ((K3.out.trans K7.out).own (N3.out.kp K7.out hrl) hg8 (Nat.le_refl _)); clear ho8 hg8 ho8')
      | fail)
     case roundEnd =>
      exact ⟨⟨f2, l0 ++ l2, k0 + 1, s3, by have := HF.out; omega, HNX.out, ⟨_, _, by rw [List.length_append]⟩, N8.out, rfl, R8.out, K8.out⟩, left_lt R3.out R8.out HE0.out HFL.out⟩
   ·rw [if_neg hk] at ht1
    obtain rfl : k0 = 0 := by omega
    rw [if_neg (by omega)] at ht2
    rw [ht2, ht1] at HX
    clear hk he ht1 ht2 HBD
    go_wp2_with (first
     | (go_at_call 42; refine HI.out.mono ?_; rintro e w4 ⟨rfl, hb4⟩; have B4 := hid hb4; have R4 := hid (R3.out.bw hb4); (obtain ⟨g4, c4', q4, x4⟩ := R4.out.x); have z4 : w4.cell? ⟨r, 3, none⟩ = some (.int .i64 s0.e) := x4.b.cell 3; have zl4 : r < w4.heap.size := x4.b.lt; clear hb4 x4)
     | (go_at_call 49; refine (HX.out _ (R4.out.bw bq)).mono ?_; rintro e w7 ⟨a7, c7, rfl, hn7, hr7, hk7, hl7⟩; have N7 := hid hn7; have R7 := hid hr7; have K7 := hid (show Kp r wr w7 from Kp.trans (Kp.of_bw (B4.out.trans bq)) hk7); have L7 := hid hl7; clear hn7 hr7 hk7 hl7)
     | (at_builtin; refine wpList_append_sl (G := fun _ => True) _ rfl _ _ 24 rfl w.heap.size 43 i1 (.agg #[.int .i64 0, .int .i64 0, .string ⟨#[]⟩, .int .i64 0, .int .i64 0]) 5 48 undN8 I1.out.1 I1.out.2.1 I1.out.2.2.1 I1.out.2.2.2 rfl (by decide) (.slice a4 l0.length c4) l0.length (l0.flatMap ndV) rfl (N3.out.kp K7.out hrl) (.slice a7 l2.length c7) l2.length (l2.flatMap ndV) rfl N7.out.sl (nd_one _) (by have := L7.out; unfold maxLen; omega) (by have := L7.out; omega) (Nat.le_trans K3.out.size K7.out.size) ?_; intro v8 w8 ho8 hg8; obtain ⟨a8, c8, rfl⟩ := own_form ho8; have ho8' : Nd w8 w.heap.size (.slice a8 (l0.length + l2.length) c8) (l0 ++ l2) := (by unfold Nd; rw [List.length_append, List.flatMap_append]; exact ho8); have N8 := hid ho8'; have R8 := hid (R7.out.grown (N3.out.kp K7.out hrl) hg8); have K8 := hid ((K3.out.trans K7.out).own (N3.out.kp K7.out hrl) hg8 (Nat.le_refl _)); clear ho8 hg8 ho8')
     | fail)
    case roundEnd =>
     exact ⟨⟨f2, l0 ++ l2, 0 + 1, s3, by have := HF.out; omega, HNX.out, ⟨_, _, by rw [List.length_append]⟩, N8.out, rfl, R8.out, K8.out⟩, left_lt R3.out R8.out HE0.out HFL.out⟩
  ·obtain ⟨rfl, rfl, rfl⟩ : l0 = l ∧ k0 = k ∧ s0 = s1 := by simp only [Prod.mk.injEq] at hx; exact ⟨hx.1.symm, hx.2.1.symm, hx.2.2.symm⟩
   have HW := hid (fun w1 (hw : RdM w1 r T (o + 1) s0) => dwant_any ⟨#[41]⟩ hw)
   have HOW := hid (fun (e : (dWant T s0 ⟨#[41]⟩).e = 0) => HO.out ((fs_want (T := T) s0 ⟨#[41]⟩).2 e).1)
   obtain ⟨W, hW⟩ : ∃ W, dWant T s0 ⟨#[41]⟩ = W := ⟨_, rfl⟩
   rw [hW] at HW HOW
   have HWE := hid hW
   have HLB := hid (And.intro hl0 (And.intro hk0 hk1))
   clear hf hx HL hW hl0 hk0 hk1
   by_cases he : s0.e = 0
   ·have e1 : (s0.e == 0) = true := by simpa using he
    have hi : dIs T s0 ⟨#[41]⟩ = true := by
     cases hq : dIs T s0 ⟨#[41]⟩
     ·exact absurd ⟨he, hq⟩ hno
     ·rfl
    rw [hi] at HI
    clear hi he hno
    go_wp2_with (first
     | (go_at_call 42; refine HI.out.mono ?_; rintro e w4 ⟨rfl, hb4⟩; have B4 := hid hb4; have R4 := hid (R3.out.bw hb4); (obtain ⟨g4, c4', q4, x4⟩ := R4.out.x); have z4 : w4.cell? ⟨r, 3, none⟩ = some (.int .i64 s0.e) := x4.b.cell 3; have zl4 : r < w4.heap.size := x4.b.lt; clear hb4 x4)
     | (go_at_call 48; refine (HW.out _ (R4.out.bw bq)).mono ?_; rintro e w6 ⟨rfl, hr6, hk6⟩; have R6 := hid hr6; have K6 := hid (show Kp r wr w6 from Kp.trans (Kp.of_bw (B4.out.trans bq)) hk6); have N6 := hid (N3.out.kp K6.out hrl); (obtain ⟨q6, u0, u1, u2, HQ6⟩ := RdM.off hr6 HOW.out); have H6 := hid HQ6; clear hr6 hk6 HQ6)
     | fail)
    all_goals go_ret2
    all_goals exact ⟨_, _, rfl, N6.out.kp ((Kp.refl r w6).set 2 _) hrl, by rw [HWE.out]; exact H6.out, ((K3.out.trans K6.out).set 2 _), HLB.out⟩
   ·have e1 : (s0.e == 0) = false := by simpa using he
    clear he hno HI
    go_wp2_with (first
     | (go_at_call 48; refine (HW.out _ (R3.out.bw bq)).mono ?_; rintro e w6 ⟨rfl, hr6, hk6⟩; have R6 := hid hr6; have K6 := hid (show Kp r wr w6 from Kp.trans (Kp.of_bw bq) hk6); have N6 := hid (N3.out.kp K6.out hrl); (obtain ⟨q6, u0, u1, u2, HQ6⟩ := RdM.off hr6 HOW.out); have H6 := hid HQ6; clear hr6 hk6 HQ6)
     | fail)
    all_goals go_ret2
    all_goals exact ⟨_, _, rfl, N6.out.kp ((Kp.refl r w6).set 2 _) hrl, by rw [HWE.out]; exact H6.out, ((K3.out.trans K6.out).set 2 _), HLB.out⟩

end

end Go.Proofs.YtdhkcdehedbpcaaDoor

namespace Go.Proofs.YtdhkcdehedbpcaaDoor
open Go Go.RowKit

@[go_sem] def oDfu0 : Oper := { dst := some 24, op := Op.move (Operand.tmp 0), type := 66, pos := "ref.go:123", after := #[], guard := none }
@[go_sem] def oDfu1 : Oper := { dst := some 25, op := Op.nilCheck (Operand.tmp 24), type := 0, pos := "ref.go:123", after := #[{ on := 0, ground := Ground.data }], guard := none }
@[go_sem] def oDfu2 : Oper := { dst := some 26, op := Op.fieldAddr 68 (Operand.tmp 25) 3, type := 0, pos := "ref.go:123", after := #[{ on := 1, ground := Ground.data }], guard := none }
@[go_sem] def oDfu3 : Oper := { dst := some 27, op := Op.load 3 (Operand.tmp 26), type := 3, pos := "ref.go:123", after := #[{ on := 2, ground := Ground.data }], guard := none }
@[go_sem] def oDfu4 : Oper := { dst := some 28, op := Op.binOp BinOp.eql 3 (Operand.tmp 27) (Operand.const (Value.int IntKind.i64 0)) 3, type := 4, pos := "ref.go:123", after := #[{ on := 3, ground := Ground.data }], guard := none }
@[go_sem] def oDfu5 : Oper := { dst := some 29, op := Op.move (Operand.tmp 28), type := 4, pos := "ref.go:123", after := #[{ on := 4, ground := Ground.data }], guard := none }
@[go_sem] def oDfu6 : Oper := { dst := some 30, op := Op.move (Operand.tmp 6), type := 3, pos := "ref.go:123", after := #[{ on := 5, ground := Ground.guard }], guard := some (5, true) }
@[go_sem] def oDfu7 : Oper := { dst := some 31, op := Op.binOp BinOp.eql 3 (Operand.tmp 30) (Operand.const (Value.int IntKind.i64 16)) 3, type := 4, pos := "ref.go:123", after := #[{ on := 6, ground := Ground.data }, { on := 5, ground := Ground.guard }], guard := some (5, true) }
@[go_sem] def oDfu8 : Oper := { dst := some 32, op := Op.pick (Operand.tmp 29) (Operand.tmp 31) (Operand.const (Value.bool false)), type := 4, pos := "ref.go:123", after := #[{ on := 5, ground := Ground.data }, { on := 7, ground := Ground.data }], guard := none }
@[go_sem] def oDfu9 : Oper := { dst := some 33, op := Op.move (Operand.tmp 32), type := 4, pos := "ref.go:123", after := #[{ on := 8, ground := Ground.data }, { on := 5, ground := Ground.chain }], guard := none }
@[go_sem] def oDfu10 : Oper := { dst := some 34, op := Op.move (Operand.tmp 0), type := 66, pos := "ref.go:123", after := #[{ on := 9, ground := Ground.guard }], guard := some (9, true) }
@[go_sem] def oDfu11 : Oper := { dst := some 35, op := Op.nilCheck (Operand.tmp 34), type := 0, pos := "ref.go:123", after := #[{ on := 10, ground := Ground.data }, { on := 9, ground := Ground.guard }], guard := some (9, true) }
@[go_sem] def oDfu12 : Oper := { dst := some 36, op := Op.fieldAddr 68 (Operand.tmp 35) 0, type := 0, pos := "ref.go:123", after := #[{ on := 11, ground := Ground.data }, { on := 9, ground := Ground.guard }], guard := some (9, true) }
@[go_sem] def oDfu13 : Oper := { dst := some 37, op := Op.load 63 (Operand.tmp 36), type := 63, pos := "ref.go:123", after := #[{ on := 12, ground := Ground.data }, { on := 9, ground := Ground.guard }], guard := some (9, true) }
@[go_sem] def oDfu14 : Oper := { dst := some 38, op := Op.move (Operand.tmp 0), type := 66, pos := "ref.go:123", after := #[{ on := 9, ground := Ground.guard }], guard := some (9, true) }
@[go_sem] def oDfu15 : Oper := { dst := some 39, op := Op.nilCheck (Operand.tmp 38), type := 0, pos := "ref.go:123", after := #[{ on := 14, ground := Ground.data }, { on := 9, ground := Ground.guard }], guard := some (9, true) }
@[go_sem] def oDfu16 : Oper := { dst := some 40, op := Op.fieldAddr 68 (Operand.tmp 39) 1, type := 0, pos := "ref.go:123", after := #[{ on := 15, ground := Ground.data }, { on := 9, ground := Ground.guard }], guard := some (9, true) }
@[go_sem] def oDfu17 : Oper := { dst := some 41, op := Op.load 3 (Operand.tmp 40), type := 3, pos := "ref.go:123", after := #[{ on := 16, ground := Ground.data }, { on := 9, ground := Ground.guard }], guard := some (9, true) }
@[go_sem] def oDfu18 : Oper := { dst := some 42, op := Op.indexAddr 63 (Operand.tmp 37) (Operand.tmp 41), type := 0, pos := "ref.go:123", after := #[{ on := 13, ground := Ground.data }, { on := 17, ground := Ground.data }, { on := 9, ground := Ground.guard }], guard := some (9, true) }
@[go_sem] def oDfu19 : Oper := { dst := some 43, op := Op.fieldAddr 70 (Operand.tmp 42) 0, type := 0, pos := "ref.go:123", after := #[{ on := 18, ground := Ground.data }, { on := 9, ground := Ground.guard }], guard := some (9, true) }
@[go_sem] def oDfu20 : Oper := { dst := some 44, op := Op.load 3 (Operand.tmp 43), type := 3, pos := "ref.go:123", after := #[{ on := 19, ground := Ground.data }, { on := 9, ground := Ground.guard }], guard := some (9, true) }
@[go_sem] def oDfu21 : Oper := { dst := some 45, op := Op.binOp BinOp.eql 3 (Operand.tmp 44) (Operand.const (Value.int IntKind.i64 1)) 3, type := 4, pos := "ref.go:123", after := #[{ on := 20, ground := Ground.data }, { on := 9, ground := Ground.guard }], guard := some (9, true) }
@[go_sem] def oDfu22 : Oper := { dst := some 46, op := Op.pick (Operand.tmp 33) (Operand.tmp 45) (Operand.const (Value.bool false)), type := 4, pos := "ref.go:123", after := #[{ on := 9, ground := Ground.data }, { on := 21, ground := Ground.data }], guard := none }

section
variable {w w' : World} {r f : Nat} {T : List ATok} {o : Int} {s s' : DS} {l : List ANode} {k : Int}

theorem sl_new8 (w : World) (cs : List Value) (e : TypeId) (n size : Nat) (h : cs.length = n * size) : Sl (w.alloc (.cells cs.toArray e)) (fun _ => True) (.slice (some ⟨w.heap.size, 0, none⟩) n n) n size cs := by
 refine ⟨h, _, n, rfl, ⟨Nat.le_refl _, fun k => by cases k⟩, .inr ⟨w.heap.size, 0, rfl, by simp, trivial, fun i hi => ?_⟩⟩
 have hb : Blk (w.alloc (.cells cs.toArray e)) w.heap.size cs.toArray e := Blk.new w _ _
 rw [Nat.zero_add, hb.cell]
 simp

theorem funcL_inv {x : List ANode × Int × DS} (h : dR T f (.funcL l k) o s = some x) : ∃ g, f = g + 1 ∧ l.length ≤ 1000000 ∧ 0 ≤ k ∧ k ≤ 1000000 ∧
  ((s.e = 0 ∧ dIs T s ⟨#[41]⟩ = false ∧ ∃ s1 s2, s1 = (if 0 < k then dWant T s ⟨#[44]⟩ else s) ∧ s2 = (if s1.e = 0 ∧ k = 16 ∧ (dtk T s1.i).1 = 1 then dBad T s1 3 else s1) ∧ dR T g (.funcL (l ++ [(19, 0, dNameT T s2, 0, dAt T s2)]) (k + 1)) o (dNameS T s2) = some x ∧ ((dNameS T s2).e = 0 → s.i < (dNameS T s2).i)) ∨ (¬ (s.e = 0 ∧ dIs T s ⟨#[41]⟩ = false) ∧ x = (l, k, s))) := by
 cases f with
 | zero => cases h
 | succ g =>
  unfold dR at h
  obtain ⟨h, h1, h2, h3⟩ := gde h
  refine ⟨g, rfl, h1, h2, h3, ?_⟩
  rcases ite_some h with ⟨hi, h⟩ | ⟨hn, h⟩
  ·have a : Fw s (if 0 < k then dWant T s ⟨#[44]⟩ else s) := by split; exact (fs_want _ _).fw; exact Fw.refl _
   have b := fw_if (T := T) a ((if 0 < k then dWant T s ⟨#[44]⟩ else s).e = 0 ∧ k = 16 ∧ (dtk T (if 0 < k then dWant T s ⟨#[44]⟩ else s).i).1 = 1)
   exact .inl ⟨hi.1, hi.2, _, _, rfl, rfl, h, fun e => ((b.then (fs_name _)).2 e).2⟩
  ·exact .inr ⟨hn, (Option.some.inj h).symm⟩

set_option maxRecDepth 100000 in
set_option maxHeartbeats 8000000 in
theorem func_step (hc : ∀ g, g ≤ f → Con T r g) (n : ANode) (h : dR T (f + 1) (.func n) o s = some (l, k, s')) (hr : RdM w r T o s) : Calls Tryd.prog 46 #[.pointer (some ⟨r, 0, none⟩), nodeV n] w (DG w r T o l s') := by
 unfold dR at h
 obtain ⟨⟨l1, k1, s1⟩, h1, h⟩ := bnd h
 obtain ⟨⟨lb, kb, sb⟩, hbk, h2⟩ := bnd h
 simp only at h1 hbk h2
 obtain ⟨rfl, rfl, hlen⟩ := rete3 h2
 obtain ⟨n0, n1, n2, n3, n4⟩ := n
 simp only [nodeV] at hlen ⊢
 obtain ⟨u, hu⟩ : ∃ u, strOfNums n2 = u := ⟨_, rfl⟩
 rw [hu]
 have HU := hid hu
 have HLJ := hid hlen
 have HC := hid hc
 have HR := hid hr
 have HBK := hid (fun w1 (hw : RdM w1 r T o (dWant T s1 ⟨#[41]⟩)) => (hc f (Nat.le_refl _)).block hbk hw)
 have hr0 := hr.lt
 have HO := hid (fun (e : s1.e = 0) => (hr.o (((fs_enter (T := T) o s ⟨#[40]⟩).2 ((dR_goes _ _ _ _ _ _ _ h1).fw.2 e)).1)).1)
 have HL := hid h1
 obtain ⟨i1, hi1, hz1, hs1, hy1⟩ := info_parts infoN8
 have I1 := hid (And.intro hi1 (And.intro hz1 (And.intro hs1 hy1)))
 have HEN := hid (fun w1 (hw : RdM w1 r T o s) => denter_any ⟨#[40]⟩ hw)
 unfold DG at HBK ⊢
 generalize dEnter T o s ⟨#[40]⟩ = A at HL HEN
 clear h1 h2 h hc hr hi1 hz1 hs1 hy1 hu hlen hbk
 go_enter Tryd.func46, Tryd.ntmps46
 go_wp2_with (first
  | (go_at_call 68; refine (HEN.out _ (HR.out.bw bq)).mono ?_; rintro e w2 ⟨rfl, hr2, hk2⟩; have R2 := hid hr2; have P2 := hid (show Blk w2 w.heap.size #[.int .i64 n0, .int .i64 n1, .string u, .int .i64 n3, .int .i64 n4] 43 from (Blk.new w _ _).kp hk2 (by omega)); have K2 := hid (show Kp r w w2 from Kp.trans (Kp.of_bw bq) hk2); have hrl : r < w2.heap.size := hr2.lt; clear hr2 hk2)
  | fail)
 go_loopw [5, 6] (fun v4 v5 wr => ∃ (f' : Nat) (l0 : List ANode) (k0 : Int) (s0 : DS), f' ≤ f ∧ dR T f' (.funcL l0 k0) (o + 1) s0 = some (l1, k1, s1) ∧ (∃ a c, v4 = .slice a l0.length c) ∧ Nd wr w2.heap.size v4 l0 ∧ v5 = .int .i64 k0 ∧ RdM wr r T (o + 1) s0 ∧ Kp r w2 wr) (fun _ _ wr => rdL T.length wr r)
 case atStart => exact ⟨f, [], 0, A, Nat.le_refl _, HL.out, ⟨none, 0, rfl⟩, Nd.nil _ _, rfl, R2.out, Kp.refl _ _⟩
 case round =>
  obtain ⟨f', l0, k0, s0, hf, hd, ⟨a4, c4, rfl⟩, hn, rfl, hrd, hkp⟩ := hrel
  have R3 := hid hrd
  have N3 := hid hn
  have K3 := hid hkp
  have HI := hid (dis_any ⟨#[41]⟩ hrd)
  obtain ⟨g, c, q, x⟩ := hrd.x
  have z3 : wr.cell? ⟨r, 3, none⟩ = some (.int .i64 s0.e) := x.b.cell 3
  have zl : r < wr.heap.size := x.b.lt
  obtain ⟨f2, rfl, hl0, hk0, hk1, hcase⟩ := funcL_inv hd
  clear x hn hkp hrd hd
  rcases hcase with ⟨he, hi, t1, t2, ht1, ht2, hnx, hfl⟩ | ⟨hno, hx⟩
  ·have e1 : (s0.e == 0) = true := by simpa using he
   rw [hi] at HI
   have HE0 := hid he
   have HF := hid hf
   have HW := hid (fun w1 (hw : RdM w1 r T (o + 1) s0) => dwant_any ⟨#[44]⟩ hw)
   have HBD := hid (fun w1 (hw : RdM w1 r T (o + 1) t1) => dbad_any 3 (by decide) hw)
   have HAT := hid (fun w1 (hw : RdM w1 r T (o + 1) t2) => dat_any hw)
   have HNM := hid (fun w1 (hw : RdM w1 r T (o + 1) t2) => dname_any hw)
   obtain ⟨u1, hu1⟩ : ∃ u1, strOfNums (dNameT T t2) = u1 := ⟨_, rfl⟩
   obtain ⟨nd1, hnd⟩ : ∃ nd1 : ANode, (19, 0, dNameT T t2, 0, dAt T t2) = nd1 := ⟨_, rfl⟩
   have hsn := fun (w1 : World) => sl_new8 w1 [.int .i64 19, .int .i64 0, .string u1, .int .i64 0, .int .i64 (dAt T t2)] 43 1 5 rfl
   have hnv : [nd1].flatMap ndV = [.int .i64 19, .int .i64 0, .string u1, .int .i64 0, .int .i64 (dAt T t2)] := by rw [← hnd, ← hu1]; rfl
   rw [← hnv] at hsn
   rw [hnv] at hsn
   have SLN := hid (fun (w1 : World) => (show Sl (w1.alloc (.cells #[.int .i64 19, .int .i64 0, .string u1, .int .i64 0, .int .i64 (dAt T t2)] 43)) (fun _ => True) (.slice (some ⟨w1.heap.size, 0, none⟩) 1 1) 1 5 ([nd1].flatMap ndV) from hnv ▸ hsn w1))
   rw [hnd] at hnx
   rw [hu1] at HNM
   generalize dAt T t2 = p1 at HAT SLN
   generalize dNameS T t2 = D1 at HNM hnx hfl
   have HNX := hid hnx
   have HFL := hid hfl
   clear hnx hi hf hfl hu1 hnd hsn hnv
   by_cases hk : 0 < k0
   ·rw [if_pos hk] at ht1
    rw [← ht1] at HW
    have kk : ¬ k0 = 0 := by omega
    by_cases h1e : t1.e = 0
    ·have e2 : (t1.e == 0) = true := by simpa using h1e
     by_cases h16 : k0 = 16
     ·have e3 : (k0 == 16) = true := by simpa using h16
      by_cases hkd : (dtk T t1.i).1 = 1
      ·rw [if_pos ⟨h1e, h16, hkd⟩] at ht2
       rw [← ht2] at HBD
       have e4 : ((dtk T t1.i).1 == 1) = true := by simpa using hkd
       clear ht1 ht2 h1e h16 he hkd
       go_wp2_with (first
        | (go_at_call 42; refine HI.out.mono ?_; rintro e w4 ⟨rfl, hb4⟩; have B4 := hid hb4; have R4 := hid (R3.out.bw hb4); (obtain ⟨g4, c4', q4, x4⟩ := R4.out.x); have z4 : w4.cell? ⟨r, 3, none⟩ = some (.int .i64 s0.e) := x4.b.cell 3; have zl4 : r < w4.heap.size := x4.b.lt; clear hb4 x4)
        | (go_at_call 48; (fail_if_success (have _g := m5)); have m5 := hid trivial; refine (HW.out _ (R4.out.bw bq)).mono ?_; rintro e w5 ⟨rfl, hr5, hk5⟩; have R5 := hid hr5; have K5 := hid (show Kp r wr w5 from Kp.trans (Kp.of_bw (B4.out.trans bq)) hk5); (obtain ⟨g5, c5, q5, x5⟩ := hr5.x); have z5 : w5.cell? ⟨r, 3, none⟩ = some (.int .i64 t1.e) := x5.b.cell 3; have zl5 : r < w5.heap.size := x5.b.lt; clear hr5 hk5 x5)
        | fail)
       obtain ⟨gx, cx, qx, xx⟩ := R5.out.x
       have gl := xx.gl
       have hti := R5.out.i
       have hti2 : (t1.i : Int) < (T.length : Int) := by omega
       have v3 := xx.b.cell 3
       have v0 := xx.b.cell 0
       have v1 := xx.b.cell 1
       have vk := xx.c0 t1.i hti
       generalize hkn : (dtk T t1.i).1 = kn at *
       simp only [List.getElem?_toArray, List.getElem?_cons_zero, List.getElem?_cons_succ] at v0 v1 v3
       have rlx := xx.b.lt
       clear xx hkn
       refine wp_region_W (fun w' => w'.cell? ⟨r, 3, none⟩ = some (.int .i64 t1.e) ∧ w'.cell? ⟨r, 0, none⟩ = some (.slice (some ⟨gx, 0, none⟩) T.length cx) ∧ w'.cell? ⟨r, 1, none⟩ = some (.int .i64 t1.i) ∧ w'.cell? ⟨gx, t1.i * 4, none⟩ = some (.int .i64 kn)) (fun j => 1) (by kernel_rfl) ?_
       refine tkW (i := 0) (oi := oDfu0) (v := ?_) rfl (Or.inl ⟨by rfl, fun w _ => ?_⟩) ?_
       rotate_left
       ·(go_simp; first | done | with_reducible rfl)
       try simp only [oDfu0, Act.put, sqA, sqZ, sqS]
       refine tkW (i := 1) (oi := oDfu1) (v := ?_) rfl (Or.inl ⟨by rfl, fun w _ => ?_⟩) ?_
       rotate_left
       ·(go_simp; first | done | with_reducible rfl)
       try simp only [oDfu1, Act.put, sqA, sqZ, sqS]
       refine tkW (i := 2) (oi := oDfu2) (v := ?_) rfl (Or.inl ⟨by rfl, fun w _ => ?_⟩) ?_
       rotate_left
       ·(go_simp; first | done | with_reducible rfl)
       try simp only [oDfu2, Act.put, sqA, sqZ, sqS]
       refine ldW (i := 3) (oi := oDfu3) (v := ?_) rfl (Or.inl ⟨by rfl, fun w hS => ?_⟩) ⟨v3, v0, v1, vk⟩ ?_
       rotate_left
       ·(obtain ⟨s1_, s2_, s3_, s4_⟩ := hS; go_simp; first | done | with_reducible rfl)
       try simp only [oDfu3, Act.put, sqA, sqZ, sqS]
       refine tkW (i := 4) (oi := oDfu4) (v := ?_) rfl (Or.inl ⟨by rfl, fun w _ => ?_⟩) ?_
       rotate_left
       ·(go_simp; first | done | with_reducible rfl)
       try simp only [oDfu4, Act.put, sqA, sqZ, sqS]
       try rw [e2]
       refine tkW (i := 5) (oi := oDfu5) (v := ?_) rfl (Or.inl ⟨by rfl, fun w _ => ?_⟩) ?_
       rotate_left
       ·(go_simp; first | done | with_reducible rfl)
       try simp only [oDfu5, Act.put, sqA, sqZ, sqS]
       refine tkW (i := 6) (oi := oDfu6) (v := ?_) rfl (Or.inl ⟨by rfl, fun w _ => ?_⟩) ?_
       rotate_left
       ·(go_simp; first | done | with_reducible rfl)
       try simp only [oDfu6, Act.put, sqA, sqZ, sqS]
       refine tkW (i := 7) (oi := oDfu7) (v := ?_) rfl (Or.inl ⟨by rfl, fun w _ => ?_⟩) ?_
       rotate_left
       ·(go_simp; first | done | with_reducible rfl)
       try simp only [oDfu7, Act.put, sqA, sqZ, sqS]
       try rw [e3]
       refine tkW (i := 8) (oi := oDfu8) (v := ?_) rfl (Or.inl ⟨by rfl, fun w _ => ?_⟩) ?_
       rotate_left
       ·(go_simp; first | done | with_reducible rfl)
       try simp only [oDfu8, Act.put, sqA, sqZ, sqS]
       refine tkW (i := 9) (oi := oDfu9) (v := ?_) rfl (Or.inl ⟨by rfl, fun w _ => ?_⟩) ?_
       rotate_left
       ·(go_simp; first | done | with_reducible rfl)
       try simp only [oDfu9, Act.put, sqA, sqZ, sqS]
       refine tkW (i := 10) (oi := oDfu10) (v := ?_) rfl (Or.inl ⟨by rfl, fun w _ => ?_⟩) ?_
       rotate_left
       ·(go_simp; first | done | with_reducible rfl)
       try simp only [oDfu10, Act.put, sqA, sqZ, sqS]
       refine tkW (i := 11) (oi := oDfu11) (v := ?_) rfl (Or.inl ⟨by rfl, fun w _ => ?_⟩) ?_
       rotate_left
       ·(go_simp; first | done | with_reducible rfl)
       try simp only [oDfu11, Act.put, sqA, sqZ, sqS]
       refine tkW (i := 12) (oi := oDfu12) (v := ?_) rfl (Or.inl ⟨by rfl, fun w _ => ?_⟩) ?_
       rotate_left
       ·(go_simp; first | done | with_reducible rfl)
       try simp only [oDfu12, Act.put, sqA, sqZ, sqS]
       refine ldW (i := 13) (oi := oDfu13) (v := ?_) rfl (Or.inl ⟨by rfl, fun w hS => ?_⟩) ⟨v3, v0, v1, vk⟩ ?_
       rotate_left
       ·(obtain ⟨s1_, s2_, s3_, s4_⟩ := hS; go_simp; first | done | with_reducible rfl)
       try simp only [oDfu13, Act.put, sqA, sqZ, sqS]
       refine tkW (i := 14) (oi := oDfu14) (v := ?_) rfl (Or.inl ⟨by rfl, fun w _ => ?_⟩) ?_
       rotate_left
       ·(go_simp; first | done | with_reducible rfl)
       try simp only [oDfu14, Act.put, sqA, sqZ, sqS]
       refine tkW (i := 15) (oi := oDfu15) (v := ?_) rfl (Or.inl ⟨by rfl, fun w _ => ?_⟩) ?_
       rotate_left
       ·(go_simp; first | done | with_reducible rfl)
       try simp only [oDfu15, Act.put, sqA, sqZ, sqS]
       refine tkW (i := 16) (oi := oDfu16) (v := ?_) rfl (Or.inl ⟨by rfl, fun w _ => ?_⟩) ?_
       rotate_left
       ·(go_simp; first | done | with_reducible rfl)
       try simp only [oDfu16, Act.put, sqA, sqZ, sqS]
       refine ldW (i := 17) (oi := oDfu17) (v := ?_) rfl (Or.inl ⟨by rfl, fun w hS => ?_⟩) ⟨v3, v0, v1, vk⟩ ?_
       rotate_left
       ·(obtain ⟨s1_, s2_, s3_, s4_⟩ := hS; go_simp; first | done | with_reducible rfl)
       try simp only [oDfu17, Act.put, sqA, sqZ, sqS]
       refine tkW (i := 18) (oi := oDfu18) (v := ?_) rfl (Or.inl ⟨by rfl, fun w _ => ?_⟩) ?_
       rotate_left
       ·(go_simp; first | done | with_reducible rfl)
       try simp only [oDfu18, Act.put, sqA, sqZ, sqS]
       refine tkW (i := 19) (oi := oDfu19) (v := ?_) rfl (Or.inl ⟨by rfl, fun w _ => ?_⟩) ?_
       rotate_left
       ·(go_simp; first | done | with_reducible rfl)
       try simp only [oDfu19, Act.put, sqA, sqZ, sqS]
       refine ldW (i := 20) (oi := oDfu20) (v := ?_) rfl (Or.inl ⟨by rfl, fun w hS => ?_⟩) ⟨v3, v0, v1, vk⟩ ?_
       rotate_left
       ·(obtain ⟨s1_, s2_, s3_, s4_⟩ := hS; go_simp; first | done | with_reducible rfl)
       try simp only [oDfu20, Act.put, sqA, sqZ, sqS]
       refine tkW (i := 21) (oi := oDfu21) (v := ?_) rfl (Or.inl ⟨by rfl, fun w _ => ?_⟩) ?_
       rotate_left
       ·(go_simp; first | done | with_reducible rfl)
       try simp only [oDfu21, Act.put, sqA, sqZ, sqS]
       try rw [e4]
       refine tkW (i := 22) (oi := oDfu22) (v := ?_) rfl (Or.inl ⟨by rfl, fun w _ => ?_⟩) ?_
       rotate_left
       ·(go_simp; first | done | with_reducible rfl)
       try simp only [oDfu22, Act.put, sqA, sqZ, sqS]
       refine wpAnyW_done (by kernel_rfl) ?_ _
       all_goals go_wp2_with (first
        | (go_at_call 69; refine (HBD.out _ (R5.out.bw bq)).mono ?_; rintro e w6 ⟨rfl, hr6, hk6⟩; have R6 := hid hr6; have K6 := hid (show Kp r wr w6 from K5.out.trans (Kp.trans (Kp.of_bw bq) hk6)); clear hr6 hk6)
        | (go_at_call 41; refine (HAT.out _ (R6.out.bw bq)).mono ?_; rintro e wa ⟨rfl, hba⟩; have RA := hid (R6.out.bw (Bw.trans bq hba)); have KA := hid (show Kp r wr wa from K6.out.bw (Bw.trans bq hba)); (obtain ⟨ga, ca, qa, xa⟩ := RA.out.x); have zla : r < wa.heap.size := xa.b.lt; clear hba xa)
        | (go_at_call 45; refine (HNM.out _ (RA.out.bw bq)).mono ?_; rintro e wn ⟨rfl, hrn, hkn⟩; have RN := hid hrn; have KN := hid (show Kp r wr wn from KA.out.trans (Kp.trans (Kp.of_bw bq) hkn)); have rln : r < wn.heap.size := hrn.lt; clear hrn hkn)
        | (at_builtin; refine wpList_append_sl (G := fun _ => True) _ rfl _ _ 24 rfl w2.heap.size 43 i1 (.agg #[.int .i64 0, .int .i64 0, .string ⟨#[]⟩, .int .i64 0, .int .i64 0]) 5 48 undN8 I1.out.1 I1.out.2.1 I1.out.2.2.1 I1.out.2.2.2 rfl (by decide) (.slice a4 l0.length c4) l0.length (l0.flatMap ndV) rfl ((N3.out.kp KN.out hrl).bw bq) (.slice (some ⟨wn.heap.size, 0, none⟩) 1 1) 1 ([nd1].flatMap ndV) rfl (SLN.out wn) (nd_one _) (by unfold maxLen; omega) (by omega) (Nat.le_trans K3.out.size (Nat.le_trans KN.out.size (by simp))) ?_; intro v8 w8 ho8 hg8; obtain ⟨a8, c8, rfl⟩ := own_form ho8; have ho8' : Nd w8 w2.heap.size (.slice a8 (l0.length + 1) c8) (l0 ++ [nd1]) := (by unfold Nd; rw [List.length_append, List.flatMap_append]; exact ho8); have N8 := hid ho8'; have R8 := hid ((RN.out.bw bq).grown ((N3.out.kp KN.out hrl).bw bq) hg8); have K8 := hid (((K3.out.trans KN.out).bw bq).own ((N3.out.kp KN.out hrl).bw bq) hg8 (Nat.le_refl _)); clear ho8 hg8 ho8')
        | fail)
       case roundEnd =>
        exact ⟨⟨f2, l0 ++ [nd1], k0 + 1, D1, by have := HF.out; omega, HNX.out, ⟨_, _, by rw [List.length_append]; rfl⟩, N8.out, rfl, R8.out, K8.out⟩, left_lt R3.out R8.out HE0.out HFL.out⟩
      ·rw [if_neg (fun h => hkd h.2.2)] at ht2
       simp only [ht2] at HAT HNM
       have e4 : ((dtk T t1.i).1 == 1) = false := by simpa using hkd
       clear ht1 ht2 h1e h16 he hkd
       go_wp2_with (first
        | (go_at_call 42; refine HI.out.mono ?_; rintro e w4 ⟨rfl, hb4⟩; have B4 := hid hb4; have R4 := hid (R3.out.bw hb4); (obtain ⟨g4, c4', q4, x4⟩ := R4.out.x); have z4 : w4.cell? ⟨r, 3, none⟩ = some (.int .i64 s0.e) := x4.b.cell 3; have zl4 : r < w4.heap.size := x4.b.lt; clear hb4 x4)
        | (go_at_call 48; (fail_if_success (have _g := m5)); have m5 := hid trivial; refine (HW.out _ (R4.out.bw bq)).mono ?_; rintro e w5 ⟨rfl, hr5, hk5⟩; have R5 := hid hr5; have K5 := hid (show Kp r wr w5 from Kp.trans (Kp.of_bw (B4.out.trans bq)) hk5); (obtain ⟨g5, c5, q5, x5⟩ := hr5.x); have z5 : w5.cell? ⟨r, 3, none⟩ = some (.int .i64 t1.e) := x5.b.cell 3; have zl5 : r < w5.heap.size := x5.b.lt; clear hr5 hk5 x5)
        | fail)
       obtain ⟨gx, cx, qx, xx⟩ := R5.out.x
       have gl := xx.gl
       have hti := R5.out.i
       have hti2 : (t1.i : Int) < (T.length : Int) := by omega
       have v3 := xx.b.cell 3
       have v0 := xx.b.cell 0
       have v1 := xx.b.cell 1
       have vk := xx.c0 t1.i hti
       generalize hkn : (dtk T t1.i).1 = kn at *
       simp only [List.getElem?_toArray, List.getElem?_cons_zero, List.getElem?_cons_succ] at v0 v1 v3
       have rlx := xx.b.lt
       clear xx hkn
       refine wp_region_W (fun w' => w'.cell? ⟨r, 3, none⟩ = some (.int .i64 t1.e) ∧ w'.cell? ⟨r, 0, none⟩ = some (.slice (some ⟨gx, 0, none⟩) T.length cx) ∧ w'.cell? ⟨r, 1, none⟩ = some (.int .i64 t1.i) ∧ w'.cell? ⟨gx, t1.i * 4, none⟩ = some (.int .i64 kn)) (fun j => 1) (by kernel_rfl) ?_
       refine tkW (i := 0) (oi := oDfu0) (v := ?_) rfl (Or.inl ⟨by rfl, fun w _ => ?_⟩) ?_
       rotate_left
       ·(go_simp; first | done | with_reducible rfl)
       try simp only [oDfu0, Act.put, sqA, sqZ, sqS]
       refine tkW (i := 1) (oi := oDfu1) (v := ?_) rfl (Or.inl ⟨by rfl, fun w _ => ?_⟩) ?_
       rotate_left
       ·(go_simp; first | done | with_reducible rfl)
       try simp only [oDfu1, Act.put, sqA, sqZ, sqS]
       refine tkW (i := 2) (oi := oDfu2) (v := ?_) rfl (Or.inl ⟨by rfl, fun w _ => ?_⟩) ?_
       rotate_left
       ·(go_simp; first | done | with_reducible rfl)
       try simp only [oDfu2, Act.put, sqA, sqZ, sqS]
       refine ldW (i := 3) (oi := oDfu3) (v := ?_) rfl (Or.inl ⟨by rfl, fun w hS => ?_⟩) ⟨v3, v0, v1, vk⟩ ?_
       rotate_left
       ·(obtain ⟨s1_, s2_, s3_, s4_⟩ := hS; go_simp; first | done | with_reducible rfl)
       try simp only [oDfu3, Act.put, sqA, sqZ, sqS]
       refine tkW (i := 4) (oi := oDfu4) (v := ?_) rfl (Or.inl ⟨by rfl, fun w _ => ?_⟩) ?_
       rotate_left
       ·(go_simp; first | done | with_reducible rfl)
       try simp only [oDfu4, Act.put, sqA, sqZ, sqS]
       try rw [e2]
       refine tkW (i := 5) (oi := oDfu5) (v := ?_) rfl (Or.inl ⟨by rfl, fun w _ => ?_⟩) ?_
       rotate_left
       ·(go_simp; first | done | with_reducible rfl)
       try simp only [oDfu5, Act.put, sqA, sqZ, sqS]
       refine tkW (i := 6) (oi := oDfu6) (v := ?_) rfl (Or.inl ⟨by rfl, fun w _ => ?_⟩) ?_
       rotate_left
       ·(go_simp; first | done | with_reducible rfl)
       try simp only [oDfu6, Act.put, sqA, sqZ, sqS]
       refine tkW (i := 7) (oi := oDfu7) (v := ?_) rfl (Or.inl ⟨by rfl, fun w _ => ?_⟩) ?_
       rotate_left
       ·(go_simp; first | done | with_reducible rfl)
       try simp only [oDfu7, Act.put, sqA, sqZ, sqS]
       try rw [e3]
       refine tkW (i := 8) (oi := oDfu8) (v := ?_) rfl (Or.inl ⟨by rfl, fun w _ => ?_⟩) ?_
       rotate_left
       ·(go_simp; first | done | with_reducible rfl)
       try simp only [oDfu8, Act.put, sqA, sqZ, sqS]
       refine tkW (i := 9) (oi := oDfu9) (v := ?_) rfl (Or.inl ⟨by rfl, fun w _ => ?_⟩) ?_
       rotate_left
       ·(go_simp; first | done | with_reducible rfl)
       try simp only [oDfu9, Act.put, sqA, sqZ, sqS]
       refine tkW (i := 10) (oi := oDfu10) (v := ?_) rfl (Or.inl ⟨by rfl, fun w _ => ?_⟩) ?_
       rotate_left
       ·(go_simp; first | done | with_reducible rfl)
       try simp only [oDfu10, Act.put, sqA, sqZ, sqS]
       refine tkW (i := 11) (oi := oDfu11) (v := ?_) rfl (Or.inl ⟨by rfl, fun w _ => ?_⟩) ?_
       rotate_left
       ·(go_simp; first | done | with_reducible rfl)
       try simp only [oDfu11, Act.put, sqA, sqZ, sqS]
       refine tkW (i := 12) (oi := oDfu12) (v := ?_) rfl (Or.inl ⟨by rfl, fun w _ => ?_⟩) ?_
       rotate_left
       ·(go_simp; first | done | with_reducible rfl)
       try simp only [oDfu12, Act.put, sqA, sqZ, sqS]
       refine ldW (i := 13) (oi := oDfu13) (v := ?_) rfl (Or.inl ⟨by rfl, fun w hS => ?_⟩) ⟨v3, v0, v1, vk⟩ ?_
       rotate_left
       ·(obtain ⟨s1_, s2_, s3_, s4_⟩ := hS; go_simp; first | done | with_reducible rfl)
       try simp only [oDfu13, Act.put, sqA, sqZ, sqS]
       refine tkW (i := 14) (oi := oDfu14) (v := ?_) rfl (Or.inl ⟨by rfl, fun w _ => ?_⟩) ?_
       rotate_left
       ·(go_simp; first | done | with_reducible rfl)
       try simp only [oDfu14, Act.put, sqA, sqZ, sqS]
       refine tkW (i := 15) (oi := oDfu15) (v := ?_) rfl (Or.inl ⟨by rfl, fun w _ => ?_⟩) ?_
       rotate_left
       ·(go_simp; first | done | with_reducible rfl)
       try simp only [oDfu15, Act.put, sqA, sqZ, sqS]
       refine tkW (i := 16) (oi := oDfu16) (v := ?_) rfl (Or.inl ⟨by rfl, fun w _ => ?_⟩) ?_
       rotate_left
       ·(go_simp; first | done | with_reducible rfl)
       try simp only [oDfu16, Act.put, sqA, sqZ, sqS]
       refine ldW (i := 17) (oi := oDfu17) (v := ?_) rfl (Or.inl ⟨by rfl, fun w hS => ?_⟩) ⟨v3, v0, v1, vk⟩ ?_
       rotate_left
       ·(obtain ⟨s1_, s2_, s3_, s4_⟩ := hS; go_simp; first | done | with_reducible rfl)
       try simp only [oDfu17, Act.put, sqA, sqZ, sqS]
       refine tkW (i := 18) (oi := oDfu18) (v := ?_) rfl (Or.inl ⟨by rfl, fun w _ => ?_⟩) ?_
       rotate_left
       ·(go_simp; first | done | with_reducible rfl)
       try simp only [oDfu18, Act.put, sqA, sqZ, sqS]
       refine tkW (i := 19) (oi := oDfu19) (v := ?_) rfl (Or.inl ⟨by rfl, fun w _ => ?_⟩) ?_
       rotate_left
       ·(go_simp; first | done | with_reducible rfl)
       try simp only [oDfu19, Act.put, sqA, sqZ, sqS]
       refine ldW (i := 20) (oi := oDfu20) (v := ?_) rfl (Or.inl ⟨by rfl, fun w hS => ?_⟩) ⟨v3, v0, v1, vk⟩ ?_
       rotate_left
       ·(obtain ⟨s1_, s2_, s3_, s4_⟩ := hS; go_simp; first | done | with_reducible rfl)
       try simp only [oDfu20, Act.put, sqA, sqZ, sqS]
       refine tkW (i := 21) (oi := oDfu21) (v := ?_) rfl (Or.inl ⟨by rfl, fun w _ => ?_⟩) ?_
       rotate_left
       ·(go_simp; first | done | with_reducible rfl)
       try simp only [oDfu21, Act.put, sqA, sqZ, sqS]
       try rw [e4]
       refine tkW (i := 22) (oi := oDfu22) (v := ?_) rfl (Or.inl ⟨by rfl, fun w _ => ?_⟩) ?_
       rotate_left
       ·(go_simp; first | done | with_reducible rfl)
       try simp only [oDfu22, Act.put, sqA, sqZ, sqS]
       refine wpAnyW_done (by kernel_rfl) ?_ _
       all_goals go_wp2_with (first
        | (go_at_call 41; refine (HAT.out _ (R5.out.bw bq)).mono ?_; rintro e wa ⟨rfl, hba⟩; have RA := hid (R5.out.bw (Bw.trans bq hba)); have KA := hid (show Kp r wr wa from K5.out.bw (Bw.trans bq hba)); (obtain ⟨ga, ca, qa, xa⟩ := RA.out.x); have zla : r < wa.heap.size := xa.b.lt; clear hba xa)
        | (go_at_call 45; refine (HNM.out _ (RA.out.bw bq)).mono ?_; rintro e wn ⟨rfl, hrn, hkn⟩; have RN := hid hrn; have KN := hid (show Kp r wr wn from KA.out.trans (Kp.trans (Kp.of_bw bq) hkn)); have rln : r < wn.heap.size := hrn.lt; clear hrn hkn)
        | (at_builtin; refine wpList_append_sl (G := fun _ => True) _ rfl _ _ 24 rfl w2.heap.size 43 i1 (.agg #[.int .i64 0, .int .i64 0, .string ⟨#[]⟩, .int .i64 0, .int .i64 0]) 5 48 undN8 I1.out.1 I1.out.2.1 I1.out.2.2.1 I1.out.2.2.2 rfl (by decide) (.slice a4 l0.length c4) l0.length (l0.flatMap ndV) rfl ((N3.out.kp KN.out hrl).bw bq) (.slice (some ⟨wn.heap.size, 0, none⟩) 1 1) 1 ([nd1].flatMap ndV) rfl (SLN.out wn) (nd_one _) (by unfold maxLen; omega) (by omega) (Nat.le_trans K3.out.size (Nat.le_trans KN.out.size (by simp))) ?_; intro v8 w8 ho8 hg8; obtain ⟨a8, c8, rfl⟩ := own_form ho8; have ho8' : Nd w8 w2.heap.size (.slice a8 (l0.length + 1) c8) (l0 ++ [nd1]) := (by unfold Nd; rw [List.length_append, List.flatMap_append]; exact ho8); have N8 := hid ho8'; have R8 := hid ((RN.out.bw bq).grown ((N3.out.kp KN.out hrl).bw bq) hg8); have K8 := hid (((K3.out.trans KN.out).bw bq).own ((N3.out.kp KN.out hrl).bw bq) hg8 (Nat.le_refl _)); clear ho8 hg8 ho8')
        | fail)
       case roundEnd =>
        exact ⟨⟨f2, l0 ++ [nd1], k0 + 1, D1, by have := HF.out; omega, HNX.out, ⟨_, _, by rw [List.length_append]; rfl⟩, N8.out, rfl, R8.out, K8.out⟩, left_lt R3.out R8.out HE0.out HFL.out⟩
     ·rw [if_neg (fun h => h16 h.2.1)] at ht2
      simp only [ht2] at HAT HNM
      have e3 : (k0 == 16) = false := by simpa using h16
      clear ht1 ht2 h1e h16 he
      go_wp2_with (first
       | (go_at_call 42; refine HI.out.mono ?_; rintro e w4 ⟨rfl, hb4⟩; have B4 := hid hb4; have R4 := hid (R3.out.bw hb4); (obtain ⟨g4, c4', q4, x4⟩ := R4.out.x); have z4 : w4.cell? ⟨r, 3, none⟩ = some (.int .i64 s0.e) := x4.b.cell 3; have zl4 : r < w4.heap.size := x4.b.lt; clear hb4 x4)
       | (go_at_call 48; (fail_if_success (have _g := m5)); have m5 := hid trivial; refine (HW.out _ (R4.out.bw bq)).mono ?_; rintro e w5 ⟨rfl, hr5, hk5⟩; have R5 := hid hr5; have K5 := hid (show Kp r wr w5 from Kp.trans (Kp.of_bw (B4.out.trans bq)) hk5); (obtain ⟨g5, c5, q5, x5⟩ := hr5.x); have z5 : w5.cell? ⟨r, 3, none⟩ = some (.int .i64 t1.e) := x5.b.cell 3; have zl5 : r < w5.heap.size := x5.b.lt; clear hr5 hk5 x5)
       | fail)
      obtain ⟨gx, cx, qx, xx⟩ := R5.out.x
      have gl := xx.gl
      have hti := R5.out.i
      have hti2 : (t1.i : Int) < (T.length : Int) := by omega
      have v3 := xx.b.cell 3
      have v0 := xx.b.cell 0
      have v1 := xx.b.cell 1
      have vk := xx.c0 t1.i hti
      generalize hkn : (dtk T t1.i).1 = kn at *
      simp only [List.getElem?_toArray, List.getElem?_cons_zero, List.getElem?_cons_succ] at v0 v1 v3
      have rlx := xx.b.lt
      clear xx hkn
      refine wp_region_W (fun w' => w'.cell? ⟨r, 3, none⟩ = some (.int .i64 t1.e) ∧ w'.cell? ⟨r, 0, none⟩ = some (.slice (some ⟨gx, 0, none⟩) T.length cx) ∧ w'.cell? ⟨r, 1, none⟩ = some (.int .i64 t1.i) ∧ w'.cell? ⟨gx, t1.i * 4, none⟩ = some (.int .i64 kn)) (fun j => 1) (by kernel_rfl) ?_
      refine tkW (i := 0) (oi := oDfu0) (v := ?_) rfl (Or.inl ⟨by rfl, fun w _ => ?_⟩) ?_
      rotate_left
      ·(go_simp; first | done | with_reducible rfl)
      try simp only [oDfu0, Act.put, sqA, sqZ, sqS]
      refine tkW (i := 1) (oi := oDfu1) (v := ?_) rfl (Or.inl ⟨by rfl, fun w _ => ?_⟩) ?_
      rotate_left
      ·(go_simp; first | done | with_reducible rfl)
      try simp only [oDfu1, Act.put, sqA, sqZ, sqS]
      refine tkW (i := 2) (oi := oDfu2) (v := ?_) rfl (Or.inl ⟨by rfl, fun w _ => ?_⟩) ?_
      rotate_left
      ·(go_simp; first | done | with_reducible rfl)
      try simp only [oDfu2, Act.put, sqA, sqZ, sqS]
      refine ldW (i := 3) (oi := oDfu3) (v := ?_) rfl (Or.inl ⟨by rfl, fun w hS => ?_⟩) ⟨v3, v0, v1, vk⟩ ?_
      rotate_left
      ·(obtain ⟨s1_, s2_, s3_, s4_⟩ := hS; go_simp; first | done | with_reducible rfl)
      try simp only [oDfu3, Act.put, sqA, sqZ, sqS]
      refine tkW (i := 4) (oi := oDfu4) (v := ?_) rfl (Or.inl ⟨by rfl, fun w _ => ?_⟩) ?_
      rotate_left
      ·(go_simp; first | done | with_reducible rfl)
      try simp only [oDfu4, Act.put, sqA, sqZ, sqS]
      try rw [e2]
      refine tkW (i := 5) (oi := oDfu5) (v := ?_) rfl (Or.inl ⟨by rfl, fun w _ => ?_⟩) ?_
      rotate_left
      ·(go_simp; first | done | with_reducible rfl)
      try simp only [oDfu5, Act.put, sqA, sqZ, sqS]
      refine tkW (i := 6) (oi := oDfu6) (v := ?_) rfl (Or.inl ⟨by rfl, fun w _ => ?_⟩) ?_
      rotate_left
      ·(go_simp; first | done | with_reducible rfl)
      try simp only [oDfu6, Act.put, sqA, sqZ, sqS]
      refine tkW (i := 7) (oi := oDfu7) (v := ?_) rfl (Or.inl ⟨by rfl, fun w _ => ?_⟩) ?_
      rotate_left
      ·(go_simp; first | done | with_reducible rfl)
      try simp only [oDfu7, Act.put, sqA, sqZ, sqS]
      try rw [e3]
      refine tkW (i := 8) (oi := oDfu8) (v := ?_) rfl (Or.inl ⟨by rfl, fun w _ => ?_⟩) ?_
      rotate_left
      ·(go_simp; first | done | with_reducible rfl)
      try simp only [oDfu8, Act.put, sqA, sqZ, sqS]
      refine tkW (i := 9) (oi := oDfu9) (v := ?_) rfl (Or.inl ⟨by rfl, fun w _ => ?_⟩) ?_
      rotate_left
      ·(go_simp; first | done | with_reducible rfl)
      try simp only [oDfu9, Act.put, sqA, sqZ, sqS]
      refine tkW (i := 10) (oi := oDfu10) (v := undef) rfl (Or.inr ⟨by rfl, rfl⟩) ?_
      try simp only [oDfu10, Act.put, sqA, sqZ, sqS]
      refine tkW (i := 11) (oi := oDfu11) (v := undef) rfl (Or.inr ⟨by rfl, rfl⟩) ?_
      try simp only [oDfu11, Act.put, sqA, sqZ, sqS]
      refine tkW (i := 12) (oi := oDfu12) (v := undef) rfl (Or.inr ⟨by rfl, rfl⟩) ?_
      try simp only [oDfu12, Act.put, sqA, sqZ, sqS]
      refine tkW (i := 13) (oi := oDfu13) (v := undef) rfl (Or.inr ⟨by rfl, rfl⟩) ?_
      try simp only [oDfu13, Act.put, sqA, sqZ, sqS]
      refine tkW (i := 14) (oi := oDfu14) (v := undef) rfl (Or.inr ⟨by rfl, rfl⟩) ?_
      try simp only [oDfu14, Act.put, sqA, sqZ, sqS]
      refine tkW (i := 15) (oi := oDfu15) (v := undef) rfl (Or.inr ⟨by rfl, rfl⟩) ?_
      try simp only [oDfu15, Act.put, sqA, sqZ, sqS]
      refine tkW (i := 16) (oi := oDfu16) (v := undef) rfl (Or.inr ⟨by rfl, rfl⟩) ?_
      try simp only [oDfu16, Act.put, sqA, sqZ, sqS]
      refine tkW (i := 17) (oi := oDfu17) (v := undef) rfl (Or.inr ⟨by rfl, rfl⟩) ?_
      try simp only [oDfu17, Act.put, sqA, sqZ, sqS]
      refine tkW (i := 18) (oi := oDfu18) (v := undef) rfl (Or.inr ⟨by rfl, rfl⟩) ?_
      try simp only [oDfu18, Act.put, sqA, sqZ, sqS]
      refine tkW (i := 19) (oi := oDfu19) (v := undef) rfl (Or.inr ⟨by rfl, rfl⟩) ?_
      try simp only [oDfu19, Act.put, sqA, sqZ, sqS]
      refine tkW (i := 20) (oi := oDfu20) (v := undef) rfl (Or.inr ⟨by rfl, rfl⟩) ?_
      try simp only [oDfu20, Act.put, sqA, sqZ, sqS]
      refine tkW (i := 21) (oi := oDfu21) (v := undef) rfl (Or.inr ⟨by rfl, rfl⟩) ?_
      try simp only [oDfu21, Act.put, sqA, sqZ, sqS]
      refine tkW (i := 22) (oi := oDfu22) (v := ?_) rfl (Or.inl ⟨by rfl, fun w _ => ?_⟩) ?_
      rotate_left
      ·(go_simp; first | done | with_reducible rfl)
      try simp only [oDfu22, Act.put, sqA, sqZ, sqS]
      refine wpAnyW_done (by kernel_rfl) ?_ _
      all_goals go_wp2_with (first
       | (go_at_call 41; refine (HAT.out _ (R5.out.bw bq)).mono ?_; rintro e wa ⟨rfl, hba⟩; have RA := hid (R5.out.bw (Bw.trans bq hba)); have KA := hid (show Kp r wr wa from K5.out.bw (Bw.trans bq hba)); (obtain ⟨ga, ca, qa, xa⟩ := RA.out.x); have zla : r < wa.heap.size := xa.b.lt; clear hba xa)
       | (go_at_call 45; refine (HNM.out _ (RA.out.bw bq)).mono ?_; rintro e wn ⟨rfl, hrn, hkn⟩; have RN := hid hrn; have KN := hid (show Kp r wr wn from KA.out.trans (Kp.trans (Kp.of_bw bq) hkn)); have rln : r < wn.heap.size := hrn.lt; clear hrn hkn)
       | (at_builtin; refine wpList_append_sl (G := fun _ => True) _ rfl _ _ 24 rfl w2.heap.size 43 i1 (.agg #[.int .i64 0, .int .i64 0, .string ⟨#[]⟩, .int .i64 0, .int .i64 0]) 5 48 undN8 I1.out.1 I1.out.2.1 I1.out.2.2.1 I1.out.2.2.2 rfl (by decide) (.slice a4 l0.length c4) l0.length (l0.flatMap ndV) rfl ((N3.out.kp KN.out hrl).bw bq) (.slice (some ⟨wn.heap.size, 0, none⟩) 1 1) 1 ([nd1].flatMap ndV) rfl (SLN.out wn) (nd_one _) (by unfold maxLen; omega) (by omega) (Nat.le_trans K3.out.size (Nat.le_trans KN.out.size (by simp))) ?_; intro v8 w8 ho8 hg8; obtain ⟨a8, c8, rfl⟩ := own_form ho8; have ho8' : Nd w8 w2.heap.size (.slice a8 (l0.length + 1) c8) (l0 ++ [nd1]) := (by unfold Nd; rw [List.length_append, List.flatMap_append]; exact ho8); have N8 := hid ho8'; have R8 := hid ((RN.out.bw bq).grown ((N3.out.kp KN.out hrl).bw bq) hg8); have K8 := hid (((K3.out.trans KN.out).bw bq).own ((N3.out.kp KN.out hrl).bw bq) hg8 (Nat.le_refl _)); clear ho8 hg8 ho8')
       | fail)
      case roundEnd =>
       exact ⟨⟨f2, l0 ++ [nd1], k0 + 1, D1, by have := HF.out; omega, HNX.out, ⟨_, _, by rw [List.length_append]; rfl⟩, N8.out, rfl, R8.out, K8.out⟩, left_lt R3.out R8.out HE0.out HFL.out⟩
    ·have e2 : (t1.e == 0) = false := by simpa using h1e
     rw [if_neg (fun h => h1e h.1)] at ht2
     simp only [ht2] at HAT HNM
     clear ht1 ht2 h1e he
     go_wp2_with (first
      | (go_at_call 42; refine HI.out.mono ?_; rintro e w4 ⟨rfl, hb4⟩; have B4 := hid hb4; have R4 := hid (R3.out.bw hb4); (obtain ⟨g4, c4', q4, x4⟩ := R4.out.x); have z4 : w4.cell? ⟨r, 3, none⟩ = some (.int .i64 s0.e) := x4.b.cell 3; have zl4 : r < w4.heap.size := x4.b.lt; clear hb4 x4)
      | (go_at_call 48; (fail_if_success (have _g := m5)); have m5 := hid trivial; refine (HW.out _ (R4.out.bw bq)).mono ?_; rintro e w5 ⟨rfl, hr5, hk5⟩; have R5 := hid hr5; have K5 := hid (show Kp r wr w5 from Kp.trans (Kp.of_bw (B4.out.trans bq)) hk5); (obtain ⟨g5, c5, q5, x5⟩ := hr5.x); have z5 : w5.cell? ⟨r, 3, none⟩ = some (.int .i64 t1.e) := x5.b.cell 3; have zl5 : r < w5.heap.size := x5.b.lt; clear hr5 hk5 x5)
      | fail)
     obtain ⟨gx, cx, qx, xx⟩ := R5.out.x
     have gl := xx.gl
     have hti := R5.out.i
     have hti2 : (t1.i : Int) < (T.length : Int) := by omega
     have v3 := xx.b.cell 3
     have v0 := xx.b.cell 0
     have v1 := xx.b.cell 1
     have vk := xx.c0 t1.i hti
     generalize hkn : (dtk T t1.i).1 = kn at *
     simp only [List.getElem?_toArray, List.getElem?_cons_zero, List.getElem?_cons_succ] at v0 v1 v3
     have rlx := xx.b.lt
     clear xx hkn
     refine wp_region_W (fun w' => w'.cell? ⟨r, 3, none⟩ = some (.int .i64 t1.e) ∧ w'.cell? ⟨r, 0, none⟩ = some (.slice (some ⟨gx, 0, none⟩) T.length cx) ∧ w'.cell? ⟨r, 1, none⟩ = some (.int .i64 t1.i) ∧ w'.cell? ⟨gx, t1.i * 4, none⟩ = some (.int .i64 kn)) (fun j => 1) (by kernel_rfl) ?_
     refine tkW (i := 0) (oi := oDfu0) (v := ?_) rfl (Or.inl ⟨by rfl, fun w _ => ?_⟩) ?_
     rotate_left
     ·(go_simp; first | done | with_reducible rfl)
     try simp only [oDfu0, Act.put, sqA, sqZ, sqS]
     refine tkW (i := 1) (oi := oDfu1) (v := ?_) rfl (Or.inl ⟨by rfl, fun w _ => ?_⟩) ?_
     rotate_left
     ·(go_simp; first | done | with_reducible rfl)
     try simp only [oDfu1, Act.put, sqA, sqZ, sqS]
     refine tkW (i := 2) (oi := oDfu2) (v := ?_) rfl (Or.inl ⟨by rfl, fun w _ => ?_⟩) ?_
     rotate_left
     ·(go_simp; first | done | with_reducible rfl)
     try simp only [oDfu2, Act.put, sqA, sqZ, sqS]
     refine ldW (i := 3) (oi := oDfu3) (v := ?_) rfl (Or.inl ⟨by rfl, fun w hS => ?_⟩) ⟨v3, v0, v1, vk⟩ ?_
     rotate_left
     ·(obtain ⟨s1_, s2_, s3_, s4_⟩ := hS; go_simp; first | done | with_reducible rfl)
     try simp only [oDfu3, Act.put, sqA, sqZ, sqS]
     refine tkW (i := 4) (oi := oDfu4) (v := ?_) rfl (Or.inl ⟨by rfl, fun w _ => ?_⟩) ?_
     rotate_left
     ·(go_simp; first | done | with_reducible rfl)
     try simp only [oDfu4, Act.put, sqA, sqZ, sqS]
     try rw [e2]
     refine tkW (i := 5) (oi := oDfu5) (v := ?_) rfl (Or.inl ⟨by rfl, fun w _ => ?_⟩) ?_
     rotate_left
     ·(go_simp; first | done | with_reducible rfl)
     try simp only [oDfu5, Act.put, sqA, sqZ, sqS]
     refine tkW (i := 6) (oi := oDfu6) (v := undef) rfl (Or.inr ⟨by rfl, rfl⟩) ?_
     try simp only [oDfu6, Act.put, sqA, sqZ, sqS]
     refine tkW (i := 7) (oi := oDfu7) (v := undef) rfl (Or.inr ⟨by rfl, rfl⟩) ?_
     try simp only [oDfu7, Act.put, sqA, sqZ, sqS]
     refine tkW (i := 8) (oi := oDfu8) (v := ?_) rfl (Or.inl ⟨by rfl, fun w _ => ?_⟩) ?_
     rotate_left
     ·(go_simp; first | done | with_reducible rfl)
     try simp only [oDfu8, Act.put, sqA, sqZ, sqS]
     refine tkW (i := 9) (oi := oDfu9) (v := ?_) rfl (Or.inl ⟨by rfl, fun w _ => ?_⟩) ?_
     rotate_left
     ·(go_simp; first | done | with_reducible rfl)
     try simp only [oDfu9, Act.put, sqA, sqZ, sqS]
     refine tkW (i := 10) (oi := oDfu10) (v := undef) rfl (Or.inr ⟨by rfl, rfl⟩) ?_
     try simp only [oDfu10, Act.put, sqA, sqZ, sqS]
     refine tkW (i := 11) (oi := oDfu11) (v := undef) rfl (Or.inr ⟨by rfl, rfl⟩) ?_
     try simp only [oDfu11, Act.put, sqA, sqZ, sqS]
     refine tkW (i := 12) (oi := oDfu12) (v := undef) rfl (Or.inr ⟨by rfl, rfl⟩) ?_
     try simp only [oDfu12, Act.put, sqA, sqZ, sqS]
     refine tkW (i := 13) (oi := oDfu13) (v := undef) rfl (Or.inr ⟨by rfl, rfl⟩) ?_
     try simp only [oDfu13, Act.put, sqA, sqZ, sqS]
     refine tkW (i := 14) (oi := oDfu14) (v := undef) rfl (Or.inr ⟨by rfl, rfl⟩) ?_
     try simp only [oDfu14, Act.put, sqA, sqZ, sqS]
     refine tkW (i := 15) (oi := oDfu15) (v := undef) rfl (Or.inr ⟨by rfl, rfl⟩) ?_
     try simp only [oDfu15, Act.put, sqA, sqZ, sqS]
     refine tkW (i := 16) (oi := oDfu16) (v := undef) rfl (Or.inr ⟨by rfl, rfl⟩) ?_
     try simp only [oDfu16, Act.put, sqA, sqZ, sqS]
     refine tkW (i := 17) (oi := oDfu17) (v := undef) rfl (Or.inr ⟨by rfl, rfl⟩) ?_
     try simp only [oDfu17, Act.put, sqA, sqZ, sqS]
     refine tkW (i := 18) (oi := oDfu18) (v := undef) rfl (Or.inr ⟨by rfl, rfl⟩) ?_
     try simp only [oDfu18, Act.put, sqA, sqZ, sqS]
     refine tkW (i := 19) (oi := oDfu19) (v := undef) rfl (Or.inr ⟨by rfl, rfl⟩) ?_
     try simp only [oDfu19, Act.put, sqA, sqZ, sqS]
     refine tkW (i := 20) (oi := oDfu20) (v := undef) rfl (Or.inr ⟨by rfl, rfl⟩) ?_
     try simp only [oDfu20, Act.put, sqA, sqZ, sqS]
     refine tkW (i := 21) (oi := oDfu21) (v := undef) rfl (Or.inr ⟨by rfl, rfl⟩) ?_
     try simp only [oDfu21, Act.put, sqA, sqZ, sqS]
     refine tkW (i := 22) (oi := oDfu22) (v := ?_) rfl (Or.inl ⟨by rfl, fun w _ => ?_⟩) ?_
     rotate_left
     ·(go_simp; first | done | with_reducible rfl)
     try simp only [oDfu22, Act.put, sqA, sqZ, sqS]
     refine wpAnyW_done (by kernel_rfl) ?_ _
     all_goals go_wp2_with (first
      | (go_at_call 41; refine (HAT.out _ (R5.out.bw bq)).mono ?_; rintro e wa ⟨rfl, hba⟩; have RA := hid (R5.out.bw (Bw.trans bq hba)); have KA := hid (show Kp r wr wa from K5.out.bw (Bw.trans bq hba)); (obtain ⟨ga, ca, qa, xa⟩ := RA.out.x); have zla : r < wa.heap.size := xa.b.lt; clear hba xa)
      | (go_at_call 45; refine (HNM.out _ (RA.out.bw bq)).mono ?_; rintro e wn ⟨rfl, hrn, hkn⟩; have RN := hid hrn; have KN := hid (show Kp r wr wn from KA.out.trans (Kp.trans (Kp.of_bw bq) hkn)); have rln : r < wn.heap.size := hrn.lt; clear hrn hkn)
      | (at_builtin; refine wpList_append_sl (G := fun _ => True) _ rfl _ _ 24 rfl w2.heap.size 43 i1 (.agg #[.int .i64 0, .int .i64 0, .string ⟨#[]⟩, .int .i64 0, .int .i64 0]) 5 48 undN8 I1.out.1 I1.out.2.1 I1.out.2.2.1 I1.out.2.2.2 rfl (by decide) (.slice a4 l0.length c4) l0.length (l0.flatMap ndV) rfl ((N3.out.kp KN.out hrl).bw bq) (.slice (some ⟨wn.heap.size, 0, none⟩) 1 1) 1 ([nd1].flatMap ndV) rfl (SLN.out wn) (nd_one _) (by unfold maxLen; omega) (by omega) (Nat.le_trans K3.out.size (Nat.le_trans KN.out.size (by simp))) ?_; intro v8 w8 ho8 hg8; obtain ⟨a8, c8, rfl⟩ := own_form ho8; have ho8' : Nd w8 w2.heap.size (.slice a8 (l0.length + 1) c8) (l0 ++ [nd1]) := (by unfold Nd; rw [List.length_append, List.flatMap_append]; exact ho8); have N8 := hid ho8'; have R8 := hid ((RN.out.bw bq).grown ((N3.out.kp KN.out hrl).bw bq) hg8); have K8 := hid (((K3.out.trans KN.out).bw bq).own ((N3.out.kp KN.out hrl).bw bq) hg8 (Nat.le_refl _)); clear ho8 hg8 ho8')
      | fail)
     case roundEnd =>
      exact ⟨⟨f2, l0 ++ [nd1], k0 + 1, D1, by have := HF.out; omega, HNX.out, ⟨_, _, by rw [List.length_append]; rfl⟩, N8.out, rfl, R8.out, K8.out⟩, left_lt R3.out R8.out HE0.out HFL.out⟩
   ·rw [if_neg hk] at ht1
    obtain rfl : k0 = 0 := by omega
    rw [if_neg (by omega)] at ht2
    simp only [ht2, ht1] at HAT HNM
    have e2 : (s0.e == 0) = true := e1
    have e3 : ((0 : Int) == 16) = false := by decide
    clear hk he ht1 ht2 HBD
    go_wp2_with (first
     | (go_at_call 42; refine HI.out.mono ?_; rintro e w4 ⟨rfl, hb4⟩; have B4 := hid hb4; have R4 := hid (R3.out.bw hb4); (obtain ⟨g4, c4', q4, x4⟩ := R4.out.x); have z4 : w4.cell? ⟨r, 3, none⟩ = some (.int .i64 s0.e) := x4.b.cell 3; have zl4 : r < w4.heap.size := x4.b.lt; clear hb4 x4)
     | fail)
    obtain ⟨gx, cx, qx, xx⟩ := R4.out.x
    have gl := xx.gl
    have hti := R4.out.i
    have hti2 : (s0.i : Int) < (T.length : Int) := by omega
    have v3 := xx.b.cell 3
    have v0 := xx.b.cell 0
    have v1 := xx.b.cell 1
    have vk := xx.c0 s0.i hti
    generalize hkn : (dtk T s0.i).1 = kn at *
    simp only [List.getElem?_toArray, List.getElem?_cons_zero, List.getElem?_cons_succ] at v0 v1 v3
    have rlx := xx.b.lt
    clear xx hkn
    refine wp_region_W (fun w' => w'.cell? ⟨r, 3, none⟩ = some (.int .i64 s0.e) ∧ w'.cell? ⟨r, 0, none⟩ = some (.slice (some ⟨gx, 0, none⟩) T.length cx) ∧ w'.cell? ⟨r, 1, none⟩ = some (.int .i64 s0.i) ∧ w'.cell? ⟨gx, s0.i * 4, none⟩ = some (.int .i64 kn)) (fun j => 1) (by kernel_rfl) ?_
    refine tkW (i := 0) (oi := oDfu0) (v := ?_) rfl (Or.inl ⟨by rfl, fun w _ => ?_⟩) ?_
    rotate_left
    ·(go_simp; first | done | with_reducible rfl)
    try simp only [oDfu0, Act.put, sqA, sqZ, sqS]
    refine tkW (i := 1) (oi := oDfu1) (v := ?_) rfl (Or.inl ⟨by rfl, fun w _ => ?_⟩) ?_
    rotate_left
    ·(go_simp; first | done | with_reducible rfl)
    try simp only [oDfu1, Act.put, sqA, sqZ, sqS]
    refine tkW (i := 2) (oi := oDfu2) (v := ?_) rfl (Or.inl ⟨by rfl, fun w _ => ?_⟩) ?_
    rotate_left
    ·(go_simp; first | done | with_reducible rfl)
    try simp only [oDfu2, Act.put, sqA, sqZ, sqS]
    refine ldW (i := 3) (oi := oDfu3) (v := ?_) rfl (Or.inl ⟨by rfl, fun w hS => ?_⟩) ⟨v3, v0, v1, vk⟩ ?_
    rotate_left
    ·(obtain ⟨s1_, s2_, s3_, s4_⟩ := hS; go_simp; first | done | with_reducible rfl)
    try simp only [oDfu3, Act.put, sqA, sqZ, sqS]
    refine tkW (i := 4) (oi := oDfu4) (v := ?_) rfl (Or.inl ⟨by rfl, fun w _ => ?_⟩) ?_
    rotate_left
    ·(go_simp; first | done | with_reducible rfl)
    try simp only [oDfu4, Act.put, sqA, sqZ, sqS]
    try rw [e2]
    refine tkW (i := 5) (oi := oDfu5) (v := ?_) rfl (Or.inl ⟨by rfl, fun w _ => ?_⟩) ?_
    rotate_left
    ·(go_simp; first | done | with_reducible rfl)
    try simp only [oDfu5, Act.put, sqA, sqZ, sqS]
    refine tkW (i := 6) (oi := oDfu6) (v := ?_) rfl (Or.inl ⟨by rfl, fun w _ => ?_⟩) ?_
    rotate_left
    ·(go_simp; first | done | with_reducible rfl)
    try simp only [oDfu6, Act.put, sqA, sqZ, sqS]
    refine tkW (i := 7) (oi := oDfu7) (v := ?_) rfl (Or.inl ⟨by rfl, fun w _ => ?_⟩) ?_
    rotate_left
    ·(go_simp; first | done | with_reducible rfl)
    try simp only [oDfu7, Act.put, sqA, sqZ, sqS]
    try rw [e3]
    refine tkW (i := 8) (oi := oDfu8) (v := ?_) rfl (Or.inl ⟨by rfl, fun w _ => ?_⟩) ?_
    rotate_left
    ·(go_simp; first | done | with_reducible rfl)
    try simp only [oDfu8, Act.put, sqA, sqZ, sqS]
    refine tkW (i := 9) (oi := oDfu9) (v := ?_) rfl (Or.inl ⟨by rfl, fun w _ => ?_⟩) ?_
    rotate_left
    ·(go_simp; first | done | with_reducible rfl)
    try simp only [oDfu9, Act.put, sqA, sqZ, sqS]
    refine tkW (i := 10) (oi := oDfu10) (v := undef) rfl (Or.inr ⟨by rfl, rfl⟩) ?_
    try simp only [oDfu10, Act.put, sqA, sqZ, sqS]
    refine tkW (i := 11) (oi := oDfu11) (v := undef) rfl (Or.inr ⟨by rfl, rfl⟩) ?_
    try simp only [oDfu11, Act.put, sqA, sqZ, sqS]
    refine tkW (i := 12) (oi := oDfu12) (v := undef) rfl (Or.inr ⟨by rfl, rfl⟩) ?_
    try simp only [oDfu12, Act.put, sqA, sqZ, sqS]
    refine tkW (i := 13) (oi := oDfu13) (v := undef) rfl (Or.inr ⟨by rfl, rfl⟩) ?_
    try simp only [oDfu13, Act.put, sqA, sqZ, sqS]
    refine tkW (i := 14) (oi := oDfu14) (v := undef) rfl (Or.inr ⟨by rfl, rfl⟩) ?_
    try simp only [oDfu14, Act.put, sqA, sqZ, sqS]
    refine tkW (i := 15) (oi := oDfu15) (v := undef) rfl (Or.inr ⟨by rfl, rfl⟩) ?_
    try simp only [oDfu15, Act.put, sqA, sqZ, sqS]
    refine tkW (i := 16) (oi := oDfu16) (v := undef) rfl (Or.inr ⟨by rfl, rfl⟩) ?_
    try simp only [oDfu16, Act.put, sqA, sqZ, sqS]
    refine tkW (i := 17) (oi := oDfu17) (v := undef) rfl (Or.inr ⟨by rfl, rfl⟩) ?_
    try simp only [oDfu17, Act.put, sqA, sqZ, sqS]
    refine tkW (i := 18) (oi := oDfu18) (v := undef) rfl (Or.inr ⟨by rfl, rfl⟩) ?_
    try simp only [oDfu18, Act.put, sqA, sqZ, sqS]
    refine tkW (i := 19) (oi := oDfu19) (v := undef) rfl (Or.inr ⟨by rfl, rfl⟩) ?_
    try simp only [oDfu19, Act.put, sqA, sqZ, sqS]
    refine tkW (i := 20) (oi := oDfu20) (v := undef) rfl (Or.inr ⟨by rfl, rfl⟩) ?_
    try simp only [oDfu20, Act.put, sqA, sqZ, sqS]
    refine tkW (i := 21) (oi := oDfu21) (v := undef) rfl (Or.inr ⟨by rfl, rfl⟩) ?_
    try simp only [oDfu21, Act.put, sqA, sqZ, sqS]
    refine tkW (i := 22) (oi := oDfu22) (v := ?_) rfl (Or.inl ⟨by rfl, fun w _ => ?_⟩) ?_
    rotate_left
    ·(go_simp; first | done | with_reducible rfl)
    try simp only [oDfu22, Act.put, sqA, sqZ, sqS]
    refine wpAnyW_done (by kernel_rfl) ?_ _
    all_goals go_wp2_with (first
     | (go_at_call 41; refine (HAT.out _ (R4.out.bw bq)).mono ?_; rintro e wa ⟨rfl, hba⟩; have RA := hid (R4.out.bw (Bw.trans bq hba)); have KA := hid (show Kp r wr wa from Kp.of_bw (B4.out.trans (Bw.trans bq hba))); (obtain ⟨ga, ca, qa, xa⟩ := RA.out.x); have zla : r < wa.heap.size := xa.b.lt; clear hba xa)
     | (go_at_call 45; refine (HNM.out _ (RA.out.bw bq)).mono ?_; rintro e wn ⟨rfl, hrn, hkn⟩; have RN := hid hrn; have KN := hid (show Kp r wr wn from KA.out.trans (Kp.trans (Kp.of_bw bq) hkn)); have rln : r < wn.heap.size := hrn.lt; clear hrn hkn)
     | (at_builtin; refine wpList_append_sl (G := fun _ => True) _ rfl _ _ 24 rfl w2.heap.size 43 i1 (.agg #[.int .i64 0, .int .i64 0, .string ⟨#[]⟩, .int .i64 0, .int .i64 0]) 5 48 undN8 I1.out.1 I1.out.2.1 I1.out.2.2.1 I1.out.2.2.2 rfl (by decide) (.slice a4 l0.length c4) l0.length (l0.flatMap ndV) rfl ((N3.out.kp KN.out hrl).bw bq) (.slice (some ⟨wn.heap.size, 0, none⟩) 1 1) 1 ([nd1].flatMap ndV) rfl (SLN.out wn) (nd_one _) (by unfold maxLen; omega) (by omega) (Nat.le_trans K3.out.size (Nat.le_trans KN.out.size (by simp))) ?_; intro v8 w8 ho8 hg8; obtain ⟨a8, c8, rfl⟩ := own_form ho8; have ho8' : Nd w8 w2.heap.size (.slice a8 (l0.length + 1) c8) (l0 ++ [nd1]) := (by unfold Nd; rw [List.length_append, List.flatMap_append]; exact ho8); have N8 := hid ho8'; have R8 := hid ((RN.out.bw bq).grown ((N3.out.kp KN.out hrl).bw bq) hg8); have K8 := hid (((K3.out.trans KN.out).bw bq).own ((N3.out.kp KN.out hrl).bw bq) hg8 (Nat.le_refl _)); clear ho8 hg8 ho8')
     | fail)
    case roundEnd =>
     exact ⟨⟨f2, l0 ++ [nd1], 0 + 1, D1, by have := HF.out; omega, HNX.out, ⟨_, _, by rw [List.length_append]; rfl⟩, N8.out, rfl, R8.out, K8.out⟩, left_lt R3.out R8.out HE0.out HFL.out⟩
  ·obtain ⟨rfl, rfl, rfl⟩ : l0 = l1 ∧ k0 = k1 ∧ s0 = s1 := by simp only [Prod.mk.injEq] at hx; exact ⟨hx.1.symm, hx.2.1.symm, hx.2.2.symm⟩
   have HW := hid (fun w1 (hw : RdM w1 r T (o + 1) s0) => dwant_any ⟨#[41]⟩ hw)
   have HOW := hid (fun (e : (dWant T s0 ⟨#[41]⟩).e = 0) => HO.out ((fs_want (T := T) s0 ⟨#[41]⟩).2 e).1)
   obtain ⟨W, hW⟩ : ∃ W, dWant T s0 ⟨#[41]⟩ = W := ⟨_, rfl⟩
   rw [hW] at HW HOW HBK
   clear hW
   have HLB := hid hl0
   obtain ⟨J, hJ⟩ : ∃ J, l0 ++ lb = J := ⟨_, rfl⟩
   have hlj : l0.length + lb.length = J.length := by rw [← hJ, List.length_append]
   rw [hJ] at HLJ
   have hj0 := fun (w1 : World) (v : Value) (hsl : Sl w1 (fun _ => True) v J.length 5 (J.flatMap ndV)) (hl : J.length ≤ 10000000) => djoin_any (n0, n1, n2, k0, n4) (k0 + 1) v J hsl hl
   have hwp : IntKind.i64.wrap (k0 + 1) = k0 + 1 := by rw [IntKind.wrap_i64]; omega
   have HWP := hid hwp
   simp only [nodeV, HU.out] at hj0
   rw [← hwp] at hj0
   clear hwp
   have HJ0 := hid hj0
   have HJ := hid hJ
   have HJL := hid hlj
   clear hj0 hJ hlj
   clear hf hx HL
   by_cases he : s0.e = 0
   ·have e1 : (s0.e == 0) = true := by simpa using he
    have hi : dIs T s0 ⟨#[41]⟩ = true := by
     cases hq : dIs T s0 ⟨#[41]⟩
     ·exact absurd ⟨he, hq⟩ hno
     ·rfl
    rw [hi] at HI
    clear hi he hno
    go_wp2_with (first
     | (go_at_call 42; refine HI.out.mono ?_; rintro e w4 ⟨rfl, hb4⟩; have B4 := hid hb4; have R4 := hid (R3.out.bw hb4); (obtain ⟨g4, c4', q4, x4⟩ := R4.out.x); have z4 : w4.cell? ⟨r, 3, none⟩ = some (.int .i64 s0.e) := x4.b.cell 3; have zl4 : r < w4.heap.size := x4.b.lt; clear hb4 x4)
     | (go_at_call 48; refine (HW.out _ (R4.out.bw bq)).mono ?_; rintro e w6 ⟨rfl, hr6, hk6⟩; have K6 := hid (show Kp r wr w6 from Kp.trans (Kp.of_bw (B4.out.trans bq)) hk6); have N6 := hid (N3.out.kp K6.out hrl); have P6 := hid (P2.out.kp (K3.out.trans K6.out) (by omega)); have HNE := hid (show (Value.slice a4 l0.length c4).ownBlock ≠ some w.heap.size from fun e => by have h1 := (N6.out.lt _ e).1; have h2 := P2.out.lt; omega); (obtain ⟨q6, u0, u1, u2, HQ6⟩ := RdM.off hr6 HOW.out); have H6 := hid HQ6; have u3 := P6.out.cell; have u4 := P6.out.lt; have u6 := P6.out.free; have u5 : w.heap.size ≠ r := (by omega); clear hr6 hk6 HQ6)
     | fail)
    all_goals
     have R7 := hid (H6.out.setO (P6.out.other (by simp; omega) _) 3 (.int .i64 k0))
     have N7 := hid ((N6.out.kp ((Kp.refl r w6).set 2 (.int .i64 (wrap64 (q6 - 1)))) hrl).setO HNE.out 3 (.int .i64 k0))
     have K7 := hid (((((K2.out.trans K3.out).trans K6.out).set 2 (.int .i64 (wrap64 (q6 - 1)))).setNew (Nat.le_refl _) 3 (.int .i64 k0)))
     have P7 := hid (show Blk ((w6.setCell ⟨r, 2, none⟩ (.int .i64 (wrap64 (q6 - 1)))).setCell ⟨w.heap.size, 3, none⟩ (.int .i64 k0)) w.heap.size #[.int .i64 n0, .int .i64 n1, .string u, .int .i64 k0, .int .i64 n4] 43 from (P6.out.other (by simp; omega) _).set 3 _)
     have Z7 := hid (K3.out.trans K6.out).size
    all_goals go_region_held3 (fun w' => w'.cell? ⟨w.heap.size, 0, none⟩ = some (.int .i64 n0) ∧ w'.cell? ⟨w.heap.size, 1, none⟩ = some (.int .i64 n1) ∧ w'.cell? ⟨w.heap.size, 2, none⟩ = some (.string u) ∧ w'.cell? ⟨w.heap.size, 3, none⟩ = some (.int .i64 k0) ∧ w'.cell? ⟨w.heap.size, 4, none⟩ = some (.int .i64 n4)) (first | (simp [go_sem, *]; done)) (first
     | (go_at_call 43; (fail_if_success (have _g := N8)); refine (HBK.out _ (R7.out.bw bq)).mono ?_; rintro e w8 ⟨a8, c8, rfl, hn8, hr8, hk8, hl8⟩; have N8 := hid (hn8.low (b' := w2.heap.size) (by have := Z7.out; first | omega | (simp only [World.size_setCell]; omega) | (simp; omega))); have N78 := hid (N7.out.kp (Kp.trans (Kp.of_bw bq) hk8) hrl); have R8 := hid hr8; have K8 := hid (show Kp r w w8 from K7.out.trans (Kp.trans (Kp.of_bw bq) hk8)); have P8 := hid (show Blk w8 w.heap.size #[.int .i64 n0, .int .i64 n1, .string u, .int .i64 k0, .int .i64 n4] 43 from P7.out.kp (Kp.trans (Kp.of_bw bq) hk8) (by omega)); have L8 := hid hl8; have v5 := P8.out.cell; have v6 := P8.out.lt; clear hn8 hr8 hk8 hl8)
     | (go_at_call 50; refine (dboth_as J _ _ l0 lb HJ.out (N78.out.bw bq).sl (N8.out.bw bq).sl (by have := HLB.out; omega) (by have := L8.out; omega)).mono ?_; rintro e w10 ⟨a10, c10, rfl, hn10, hb10⟩; have N10 := hid hn10; have R10 := hid (R8.out.bw (Bw.trans bq hb10)); have K10 := hid (K8.out.bw (Bw.trans bq hb10)); have P10 := hid (P8.out.bw (Bw.trans bq hb10)); have v7 := P10.out.cell; have v8 := P10.out.lt; clear hn10 hb10)
     | (go_at_call 22; refine (HJ0.out _ _ (N10.out.bw bq).sl (by have h1 := HLB.out; have h2 := L8.out; have h3 := HJL.out; omega)).mono ?_; rintro e w9 ⟨a9, c9, rfl, hn9, hb9⟩; rw [HWP.out] at hn9; have N9 := hid hn9; have B9 := hid (show Bw w10 w9 from Bw.trans bq hb9); have P9 := hid (P10.out.bw B9.out); have v9 := P9.out.cell; have v10 := P9.out.lt; clear hn9 hb9)
     | fail)
    all_goals go_wp2
    all_goals go_ret
    all_goals try rw [HJ.out]
    all_goals exact ⟨_, _, rfl, N9.out.low K10.out.size, R10.out.bw B9.out, K10.out.bw B9.out, HLJ.out⟩
   ·have e1 : (s0.e == 0) = false := by simpa using he
    clear he hno HI
    go_wp2_with (first
     | (go_at_call 48; refine (HW.out _ (R3.out.bw bq)).mono ?_; rintro e w6 ⟨rfl, hr6, hk6⟩; have K6 := hid (show Kp r wr w6 from Kp.trans (Kp.of_bw bq) hk6); have N6 := hid (N3.out.kp K6.out hrl); have P6 := hid (P2.out.kp (K3.out.trans K6.out) (by omega)); have HNE := hid (show (Value.slice a4 l0.length c4).ownBlock ≠ some w.heap.size from fun e => by have h1 := (N6.out.lt _ e).1; have h2 := P2.out.lt; omega); (obtain ⟨q6, u0, u1, u2, HQ6⟩ := RdM.off hr6 HOW.out); have H6 := hid HQ6; have u3 := P6.out.cell; have u4 := P6.out.lt; have u6 := P6.out.free; have u5 : w.heap.size ≠ r := (by omega); clear hr6 hk6 HQ6)
     | fail)
    all_goals
     have R7 := hid (H6.out.setO (P6.out.other (by simp; omega) _) 3 (.int .i64 k0))
     have N7 := hid ((N6.out.kp ((Kp.refl r w6).set 2 (.int .i64 (wrap64 (q6 - 1)))) hrl).setO HNE.out 3 (.int .i64 k0))
     have K7 := hid (((((K2.out.trans K3.out).trans K6.out).set 2 (.int .i64 (wrap64 (q6 - 1)))).setNew (Nat.le_refl _) 3 (.int .i64 k0)))
     have P7 := hid (show Blk ((w6.setCell ⟨r, 2, none⟩ (.int .i64 (wrap64 (q6 - 1)))).setCell ⟨w.heap.size, 3, none⟩ (.int .i64 k0)) w.heap.size #[.int .i64 n0, .int .i64 n1, .string u, .int .i64 k0, .int .i64 n4] 43 from (P6.out.other (by simp; omega) _).set 3 _)
     have Z7 := hid (K3.out.trans K6.out).size
    all_goals go_region_held3 (fun w' => w'.cell? ⟨w.heap.size, 0, none⟩ = some (.int .i64 n0) ∧ w'.cell? ⟨w.heap.size, 1, none⟩ = some (.int .i64 n1) ∧ w'.cell? ⟨w.heap.size, 2, none⟩ = some (.string u) ∧ w'.cell? ⟨w.heap.size, 3, none⟩ = some (.int .i64 k0) ∧ w'.cell? ⟨w.heap.size, 4, none⟩ = some (.int .i64 n4)) (first | (simp [go_sem, *]; done)) (first
     | (go_at_call 43; (fail_if_success (have _g := N8)); refine (HBK.out _ (R7.out.bw bq)).mono ?_; rintro e w8 ⟨a8, c8, rfl, hn8, hr8, hk8, hl8⟩; have N8 := hid (hn8.low (b' := w2.heap.size) (by have := Z7.out; first | omega | (simp only [World.size_setCell]; omega) | (simp; omega))); have N78 := hid (N7.out.kp (Kp.trans (Kp.of_bw bq) hk8) hrl); have R8 := hid hr8; have K8 := hid (show Kp r w w8 from K7.out.trans (Kp.trans (Kp.of_bw bq) hk8)); have P8 := hid (show Blk w8 w.heap.size #[.int .i64 n0, .int .i64 n1, .string u, .int .i64 k0, .int .i64 n4] 43 from P7.out.kp (Kp.trans (Kp.of_bw bq) hk8) (by omega)); have L8 := hid hl8; have v5 := P8.out.cell; have v6 := P8.out.lt; clear hn8 hr8 hk8 hl8)
     | (go_at_call 50; refine (dboth_as J _ _ l0 lb HJ.out (N78.out.bw bq).sl (N8.out.bw bq).sl (by have := HLB.out; omega) (by have := L8.out; omega)).mono ?_; rintro e w10 ⟨a10, c10, rfl, hn10, hb10⟩; have N10 := hid hn10; have R10 := hid (R8.out.bw (Bw.trans bq hb10)); have K10 := hid (K8.out.bw (Bw.trans bq hb10)); have P10 := hid (P8.out.bw (Bw.trans bq hb10)); have v7 := P10.out.cell; have v8 := P10.out.lt; clear hn10 hb10)
     | (go_at_call 22; refine (HJ0.out _ _ (N10.out.bw bq).sl (by have h1 := HLB.out; have h2 := L8.out; have h3 := HJL.out; omega)).mono ?_; rintro e w9 ⟨a9, c9, rfl, hn9, hb9⟩; rw [HWP.out] at hn9; have N9 := hid hn9; have B9 := hid (show Bw w10 w9 from Bw.trans bq hb9); have P9 := hid (P10.out.bw B9.out); have v9 := P9.out.cell; have v10 := P9.out.lt; clear hn9 hb9)
     | fail)
    all_goals go_wp2
    all_goals go_ret
    all_goals try rw [HJ.out]
    all_goals exact ⟨_, _, rfl, N9.out.low K10.out.size, R10.out.bw B9.out, K10.out.bw B9.out, HLJ.out⟩

end

end Go.Proofs.YtdhkcdehedbpcaaDoor

namespace Go.Proofs.YtdhkcdehedbpcaaDoor
open Go Go.RowKit

section
variable {w w' : World} {r f : Nat} {T : List ATok} {o : Int} {s s' : DS} {l : List ANode} {k : Int}

theorem rowL_inv {x : List ANode × Int × DS} (h : dR T f (.severalL false l k) o s = some x) : ∃ g, f = g + 1 ∧ l.length ≤ 1000000 ∧ 0 ≤ k ∧ k ≤ 1000000 ∧
  ((s.e = 0 ∧ dIs T s ⟨#[93]⟩ = false ∧ ∃ s1 l1 k1 s3, s1 = (if 0 < k then dWant T s ⟨#[44]⟩ else s) ∧ dR T g (.expr 0) o s1 = some (l1, k1, s3) ∧ dR T g (.severalL false (l ++ l1) (k + 1)) o s3 = some x ∧ (s3.e = 0 → s.i < s3.i)) ∨ (¬ (s.e = 0 ∧ dIs T s ⟨#[93]⟩ = false) ∧ x = (l, k, s))) := by
 cases f with
 | zero => cases h
 | succ g =>
  unfold dR at h
  obtain ⟨h, h1, h2, h3⟩ := gde h
  refine ⟨g, rfl, h1, h2, h3, ?_⟩
  simp only [Bool.false_eq_true, if_false, false_and] at h
  rcases ite_some h with ⟨hi, h⟩ | ⟨hn, h⟩
  ·obtain ⟨⟨l1, k1, s1⟩, h4, h5⟩ := bnd h
   refine .inl ⟨hi.1, hi.2, _, l1, k1, s1, rfl, h4, h5, fun e => ?_⟩
   have a : Fw s (if 0 < k then dWant T s ⟨#[44]⟩ else s) := by split; exact (fs_want _ _).fw; exact Fw.refl _
   exact ((a.then ((dR_goes _ _ _ _ _ _ _ h4).fs rfl)).2 e).2
  ·exact .inr ⟨hn, (Option.some.inj h).symm⟩

set_option maxRecDepth 100000 in
set_option maxHeartbeats 8000000 in
theorem row_step (hc : ∀ g, g ≤ f → Con T r g) (n : ANode) (h : dR T (f + 1) (.several n false) o s = some (l, k, s')) (hr : RdM w r T o s) : Calls Tryd.prog 101 #[.pointer (some ⟨r, 0, none⟩), nodeV n, .string ⟨#[91]⟩, .string ⟨#[93]⟩] w (DG w r T o l s') := by
 unfold dR at h
 obtain ⟨⟨l1, k1, s1⟩, h1, h2⟩ := bnd h
 simp only [Bool.false_eq_true, if_false] at h1 h2
 obtain ⟨rfl, rfl, hlen⟩ := rete3 h2
 obtain ⟨n0, n1, n2, n3, n4⟩ := n
 simp only [nodeV] at hlen ⊢
 obtain ⟨u, hu⟩ : ∃ u, strOfNums n2 = u := ⟨_, rfl⟩
 rw [hu]
 have HU := hid hu
 have HLJ := hid hlen
 have HC := hid hc
 have HR := hid hr
 have hr0 := hr.lt
 have HO := hid (fun (e : s1.e = 0) => (hr.o (((fs_enter (T := T) o s ⟨#[91]⟩).2 ((dR_goes _ _ _ _ _ _ _ h1).fw.2 e)).1)).1)
 have HL := hid h1
 obtain ⟨i1, hi1, hz1, hs1, hy1⟩ := info_parts infoN8
 have I1 := hid (And.intro hi1 (And.intro hz1 (And.intro hs1 hy1)))
 have HEN := hid (fun w1 (hw : RdM w1 r T o s) => denter_any ⟨#[91]⟩ hw)
 unfold DG
 generalize dEnter T o s ⟨#[91]⟩ = A at HL HEN
 clear h1 h2 h hc hr hi1 hz1 hs1 hy1 hu hlen
 go_enter Tryd.func101, Tryd.ntmps101
 go_wp2_with (first
  | (go_at_call 68; refine (HEN.out _ (HR.out.bw bq)).mono ?_; rintro e w2 ⟨rfl, hr2, hk2⟩; have R2 := hid hr2; have P2 := hid (show Blk w2 w.heap.size #[.int .i64 20, .int .i64 n1, .string u, .int .i64 n3, .int .i64 n4] 43 from (Blk.new w _ _).kp hk2 (by omega)); have K2 := hid (show Kp r w w2 from Kp.trans (Kp.of_bw bq) hk2); have hrl : r < w2.heap.size := hr2.lt; clear hr2 hk2)
  | fail)
 go_loopw [9, 10] (fun v4 v5 wr => ∃ (f' : Nat) (l0 : List ANode) (k0 : Int) (s0 : DS), f' ≤ f ∧ dR T f' (.severalL false l0 k0) (o + 1) s0 = some (l1, k1, s1) ∧ (∃ a c, v4 = .slice a l0.length c) ∧ Nd wr w2.heap.size v4 l0 ∧ v5 = .int .i64 k0 ∧ RdM wr r T (o + 1) s0 ∧ Kp r w2 wr) (fun _ _ wr => rdL T.length wr r)
 case atStart => exact ⟨f, [], 0, A, Nat.le_refl _, HL.out, ⟨none, 0, rfl⟩, Nd.nil _ _, rfl, R2.out, Kp.refl _ _⟩
 case round =>
  obtain ⟨f', l0, k0, s0, hf, hd, ⟨a4, c4, rfl⟩, hn, rfl, hrd, hkp⟩ := hrel
  have R3 := hid hrd
  have N3 := hid hn
  have K3 := hid hkp
  have HI := hid (dis_any ⟨#[93]⟩ hrd)
  obtain ⟨g, c, q, x⟩ := hrd.x
  have z3 : wr.cell? ⟨r, 3, none⟩ = some (.int .i64 s0.e) := x.b.cell 3
  have zl : r < wr.heap.size := x.b.lt
  obtain ⟨f2, rfl, hl0, hk0, hk1, hcase⟩ := rowL_inv hd
  clear x hn hkp hrd hd
  rcases hcase with ⟨he, hi, t1, l2, k2, s3, ht1, hst, hnx, hfl⟩ | ⟨hno, hx⟩
  ·have e1 : (s0.e == 0) = true := by simpa using he
   rw [hi] at HI
   have HX := hid (fun w1 (hw : RdM w1 r T (o + 1) t1) => (HC.out f2 (by omega)).expr 0 hst hw)
   unfold DG at HX
   have HNX := hid hnx
   have HFL := hid hfl
   have HE0 := hid he
   have HF := hid hf
   have HW := hid (fun w1 (hw : RdM w1 r T (o + 1) s0) => dwant_any ⟨#[44]⟩ hw)
   clear hst hnx hi hf hfl
   by_cases hk : 0 < k0
   ·rw [if_pos hk] at ht1
    rw [← ht1] at HW
    have kk : ¬ k0 = 0 := by omega
    clear ht1 he
    go_wp2_with (first
     | (go_at_call 42; refine HI.out.mono ?_; rintro e w4 ⟨rfl, hb4⟩; have B4 := hid hb4; have R4 := hid (R3.out.bw hb4); (obtain ⟨g4, c4', q4, x4⟩ := R4.out.x); have z4 : w4.cell? ⟨r, 3, none⟩ = some (.int .i64 s0.e) := x4.b.cell 3; have zl4 : r < w4.heap.size := x4.b.lt; clear hb4 x4)
     | (go_at_call 48; refine (HW.out _ (R4.out.bw bq)).mono ?_; rintro e w5 ⟨rfl, hr5, hk5⟩; have R5 := hid hr5; have K5 := hid (show Kp r wr w5 from Kp.trans (Kp.of_bw (B4.out.trans bq)) hk5); (obtain ⟨g5, c5, q5, x5⟩ := hr5.x); have z5 : w5.cell? ⟨r, 3, none⟩ = some (.int .i64 t1.e) := x5.b.cell 3; have zl5 : r < w5.heap.size := x5.b.lt; clear hr5 hk5 x5)
     | (go_at_call 49; refine (HX.out _ (R5.out.bw bq)).mono ?_; rintro e w7 ⟨a7, c7, rfl, hn7, hr7, hk7, hl7⟩; have N7 := hid hn7; have R7 := hid hr7; have K7 := hid (show Kp r wr w7 from K5.out.trans (Kp.trans (Kp.of_bw bq) hk7)); have L7 := hid hl7; clear hn7 hr7 hk7 hl7)
     | (at_builtin; refine wpList_append_sl (G := fun _ => True) _ rfl _ _ 24 rfl w2.heap.size 43 i1 (.agg #[.int .i64 0, .int .i64 0, .string ⟨#[]⟩, .int .i64 0, .int .i64 0]) 5 48 undN8 I1.out.1 I1.out.2.1 I1.out.2.2.1 I1.out.2.2.2 rfl (by decide) (.slice a4 l0.length c4) l0.length (l0.flatMap ndV) rfl (N3.out.kp K7.out hrl) (.slice a7 l2.length c7) l2.length (l2.flatMap ndV) rfl N7.out.sl (nd_one _) (by have := L7.out; unfold maxLen; omega) (by have := L7.out; omega) (Nat.le_trans K3.out.size K7.out.size) ?_; intro v8 w8 ho8 hg8; obtain ⟨a8, c8, rfl⟩ := own_form ho8; have ho8' : Nd w8 w2.heap.size (.slice a8 (l0.length + l2.length) c8) (l0 ++ l2) := (by unfold Nd; rw [List.length_append, List.flatMap_append]; exact ho8); have N8 := hid ho8'; have R8 := hid (R7.out.grown (N3.out.kp K7.out hrl) hg8); have K8 := hid ((K3.out.trans K7.out).own (N3.out.kp K7.out hrl) hg8 (Nat.le_refl _)); clear ho8 hg8 ho8')
     | fail)
    case roundEnd =>
     exact ⟨⟨f2, l0 ++ l2, k0 + 1, s3, by have := HF.out; omega, HNX.out, ⟨_, _, by rw [List.length_append]⟩, N8.out, rfl, R8.out, K8.out⟩, left_lt R3.out R8.out HE0.out HFL.out⟩
   ·rw [if_neg hk] at ht1
    obtain rfl : k0 = 0 := by omega
    rw [ht1] at HX
    clear hk he ht1
    go_wp2_with (first
     | (go_at_call 42; refine HI.out.mono ?_; rintro e w4 ⟨rfl, hb4⟩; have B4 := hid hb4; have R4 := hid (R3.out.bw hb4); (obtain ⟨g4, c4', q4, x4⟩ := R4.out.x); have z4 : w4.cell? ⟨r, 3, none⟩ = some (.int .i64 s0.e) := x4.b.cell 3; have zl4 : r < w4.heap.size := x4.b.lt; clear hb4 x4)
     | (go_at_call 49; refine (HX.out _ (R4.out.bw bq)).mono ?_; rintro e w7 ⟨a7, c7, rfl, hn7, hr7, hk7, hl7⟩; have N7 := hid hn7; have R7 := hid hr7; have K7 := hid (show Kp r wr w7 from Kp.trans (Kp.of_bw (B4.out.trans bq)) hk7); have L7 := hid hl7; clear hn7 hr7 hk7 hl7)
     | (at_builtin; refine wpList_append_sl (G := fun _ => True) _ rfl _ _ 24 rfl w2.heap.size 43 i1 (.agg #[.int .i64 0, .int .i64 0, .string ⟨#[]⟩, .int .i64 0, .int .i64 0]) 5 48 undN8 I1.out.1 I1.out.2.1 I1.out.2.2.1 I1.out.2.2.2 rfl (by decide) (.slice a4 l0.length c4) l0.length (l0.flatMap ndV) rfl (N3.out.kp K7.out hrl) (.slice a7 l2.length c7) l2.length (l2.flatMap ndV) rfl N7.out.sl (nd_one _) (by have := L7.out; unfold maxLen; omega) (by have := L7.out; omega) (Nat.le_trans K3.out.size K7.out.size) ?_; intro v8 w8 ho8 hg8; obtain ⟨a8, c8, rfl⟩ := own_form ho8; have ho8' : Nd w8 w2.heap.size (.slice a8 (l0.length + l2.length) c8) (l0 ++ l2) := (by unfold Nd; rw [List.length_append, List.flatMap_append]; exact ho8); have N8 := hid ho8'; have R8 := hid (R7.out.grown (N3.out.kp K7.out hrl) hg8); have K8 := hid ((K3.out.trans K7.out).own (N3.out.kp K7.out hrl) hg8 (Nat.le_refl _)); clear ho8 hg8 ho8')
     | fail)
    case roundEnd =>
     exact ⟨⟨f2, l0 ++ l2, 0 + 1, s3, by have := HF.out; omega, HNX.out, ⟨_, _, by rw [List.length_append]⟩, N8.out, rfl, R8.out, K8.out⟩, left_lt R3.out R8.out HE0.out HFL.out⟩
  ·obtain ⟨rfl, rfl, rfl⟩ : l0 = l1 ∧ k0 = k1 ∧ s0 = s1 := by simp only [Prod.mk.injEq] at hx; exact ⟨hx.1.symm, hx.2.1.symm, hx.2.2.symm⟩
   have HW := hid (fun w1 (hw : RdM w1 r T (o + 1) s0) => dwant_any ⟨#[93]⟩ hw)
   have HOW := hid (fun (e : (dWant T s0 ⟨#[93]⟩).e = 0) => HO.out ((fs_want (T := T) s0 ⟨#[93]⟩).2 e).1)
   obtain ⟨W, hW⟩ : ∃ W, dWant T s0 ⟨#[93]⟩ = W := ⟨_, rfl⟩
   rw [hW] at HW HOW
   have HWE := hid hW
   clear hW
   have HLB := hid hl0
   have hj0 := fun (w1 : World) (v : Value) (hsl : Sl w1 (fun _ => True) v l0.length 5 (l0.flatMap ndV)) => djoin_any (20, n1, n2, n3, n4) k0 v l0 hsl (by omega)
   simp only [nodeV, HU.out] at hj0
   have HJ0 := hid hj0
   clear hj0
   clear hf hx HL hl0 hk0 hk1
   by_cases he : s0.e = 0
   ·have e1 : (s0.e == 0) = true := by simpa using he
    have hi : dIs T s0 ⟨#[93]⟩ = true := by
     cases hq : dIs T s0 ⟨#[93]⟩
     ·exact absurd ⟨he, hq⟩ hno
     ·rfl
    rw [hi] at HI
    clear hi he hno
    go_wp2_with (first
     | (go_at_call 42; refine HI.out.mono ?_; rintro e w4 ⟨rfl, hb4⟩; have B4 := hid hb4; have R4 := hid (R3.out.bw hb4); (obtain ⟨g4, c4', q4, x4⟩ := R4.out.x); have z4 : w4.cell? ⟨r, 3, none⟩ = some (.int .i64 s0.e) := x4.b.cell 3; have zl4 : r < w4.heap.size := x4.b.lt; clear hb4 x4)
     | (go_at_call 48; refine (HW.out _ (R4.out.bw bq)).mono ?_; rintro e w6 ⟨rfl, hr6, hk6⟩; have K6 := hid (show Kp r wr w6 from Kp.trans (Kp.of_bw (B4.out.trans bq)) hk6); have N6 := hid (N3.out.kp K6.out hrl); have P6 := hid (P2.out.kp (K3.out.trans K6.out) (by omega)); (obtain ⟨q6, u0, u1, u2, HQ6⟩ := RdM.off hr6 HOW.out); have H6 := hid HQ6; have u3 := P6.out.cell; have u4 := P6.out.lt; have u5 : w.heap.size ≠ r := (by omega); clear hr6 hk6 HQ6)
     | (go_at_call 22; refine (HJ0.out _ _ (N6.out.kp ((Kp.refl r w6).set 2 _) hrl).sl).mono ?_; rintro e w9 ⟨a9, c9, rfl, hn9, hb9⟩; have N9 := hid hn9; have B9 := hid hb9; clear hn9 hb9)
     | fail)
    all_goals go_ret
    all_goals exact ⟨_, _, rfl, N9.out.low (by have h1 := ((K2.out.trans K3.out).trans K6.out).size; simp only [World.size_setCell]; exact h1), by rw [HWE.out]; exact H6.out.bw B9.out, ((((K2.out.trans K3.out).trans K6.out).set 2 _).bw B9.out), HLJ.out⟩
   ·have e1 : (s0.e == 0) = false := by simpa using he
    clear he hno HI
    go_wp2_with (first
     | (go_at_call 48; refine (HW.out _ (R3.out.bw bq)).mono ?_; rintro e w6 ⟨rfl, hr6, hk6⟩; have K6 := hid (show Kp r wr w6 from Kp.trans (Kp.of_bw bq) hk6); have N6 := hid (N3.out.kp K6.out hrl); have P6 := hid (P2.out.kp (K3.out.trans K6.out) (by omega)); (obtain ⟨q6, u0, u1, u2, HQ6⟩ := RdM.off hr6 HOW.out); have H6 := hid HQ6; have u3 := P6.out.cell; have u4 := P6.out.lt; have u5 : w.heap.size ≠ r := (by omega); clear hr6 hk6 HQ6)
     | (go_at_call 22; refine (HJ0.out _ _ (N6.out.kp ((Kp.refl r w6).set 2 _) hrl).sl).mono ?_; rintro e w9 ⟨a9, c9, rfl, hn9, hb9⟩; have N9 := hid hn9; have B9 := hid hb9; clear hn9 hb9)
     | fail)
    all_goals go_ret
    all_goals exact ⟨_, _, rfl, N9.out.low (by have h1 := ((K2.out.trans K3.out).trans K6.out).size; simp only [World.size_setCell]; exact h1), by rw [HWE.out]; exact H6.out.bw B9.out, ((((K2.out.trans K3.out).trans K6.out).set 2 _).bw B9.out), HLJ.out⟩

end

end Go.Proofs.YtdhkcdehedbpcaaDoor

