/- The document's parser: several, rows: contracts, by steps. · The document's parser: several, rows and records. -/
import Derived.Test.YtdhkcdehedbpcaaDoorM8
import Derived.Test.YtdhkcdehedbpcaaDoorM11
set_option linter.unusedSimpArgs false
set_option linter.unusedVariables false
namespace Go.Proofs.YtdhkcdehedbpcaaDoor
open Go Go.RowKit

section
variable {w w' : World} {r f : Nat} {T : List ATok} {o : Int} {s s' : DS} {l : List ANode} {k : Int}

theorem rowL_inv {x : List ANode × Int × DS} (h : dR T f (.severalL false l k) o s = some x) : ∃ g, f = g + 1 ∧ l.length ≤ 1000000 ∧ 0 ≤ k ∧ k ≤ 1000000 ∧
    ((s.e = 0 ∧ dIs T s ⟨#[93]⟩ = false ∧ ∃ s1 l1 k1 s3, s1 = (if 0 < k then dWant T s ⟨#[44]⟩ else s) ∧ dR T g (.expr 0) o s1 = some (l1, k1, s3) ∧ dR T g (.severalL false (l ++ l1) (k + 1)) o s3 = some x ∧ (s3.e = 0 → s.i < s3.i)) ∨ (¬ (s.e = 0 ∧ dIs T s ⟨#[93]⟩ = false) ∧ x = (l, k, s))) := by
  cases f with
  | zero => cases h
  | succ g =>
    unfold dR at h
    obtain ⟨h, h1, h2, h3⟩ := gde h
    refine ⟨g, rfl, h1, h2, h3, ?_⟩
    simp only [Bool.false_eq_true, if_false, false_and] at h
    rcases ite_some h with ⟨hi, h⟩ | ⟨hn, h⟩
    · obtain ⟨⟨l1, k1, s1⟩, h4, h5⟩ := bnd h
      refine .inl ⟨hi.1, hi.2, _, l1, k1, s1, rfl, h4, h5, fun e => ?_⟩
      have a : Fw s (if 0 < k then dWant T s ⟨#[44]⟩ else s) := by split; exact (fs_want _ _).fw; exact Fw.refl _
      exact ((a.then ((dR_goes _ _ _ _ _ _ _ h4).fs rfl)).2 e).2
    · exact .inr ⟨hn, (Option.some.inj h).symm⟩

set_option maxRecDepth 100000 in
set_option maxHeartbeats 8000000 in
theorem row_step (hc : ∀ g, g ≤ f → Con T r g) (n : ANode) (h : dR T (f + 1) (.several n false) o s = some (l, k, s')) (hr : RdM w r T o s) : Calls Tryd.prog 101 #[.pointer (some ⟨r, 0, none⟩), nodeV n, .string ⟨#[91]⟩, .string ⟨#[93]⟩] w (DG w r T o l s') := by
  unfold dR at h
  obtain ⟨⟨l1, k1, s1⟩, h1, h2⟩ := bnd h
  simp only [Bool.false_eq_true, if_false] at h1 h2
  obtain ⟨rfl, rfl, hlen⟩ := rete3 h2
  obtain ⟨n0, n1, n2, n3, n4⟩ := n
  simp only [nodeV] at hlen ⊢
  obtain ⟨u, hu⟩ : ∃ u, strOfNums n2 = u := ⟨_, rfl⟩
  rw [hu]
  have HU := hid hu
  have HLJ := hid hlen
  have HC := hid hc
  have HR := hid hr
  have hr0 := hr.lt
  have HO := hid (fun (e : s1.e = 0) => (hr.o (((fs_enter (T := T) o s ⟨#[91]⟩).2 ((dR_goes _ _ _ _ _ _ _ h1).fw.2 e)).1)).1)
  have HL := hid h1
  obtain ⟨i1, hi1, hz1, hs1, hy1⟩ := info_parts infoN8
  have I1 := hid (And.intro hi1 (And.intro hz1 (And.intro hs1 hy1)))
  have HEN := hid (fun w1 (hw : RdM w1 r T o s) => denter_any ⟨#[91]⟩ hw)
  unfold DG
  generalize dEnter T o s ⟨#[91]⟩ = A at HL HEN
  clear h1 h2 h hc hr hi1 hz1 hs1 hy1 hu hlen
  go_enter Tryd.func101, Tryd.ntmps101
  go_wp2_with (first
    | (go_at_call 68; refine (HEN.out _ (HR.out.bw bq)).mono ?_; rintro e w2 ⟨rfl, hr2, hk2⟩; have R2 := hid hr2; have P2 := hid (show Blk w2 w.heap.size #[.int .i64 20, .int .i64 n1, .string u, .int .i64 n3, .int .i64 n4] 43 from (Blk.new w _ _).kp hk2 (by omega)); have K2 := hid (show Kp r w w2 from Kp.trans (Kp.of_bw bq) hk2); have hrl : r < w2.heap.size := hr2.lt; clear hr2 hk2)
    | fail)
  go_loopw [9, 10] (fun v4 v5 wr => ∃ (f' : Nat) (l0 : List ANode) (k0 : Int) (s0 : DS), f' ≤ f ∧ dR T f' (.severalL false l0 k0) (o + 1) s0 = some (l1, k1, s1) ∧ (∃ a c, v4 = .slice a l0.length c) ∧ Nd wr w2.heap.size v4 l0 ∧ v5 = .int .i64 k0 ∧ RdM wr r T (o + 1) s0 ∧ Kp r w2 wr) (fun _ _ wr => rdL T.length wr r)
  case atStart => exact ⟨f, [], 0, A, Nat.le_refl _, HL.out, ⟨none, 0, rfl⟩, Nd.nil _ _, rfl, R2.out, Kp.refl _ _⟩
  case round =>
    obtain ⟨f', l0, k0, s0, hf, hd, ⟨a4, c4, rfl⟩, hn, rfl, hrd, hkp⟩ := hrel
    have R3 := hid hrd
    have N3 := hid hn
    have K3 := hid hkp
    have HI := hid (dis_any ⟨#[93]⟩ hrd)
    obtain ⟨g, c, q, x⟩ := hrd.x
    have z3 : wr.cell? ⟨r, 3, none⟩ = some (.int .i64 s0.e) := x.b.cell 3
    have zl : r < wr.heap.size := x.b.lt
    obtain ⟨f2, rfl, hl0, hk0, hk1, hcase⟩ := rowL_inv hd
    clear x hn hkp hrd hd
    rcases hcase with ⟨he, hi, t1, l2, k2, s3, ht1, hst, hnx, hfl⟩ | ⟨hno, hx⟩
    · have e1 : (s0.e == 0) = true := by simpa using he
      rw [hi] at HI
      have HX := hid (fun w1 (hw : RdM w1 r T (o + 1) t1) => (HC.out f2 (by omega)).expr 0 hst hw)
      unfold DG at HX
      have HNX := hid hnx
      have HFL := hid hfl
      have HE0 := hid he
      have HF := hid hf
      have HW := hid (fun w1 (hw : RdM w1 r T (o + 1) s0) => dwant_any ⟨#[44]⟩ hw)
      clear hst hnx hi hf hfl
      by_cases hk : 0 < k0
      · rw [if_pos hk] at ht1
        rw [← ht1] at HW
        have kk : ¬ k0 = 0 := by omega
        clear ht1 he
        go_wp2_with (first
          | (go_at_call 42; refine HI.out.mono ?_; rintro e w4 ⟨rfl, hb4⟩; have B4 := hid hb4; have R4 := hid (R3.out.bw hb4); (obtain ⟨g4, c4', q4, x4⟩ := R4.out.x); have z4 : w4.cell? ⟨r, 3, none⟩ = some (.int .i64 s0.e) := x4.b.cell 3; have zl4 : r < w4.heap.size := x4.b.lt; clear hb4 x4)
          | (go_at_call 48; refine (HW.out _ (R4.out.bw bq)).mono ?_; rintro e w5 ⟨rfl, hr5, hk5⟩; have R5 := hid hr5; have K5 := hid (show Kp r wr w5 from Kp.trans (Kp.of_bw (B4.out.trans bq)) hk5); (obtain ⟨g5, c5, q5, x5⟩ := hr5.x); have z5 : w5.cell? ⟨r, 3, none⟩ = some (.int .i64 t1.e) := x5.b.cell 3; have zl5 : r < w5.heap.size := x5.b.lt; clear hr5 hk5 x5)
          | (go_at_call 49; refine (HX.out _ (R5.out.bw bq)).mono ?_; rintro e w7 ⟨a7, c7, rfl, hn7, hr7, hk7, hl7⟩; have N7 := hid hn7; have R7 := hid hr7; have K7 := hid (show Kp r wr w7 from K5.out.trans (Kp.trans (Kp.of_bw bq) hk7)); have L7 := hid hl7; clear hn7 hr7 hk7 hl7)
          | (at_builtin; refine wpList_append_sl (G := fun _ => True) _ rfl _ _ 24 rfl w2.heap.size 43 i1 (.agg #[.int .i64 0, .int .i64 0, .string ⟨#[]⟩, .int .i64 0, .int .i64 0]) 5 48 undN8 I1.out.1 I1.out.2.1 I1.out.2.2.1 I1.out.2.2.2 rfl (by decide) (.slice a4 l0.length c4) l0.length (l0.flatMap ndV) rfl (N3.out.kp K7.out hrl) (.slice a7 l2.length c7) l2.length (l2.flatMap ndV) rfl N7.out.sl (nd_one _) (by have := L7.out; unfold maxLen; omega) (by have := L7.out; omega) (Nat.le_trans K3.out.size K7.out.size) ?_; intro v8 w8 ho8 hg8; obtain ⟨a8, c8, rfl⟩ := own_form ho8; have ho8' : Nd w8 w2.heap.size (.slice a8 (l0.length + l2.length) c8) (l0 ++ l2) := (by unfold Nd; rw [List.length_append, List.flatMap_append]; exact ho8); have N8 := hid ho8'; have R8 := hid (R7.out.grown (N3.out.kp K7.out hrl) hg8); have K8 := hid ((K3.out.trans K7.out).own (N3.out.kp K7.out hrl) hg8 (Nat.le_refl _)); clear ho8 hg8 ho8')
          | fail)
        case roundEnd =>
          exact ⟨⟨f2, l0 ++ l2, k0 + 1, s3, by have := HF.out; omega, HNX.out, ⟨_, _, by rw [List.length_append]⟩, N8.out, rfl, R8.out, K8.out⟩, left_lt R3.out R8.out HE0.out HFL.out⟩
      · rw [if_neg hk] at ht1
        obtain rfl : k0 = 0 := by omega
        rw [ht1] at HX
        clear hk he ht1
        go_wp2_with (first
          | (go_at_call 42; refine HI.out.mono ?_; rintro e w4 ⟨rfl, hb4⟩; have B4 := hid hb4; have R4 := hid (R3.out.bw hb4); (obtain ⟨g4, c4', q4, x4⟩ := R4.out.x); have z4 : w4.cell? ⟨r, 3, none⟩ = some (.int .i64 s0.e) := x4.b.cell 3; have zl4 : r < w4.heap.size := x4.b.lt; clear hb4 x4)
          | (go_at_call 49; refine (HX.out _ (R4.out.bw bq)).mono ?_; rintro e w7 ⟨a7, c7, rfl, hn7, hr7, hk7, hl7⟩; have N7 := hid hn7; have R7 := hid hr7; have K7 := hid (show Kp r wr w7 from Kp.trans (Kp.of_bw (B4.out.trans bq)) hk7); have L7 := hid hl7; clear hn7 hr7 hk7 hl7)
          | (at_builtin; refine wpList_append_sl (G := fun _ => True) _ rfl _ _ 24 rfl w2.heap.size 43 i1 (.agg #[.int .i64 0, .int .i64 0, .string ⟨#[]⟩, .int .i64 0, .int .i64 0]) 5 48 undN8 I1.out.1 I1.out.2.1 I1.out.2.2.1 I1.out.2.2.2 rfl (by decide) (.slice a4 l0.length c4) l0.length (l0.flatMap ndV) rfl (N3.out.kp K7.out hrl) (.slice a7 l2.length c7) l2.length (l2.flatMap ndV) rfl N7.out.sl (nd_one _) (by have := L7.out; unfold maxLen; omega) (by have := L7.out; omega) (Nat.le_trans K3.out.size K7.out.size) ?_; intro v8 w8 ho8 hg8; obtain ⟨a8, c8, rfl⟩ := own_form ho8; have ho8' : Nd w8 w2.heap.size (.slice a8 (l0.length + l2.length) c8) (l0 ++ l2) := (by unfold Nd; rw [List.length_append, List.flatMap_append]; exact ho8); have N8 := hid ho8'; have R8 := hid (R7.out.grown (N3.out.kp K7.out hrl) hg8); have K8 := hid ((K3.out.trans K7.out).own (N3.out.kp K7.out hrl) hg8 (Nat.le_refl _)); clear ho8 hg8 ho8')
          | fail)
        case roundEnd =>
          exact ⟨⟨f2, l0 ++ l2, 0 + 1, s3, by have := HF.out; omega, HNX.out, ⟨_, _, by rw [List.length_append]⟩, N8.out, rfl, R8.out, K8.out⟩, left_lt R3.out R8.out HE0.out HFL.out⟩
    · obtain ⟨rfl, rfl, rfl⟩ : l0 = l1 ∧ k0 = k1 ∧ s0 = s1 := by simp only [Prod.mk.injEq] at hx; exact ⟨hx.1.symm, hx.2.1.symm, hx.2.2.symm⟩
      have HW := hid (fun w1 (hw : RdM w1 r T (o + 1) s0) => dwant_any ⟨#[93]⟩ hw)
      have HOW := hid (fun (e : (dWant T s0 ⟨#[93]⟩).e = 0) => HO.out ((fs_want (T := T) s0 ⟨#[93]⟩).2 e).1)
      obtain ⟨W, hW⟩ : ∃ W, dWant T s0 ⟨#[93]⟩ = W := ⟨_, rfl⟩
      rw [hW] at HW HOW
      have HWE := hid hW
      clear hW
      have HLB := hid hl0
      have hj0 := fun (w1 : World) (v : Value) (hsl : Sl w1 (fun _ => True) v l0.length 5 (l0.flatMap ndV)) => djoin_any (20, n1, n2, n3, n4) k0 v l0 hsl (by omega)
      simp only [nodeV, HU.out] at hj0
      have HJ0 := hid hj0
      clear hj0
      clear hf hx HL hl0 hk0 hk1
      by_cases he : s0.e = 0
      · have e1 : (s0.e == 0) = true := by simpa using he
        have hi : dIs T s0 ⟨#[93]⟩ = true := by
          cases hq : dIs T s0 ⟨#[93]⟩
          · exact absurd ⟨he, hq⟩ hno
          · rfl
        rw [hi] at HI
        clear hi he hno
        go_wp2_with (first
          | (go_at_call 42; refine HI.out.mono ?_; rintro e w4 ⟨rfl, hb4⟩; have B4 := hid hb4; have R4 := hid (R3.out.bw hb4); (obtain ⟨g4, c4', q4, x4⟩ := R4.out.x); have z4 : w4.cell? ⟨r, 3, none⟩ = some (.int .i64 s0.e) := x4.b.cell 3; have zl4 : r < w4.heap.size := x4.b.lt; clear hb4 x4)
          | (go_at_call 48; refine (HW.out _ (R4.out.bw bq)).mono ?_; rintro e w6 ⟨rfl, hr6, hk6⟩; have K6 := hid (show Kp r wr w6 from Kp.trans (Kp.of_bw (B4.out.trans bq)) hk6); have N6 := hid (N3.out.kp K6.out hrl); have P6 := hid (P2.out.kp (K3.out.trans K6.out) (by omega)); (obtain ⟨q6, u0, u1, u2, HQ6⟩ := RdM.off hr6 HOW.out); have H6 := hid HQ6; have u3 := P6.out.cell; have u4 := P6.out.lt; have u5 : w.heap.size ≠ r := (by omega); clear hr6 hk6 HQ6)
          | (go_at_call 22; refine (HJ0.out _ _ (N6.out.kp ((Kp.refl r w6).set 2 _) hrl).sl).mono ?_; rintro e w9 ⟨a9, c9, rfl, hn9, hb9⟩; have N9 := hid hn9; have B9 := hid hb9; clear hn9 hb9)
          | fail)
        all_goals go_ret
        all_goals exact ⟨_, _, rfl, N9.out.low (by have h1 := ((K2.out.trans K3.out).trans K6.out).size; simp only [World.size_setCell]; exact h1), by rw [HWE.out]; exact H6.out.bw B9.out, ((((K2.out.trans K3.out).trans K6.out).set 2 _).bw B9.out), HLJ.out⟩
      · have e1 : (s0.e == 0) = false := by simpa using he
        clear he hno HI
        go_wp2_with (first
          | (go_at_call 48; refine (HW.out _ (R3.out.bw bq)).mono ?_; rintro e w6 ⟨rfl, hr6, hk6⟩; have K6 := hid (show Kp r wr w6 from Kp.trans (Kp.of_bw bq) hk6); have N6 := hid (N3.out.kp K6.out hrl); have P6 := hid (P2.out.kp (K3.out.trans K6.out) (by omega)); (obtain ⟨q6, u0, u1, u2, HQ6⟩ := RdM.off hr6 HOW.out); have H6 := hid HQ6; have u3 := P6.out.cell; have u4 := P6.out.lt; have u5 : w.heap.size ≠ r := (by omega); clear hr6 hk6 HQ6)
          | (go_at_call 22; refine (HJ0.out _ _ (N6.out.kp ((Kp.refl r w6).set 2 _) hrl).sl).mono ?_; rintro e w9 ⟨a9, c9, rfl, hn9, hb9⟩; have N9 := hid hn9; have B9 := hid hb9; clear hn9 hb9)
          | fail)
        all_goals go_ret
        all_goals exact ⟨_, _, rfl, N9.out.low (by have h1 := ((K2.out.trans K3.out).trans K6.out).size; simp only [World.size_setCell]; exact h1), by rw [HWE.out]; exact H6.out.bw B9.out, ((((K2.out.trans K3.out).trans K6.out).set 2 _).bw B9.out), HLJ.out⟩

end

end Go.Proofs.YtdhkcdehedbpcaaDoor

set_option linter.unusedVariables false
namespace Go.Proofs.YtdhkcdehedbpcaaDoor
open Go Go.RowKit

theorem several_step {w : World} {r f : Nat} {T : List ATok} {o : Int} {s s' : DS} {l : List ANode} {k : Int} (hc : ∀ g, g ≤ f → Con T r g) (n : ANode) (rc : Bool) (h : dR T (f + 1) (.several n rc) o s = some (l, k, s')) (hr : RdM w r T o s) : Calls Tryd.prog 101 #[.pointer (some ⟨r, 0, none⟩), nodeV n, .string (if rc then ⟨#[123]⟩ else ⟨#[91]⟩), .string (if rc then ⟨#[125]⟩ else ⟨#[93]⟩)] w (DG w r T o l s') := by
  cases rc with
  | false => exact row_step hc n h hr
  | true => exact rec_step hc n h hr

end Go.Proofs.YtdhkcdehedbpcaaDoor

