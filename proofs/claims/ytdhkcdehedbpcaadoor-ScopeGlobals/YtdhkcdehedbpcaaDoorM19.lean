/- The document's parser: thing: contracts, by steps. · All the parser's functions at once: what they promise at any number of steps. · The document's Parse, over the tokens of its Lex. -/
import Derived.Test.YtdhkcdehedbpcaaDoorM7
import Derived.Test.YtdhkcdehedbpcaaDoorM9
import Derived.Test.YtdhkcdehedbpcaaDoorM11
import Derived.Test.YtdhkcdehedbpcaaDoorM6
import Derived.Test.YtdhkcdehedbpcaaDoorDplk
import Derived.Test.YtdhkcdehedbpcaaDoorM12
import Derived.Test.YtdhkcdehedbpcaaDoorM13
import Derived.Test.YtdhkcdehedbpcaaDoorM15
import Derived.Test.YtdhkcdehedbpcaaDoorM2
import Derived.Test.YtdhkcdehedbpcaaDoorM18
set_option linter.unusedSimpArgs false
set_option linter.unusedVariables false
namespace Go.Proofs.YtdhkcdehedbpcaaDoor
open Go Go.RowKit

section
variable {w w' : World} {r f : Nat} {T : List ATok} {o : Int} {s s' : DS} {l : List ANode} {k : Int}

theorem thingL_inv {x : List ANode} {X : List ANode × Int × DS} (h : dR T f (.thingL x) o s = some X) : ∃ g, f = g + 1 ∧ x.length ≤ 1000000 ∧
    ((s.e ≠ 0 ∧ X = (x, 0, s)) ∨
     (s.e = 0 ∧ dIs T s ⟨#[40]⟩ = true ∧ ∃ l1 k1 s1, dR T g .args o s = some (l1, k1, s1) ∧ dR T g (.thingL (dJoin (28, 0, [], 0, dAt0 x) (k1 + 1) (x ++ l1))) o s1 = some X) ∨
     (s.e = 0 ∧ dIs T s ⟨#[40]⟩ = false ∧ dIs T s ⟨#[91]⟩ = true ∧ ∃ l1 k1 s1, dR T g (.expr 0) (o + 1) (dEnter T o s ⟨#[91]⟩) = some (l1, k1, s1) ∧ dR T g (.thingL (dJoin (29, 0, [], 0, dAt0 x) 2 (x ++ l1))) o (dWant T s1 ⟨#[93]⟩) = some X) ∨
     (s.e = 0 ∧ dIs T s ⟨#[40]⟩ = false ∧ dIs T s ⟨#[91]⟩ = false ∧ dIs T s ⟨#[46]⟩ = true ∧ dR T g (.thingL (dJoin (30, 0, dNameT T (dNx s), 0, dAt0 x) 1 x)) o (dNameS T (dNx s)) = some X) ∨
     (s.e = 0 ∧ dIs T s ⟨#[40]⟩ = false ∧ dIs T s ⟨#[91]⟩ = false ∧ dIs T s ⟨#[46]⟩ = false ∧ X = (x, 0, s))) := by
  cases f with
  | zero => cases h
  | succ g =>
    unfold dR at h
    obtain ⟨h, h1, _⟩ := gde h
    refine ⟨g, rfl, h1, ?_⟩
    rcases ite_some h with ⟨hi, h⟩ | ⟨hn, h⟩
    · obtain ⟨l', k', s'⟩ := X
      have e := rete3 h
      refine .inl ⟨hi, ?_⟩
      unfold dret at h; rw [if_pos e.2.2] at h; exact (Option.some.inj h).symm
    have he : s.e = 0 := by simpa using hn
    refine .inr ?_
    rcases ite_some h with ⟨hi, h⟩ | ⟨hn1, h⟩
    · obtain ⟨⟨l1, k1, s1⟩, h4, h5⟩ := bnd h
      exact .inl ⟨he, hi, l1, k1, s1, h4, h5⟩
    have e1 : dIs T s ⟨#[40]⟩ = false := by simpa using hn1
    refine .inr ?_
    rcases ite_some h with ⟨hi, h⟩ | ⟨hn2, h⟩
    · obtain ⟨⟨l1, k1, s1⟩, h4, h5⟩ := bnd h
      exact .inl ⟨he, e1, hi, l1, k1, s1, h4, h5⟩
    have e2 : dIs T s ⟨#[91]⟩ = false := by simpa using hn2
    refine .inr ?_
    rcases ite_some h with ⟨hi, h⟩ | ⟨hn3, h⟩
    · exact .inl ⟨he, e1, e2, hi, h⟩
    have e3 : dIs T s ⟨#[46]⟩ = false := by simpa using hn3
    obtain ⟨l', k', s'⟩ := X
    have e := rete3 h
    refine .inr ⟨he, e1, e2, e3, ?_⟩
    unfold dret at h; rw [if_pos e.2.2] at h; exact (Option.some.inj h).symm

set_option maxRecDepth 100000 in
set_option maxHeartbeats 8000000 in
theorem thing_step (hc : ∀ g, g ≤ f → Con T r g) (h : dR T (f + 1) .thing o s = some (l, k, s')) (hr : RdM w r T o s) : Calls Tryd.prog 71 #[.pointer (some ⟨r, 0, none⟩)] w (DG w r T o l s') := by
  unfold dR at h
  obtain ⟨⟨l1, k1, s1⟩, h1, h2⟩ := bnd h
  simp only at h2
  have HC := hid hc
  have HR := hid hr
  have hrl := hr.lt
  have HP := hid (fun w1 (hw : RdM w1 r T o s) => (hc f (Nat.le_refl _)).prim h1 hw)
  have HL := hid h2
  have HNE := hid (fun e => (dR_goes _ _ _ _ _ _ _ h1).ne rfl e)
  have HLL := hid (dR_len h2)
  unfold DG at HP ⊢
  clear h1 h2 h hc hr
  go_enter Tryd.func71, Tryd.ntmps71
  go_wp2_with (first
    | (go_at_call 85; refine (HP.out _ HR.out).mono ?_; rintro e w1 ⟨a1, c1, rfl, hn1, hr1, hk1, hl1⟩; have N1 := hid hn1; have R1 := hid hr1; have K1 := hid hk1; clear hn1 hr1 hk1 hl1)
    | fail)
  go_loopw [3] (fun v3 wr => ∃ (f' : Nat) (x0 : List ANode) (s0 : DS), f' ≤ f ∧ dR T f' (.thingL x0) o s0 = some (l, k, s') ∧ (∃ a c, v3 = .slice a x0.length c) ∧ Nd wr w.heap.size v3 x0 ∧ (s0.e = 0 → x0 ≠ []) ∧ RdM wr r T o s0 ∧ Kp r w wr) (fun _ wr => rdL T.length wr r)
  case atStart => exact ⟨f, l1, s1, Nat.le_refl _, HL.out, ⟨_, _, rfl⟩, N1.out, HNE.out, R1.out, K1.out⟩
  case round =>
    obtain ⟨f', x0, s0, hf, hd, ⟨a3, c3, rfl⟩, hn, hne, hrd, hkp⟩ := hrel
    have R3 := hid hrd
    have N3 := hid hn
    have K3 := hid hkp
    have HOO := hid hrd.o
    obtain ⟨g, c, q, x⟩ := hrd.x
    have z3 : wr.cell? ⟨r, 3, none⟩ = some (.int .i64 s0.e) := x.b.cell 3
    have zl : r < wr.heap.size := x.b.lt
    obtain ⟨f2, rfl, hx0, hcase⟩ := thingL_inv hd
    have HX0 := hid hx0
    have HF := hid hf
    have HI1 := hid (fun w1 (hw : RdM w1 r T o s0) => dis_any ⟨#[40]⟩ hw)
    have HI2 := hid (fun w1 (hw : RdM w1 r T o s0) => dis_any ⟨#[91]⟩ hw)
    have HE := hid (fun w1 (hw : RdM w1 r T o s0) => deat_any ⟨#[46]⟩ hw)
    unfold dEat at HE
    clear x hkp hrd hd hx0 hf HL
    rcases hcase with ⟨he, hx⟩ | hcase
    · simp only [Prod.mk.injEq] at hx
      obtain ⟨rfl, rfl, rfl⟩ := hx
      have e1 : (s'.e == 0) = false := by simpa using he
      clear he hn hne HI1 HI2 HE
      go_wp2
      all_goals go_ret
      all_goals exact ⟨_, _, rfl, N3.out, R3.out, K3.out, HLL.out⟩
    have he0 : s0.e = 0 := by rcases hcase with h | h | h | h <;> exact h.1
    have e1 : (s0.e == 0) = true := by simpa using he0
    obtain ⟨g3, e3, gb3, gl3, gp3, y0, y4, yf0, yf4⟩ := hn.head (hne he0)
    subst e3
    have HE0 := hid he0
    rcases hcase with ⟨_, i1, l1, k1, s1, h4, h5⟩ | ⟨_, i1, i2, l1, k1, s1, h4, h5⟩ | ⟨_, i1, i2, i3, h5⟩ | ⟨_, i1, i2, i3, hx⟩
    · rw [i1] at HI1
      have HV := hid (fun w1 (hw : RdM w1 r T o s0) => (HC.out f2 (by have := HF.out; omega)).args h4 hw)
      have HFL := hid (fun (e : s1.e = 0) => (((dR_goes _ _ _ _ _ _ _ h4).fs rfl).2 e).2)
      obtain ⟨J, hJ⟩ : ∃ J, x0 ++ l1 = J := ⟨_, rfl⟩
      rw [hJ] at h5
      have HNX := hid h5
      have LJ := hid (show J.length ≤ 2000000 by have a : l1.length ≤ 1000000 := dR_len h4; have := HX0.out; rw [← hJ, List.length_append]; omega)
      have HJ := hid hJ
      clear h4 h5 hJ i1 he0 hn hne HI2 HE
      go_wp2_with (first
        | (go_at_call 42; (fail_if_success (have _g := R4)); refine (HI1.out _ (R3.out.bw bq)).mono ?_; rintro e w4 ⟨rfl, hb4⟩; have R4 := hid (R3.out.bw (Bw.trans bq hb4)); have K4 := hid (show Kp r w w4 from K3.out.bw (Bw.trans bq hb4)); have N4 := hid (N3.out.bw (Bw.trans bq hb4)); have P4 := hid (show Blk w4 wr.heap.size #[.int .i64 0, .int .i64 0, .string { data := #[] }, .int .i64 0, .int .i64 (dAt0 x0)] 43 from (Blk.new wr _ _).bw hb4); have ur4 : r < w4.heap.size := R4.out.lt; have ul4 := P4.out.lt; have u4 := P4.out.cell; have uf4 := P4.out.free; clear hb4)
        | (go_at_call 86; refine (HV.out _ (R4.out.setO P4.out 0 _)).mono ?_; rintro e w7 ⟨a7, c7, rfl, hn7, hr7, hk7, hl7, hka, hkb⟩; have N7 := hid (hn7.low (b' := w.heap.size) (by have := K4.out.size; simp only [World.size_setCell]; omega)); have M7 := hid ((N4.out.setO (N3.out.old (Nat.le_refl _)) 0 _).kp hk7 hrl); have R7 := hid hr7; have K7 := hid (show Kp r w w7 from Kp.trans (K4.out.setNew K3.out.size 0 _) hk7); have P7 := hid (show Blk w7 wr.heap.size #[.int .i64 28, .int .i64 0, .string { data := #[] }, .int .i64 0, .int .i64 (dAt0 x0)] 43 from (P4.out.set 0 _).kp hk7 (by have := K3.out.size; omega)); have L7 := hid hl7; have ul7 := P7.out.lt; have u7 := P7.out.cell; have HKW := hid (show IntKind.i64.wrap (k1 + 1) = k1 + 1 by rw [IntKind.wrap_i64]; omega); clear hn7 hr7 hk7 hl7 hka hkb)
        | fail)
      go_region_held3 (fun w' => w'.cell? ⟨wr.heap.size, 0, none⟩ = some (.int .i64 28) ∧ w'.cell? ⟨wr.heap.size, 1, none⟩ = some (.int .i64 0) ∧ w'.cell? ⟨wr.heap.size, 2, none⟩ = some (.string { data := #[] }) ∧ w'.cell? ⟨wr.heap.size, 3, none⟩ = some (.int .i64 0) ∧ w'.cell? ⟨wr.heap.size, 4, none⟩ = some (.int .i64 (dAt0 x0))) (first | (simp [go_sem, *]; done)) (first
        | (go_at_call 50; refine (dboth_as J _ _ x0 l1 HJ.out (M7.out.bw bq).sl (N7.out.bw bq).sl (by have := HX0.out; omega) (by have := L7.out; omega)).mono ?_; rintro e w10 ⟨a10, c10, rfl, hn10, hb10⟩; have N10 := hid hn10; have R10 := hid (R7.out.bw (Bw.trans bq hb10)); have K10 := hid (K7.out.bw (Bw.trans bq hb10)); have P10 := hid (P7.out.bw (Bw.trans bq hb10)); have v7 := P10.out.cell; have v8 := P10.out.lt; clear hn10 hb10)
        | (go_at_call 22; refine (djoin_any (28, 0, [], 0, dAt0 x0) _ _ J (N10.out.bw bq).sl (by have := LJ.out; omega)).mono ?_; rintro e w9 ⟨a9, c9, rfl, hn9, hb9⟩; (try rw [HKW.out] at hn9); have N9 := hid hn9; have B9 := hid (show Bw w10 w9 from Bw.trans bq hb9); have P9 := hid (P10.out.bw B9.out); have v9 := P9.out.cell; have v10 := P9.out.lt; clear hn9 hb9)
        | fail)
      all_goals go_wp2
      case roundEnd =>
        exact ⟨⟨f2, dJoin (28, 0, [], 0, dAt0 x0) (k1 + 1) J, s1, by have := HF.out; omega, HNX.out, ⟨_, _, rfl⟩, N9.out.low K10.out.size, fun _ => dJoin_ne _ _ _, R10.out.bw B9.out, K10.out.bw B9.out⟩, left_lt R3.out (R10.out.bw B9.out) HE0.out HFL.out⟩
    · rw [i1] at HI1
      rw [i2] at HI2
      have HV := hid (fun w1 (hw : RdM w1 r T (o + 1) (dEnter T o s0 ⟨#[91]⟩)) => (HC.out f2 (by have := HF.out; omega)).expr 0 h4 hw)
      unfold DG at HV
      have HEN := hid (fun w1 (hw : RdM w1 r T o s0) => denter_any ⟨#[91]⟩ hw)
      have HW := hid (fun w1 (hw : RdM w1 r T (o + 1) s1) => dwant_any ⟨#[93]⟩ hw)
      have HFL := hid (fun (e : (dWant T s1 ⟨#[93]⟩).e = 0) => (((fs_enter (T := T) o s0 ⟨#[91]⟩).then ((dR_goes _ _ _ _ _ _ _ h4).fw.trans (fs_want (T := T) s1 ⟨#[93]⟩).fw)).2 e).2)
      have HOW := hid (fun (e : (dWant T s1 ⟨#[93]⟩).e = 0) => (HOO.out he0).1)
      obtain ⟨J, hJ⟩ : ∃ J, x0 ++ l1 = J := ⟨_, rfl⟩
      rw [hJ] at h5
      have LJ := hid (show J.length ≤ 2000000 by have a : l1.length ≤ 1000000 := dR_len h4; have := HX0.out; rw [← hJ, List.length_append]; omega)
      have HJ := hid hJ
      generalize dEnter T o s0 ⟨#[91]⟩ = A at HEN HV
      generalize dWant T s1 ⟨#[93]⟩ = W at HW HFL HOW h5
      have HNX := hid h5
      clear h4 h5 hJ i1 i2 he0 hn hne HE
      go_wp2_with (first
        | (go_at_call 42; (fail_if_success (have _g := R4)); refine (HI1.out _ (R3.out.bw bq)).mono ?_; rintro e w4 ⟨rfl, hb4⟩; have R4 := hid (R3.out.bw (Bw.trans bq hb4)); have K4 := hid (show Kp r w w4 from K3.out.bw (Bw.trans bq hb4)); have N4 := hid (N3.out.bw (Bw.trans bq hb4)); have P4 := hid (show Blk w4 wr.heap.size #[.int .i64 0, .int .i64 0, .string { data := #[] }, .int .i64 0, .int .i64 (dAt0 x0)] 43 from (Blk.new wr _ _).bw hb4); have ur4 : r < w4.heap.size := R4.out.lt; have ul4 := P4.out.lt; have u4 := P4.out.cell; have uf4 := P4.out.free; clear hb4)
        | (go_at_call 42; have _g := R4; clear _g; (fail_if_success (have _g := R5)); refine (HI2.out _ (R4.out.bw bq)).mono ?_; rintro e w5 ⟨rfl, hb5⟩; have R5 := hid (R4.out.bw (Bw.trans bq hb5)); have K5 := hid (show Kp r w w5 from K4.out.bw (Bw.trans bq hb5)); have N5 := hid (N4.out.bw (Bw.trans bq hb5)); have P5 := hid (show Blk w5 wr.heap.size #[.int .i64 0, .int .i64 0, .string { data := #[] }, .int .i64 0, .int .i64 (dAt0 x0)] 43 from P4.out.bw hb5); have ur5 : r < w5.heap.size := R5.out.lt; have ul5 := P5.out.lt; have u5 := P5.out.cell; have uf5 := P5.out.free; clear hb5)
        | (go_at_call 68; refine (HEN.out _ (R5.out.setO P5.out 0 _)).mono ?_; rintro e w6 ⟨rfl, hr6, hk6⟩; have R6 := hid hr6; have K6 := hid (show Kp r w w6 from Kp.trans (K5.out.setNew K3.out.size 0 _) hk6); have M6 := hid ((N5.out.setO (N3.out.old (Nat.le_refl _)) 0 _).kp hk6 hrl); have P6 := hid (show Blk w6 wr.heap.size #[.int .i64 29, .int .i64 0, .string { data := #[] }, .int .i64 0, .int .i64 (dAt0 x0)] 43 from (P5.out.set 0 _).kp hk6 (by have := K3.out.size; omega)); clear hr6 hk6)
        | (go_at_call 49; refine (HV.out _ (R6.out.bw bq)).mono ?_; rintro e w7 ⟨a7, c7, rfl, hn7, hr7, hk7, hl7⟩; have N7 := hid (hn7.low (b' := w.heap.size) (Nat.le_trans K6.out.size (by first | (simp; done) | exact Nat.le_refl _))); have M7 := hid (M6.out.kp (Kp.trans (Kp.of_bw bq) hk7) hrl); have R7 := hid hr7; have K7 := hid (show Kp r w w7 from K6.out.trans (Kp.trans (Kp.of_bw bq) hk7)); have P7 := hid (P6.out.kp (Kp.trans (Kp.of_bw bq) hk7) (by have := K3.out.size; omega)); have L7 := hid hl7; clear hn7 hr7 hk7 hl7)
        | (go_at_call 48; refine (HW.out _ (R7.out.bw bq)).mono ?_; rintro e w8 ⟨rfl, hr8, hk8⟩; have K8a := hid (show Kp r w w8 from K7.out.trans (Kp.trans (Kp.of_bw bq) hk8)); have N8a := hid (N7.out.kp (Kp.trans (Kp.of_bw bq) hk8) hrl); have M8a := hid (M7.out.kp (Kp.trans (Kp.of_bw bq) hk8) hrl); have P8a := hid (P7.out.kp (Kp.trans (Kp.of_bw bq) hk8) (by have := K3.out.size; omega)); (obtain ⟨q6, z0, z1, z2, HQ6⟩ := RdM.off hr8 HOW.out); have R8 := hid HQ6; have K8 := hid (K8a.out.set 2 (.int .i64 (wrap64 (q6 - 1)))); have N8 := hid (N8a.out.kp ((Kp.refl r w8).set 2 (.int .i64 (wrap64 (q6 - 1)))) hrl); have M8 := hid (M8a.out.kp ((Kp.refl r w8).set 2 (.int .i64 (wrap64 (q6 - 1)))) hrl); have P8 := hid (P8a.out.kp ((Kp.refl r w8).set 2 (.int .i64 (wrap64 (q6 - 1)))) (by have := K3.out.size; omega)); have ul8 := P8a.out.lt; have u8 := P8a.out.cell; have un : wr.heap.size ≠ r := (by have := K3.out.size; omega); clear hr8 hk8 HQ6)
        | fail)
      go_region_held3 (fun w' => w'.cell? ⟨wr.heap.size, 0, none⟩ = some (.int .i64 29) ∧ w'.cell? ⟨wr.heap.size, 1, none⟩ = some (.int .i64 0) ∧ w'.cell? ⟨wr.heap.size, 2, none⟩ = some (.string { data := #[] }) ∧ w'.cell? ⟨wr.heap.size, 3, none⟩ = some (.int .i64 0) ∧ w'.cell? ⟨wr.heap.size, 4, none⟩ = some (.int .i64 (dAt0 x0))) (first | (simp [go_sem, *]; done)) (first
        | (go_at_call 50; refine (dboth_as J _ _ x0 l1 HJ.out (M8.out.bw bq).sl (N8.out.bw bq).sl (by have := HX0.out; omega) (by have := L7.out; omega)).mono ?_; rintro e w10 ⟨a10, c10, rfl, hn10, hb10⟩; have N10 := hid hn10; have R10 := hid (R8.out.bw (Bw.trans bq hb10)); have K10 := hid (K8.out.bw (Bw.trans bq hb10)); have P10 := hid (P8.out.bw (Bw.trans bq hb10)); have v7 := P10.out.cell; have v8 := P10.out.lt; clear hn10 hb10)
        | (go_at_call 22; refine (djoin_any (29, 0, [], 0, dAt0 x0) 2 _ J (N10.out.bw bq).sl (by have := LJ.out; omega)).mono ?_; rintro e w9 ⟨a9, c9, rfl, hn9, hb9⟩; have N9 := hid hn9; have B9 := hid (show Bw w10 w9 from Bw.trans bq hb9); have P9 := hid (P10.out.bw B9.out); have v9 := P9.out.cell; have v10 := P9.out.lt; clear hn9 hb9)
        | fail)
      all_goals go_wp2
      case roundEnd =>
        exact ⟨⟨f2, dJoin (29, 0, [], 0, dAt0 x0) 2 J, W, by have := HF.out; omega, HNX.out, ⟨_, _, rfl⟩, N9.out.low K10.out.size, fun _ => dJoin_ne _ _ _, R10.out.bw B9.out, K10.out.bw B9.out⟩, left_lt R3.out (R10.out.bw B9.out) HE0.out HFL.out⟩
    · rw [i1] at HI1
      rw [i2] at HI2
      rw [i3, if_pos rfl] at HE
      have HNM := hid (fun w1 (hw : RdM w1 r T o (dNx s0)) => dname_any hw)
      have HFL := hid (fun (e : (dNameS T (dNx s0)).e = 0) => (((fs_nx s0 he0).then (fs_name (T := T) (dNx s0)).fw).2 e).2)
      generalize dNameS T (dNx s0) = W at HNM HFL h5
      generalize dNameT T (dNx s0) = nx at HNM h5
      have HNX := hid h5
      have HU := hid (show strOfNums nx = strOfNums nx from rfl)
      clear h5 i1 i2 i3 he0 hn hne
      go_wp2_with (first
        | (go_at_call 42; (fail_if_success (have _g := R4)); refine (HI1.out _ (R3.out.bw bq)).mono ?_; rintro e w4 ⟨rfl, hb4⟩; have R4 := hid (R3.out.bw (Bw.trans bq hb4)); have K4 := hid (show Kp r w w4 from K3.out.bw (Bw.trans bq hb4)); have N4 := hid (N3.out.bw (Bw.trans bq hb4)); have P4 := hid (show Blk w4 wr.heap.size #[.int .i64 0, .int .i64 0, .string { data := #[] }, .int .i64 0, .int .i64 (dAt0 x0)] 43 from (Blk.new wr _ _).bw hb4); have ur4 : r < w4.heap.size := R4.out.lt; have ul4 := P4.out.lt; have u4 := P4.out.cell; have uf4 := P4.out.free; clear hb4)
        | (go_at_call 42; have _g := R4; clear _g; (fail_if_success (have _g := R5)); refine (HI2.out _ (R4.out.bw bq)).mono ?_; rintro e w5 ⟨rfl, hb5⟩; have R5 := hid (R4.out.bw (Bw.trans bq hb5)); have K5 := hid (show Kp r w w5 from K4.out.bw (Bw.trans bq hb5)); have N5 := hid (N4.out.bw (Bw.trans bq hb5)); have P5 := hid (show Blk w5 wr.heap.size #[.int .i64 0, .int .i64 0, .string { data := #[] }, .int .i64 0, .int .i64 (dAt0 x0)] 43 from P4.out.bw hb5); have ur5 : r < w5.heap.size := R5.out.lt; have ul5 := P5.out.lt; have u5 := P5.out.cell; have uf5 := P5.out.free; clear hb5)
        | (go_at_call 47; refine (HE.out _ (R5.out.bw bq)).mono ?_; rintro e w6 ⟨rfl, hr6, hk6⟩; have R6 := hid hr6; have K6 := hid (show Kp r w w6 from K5.out.trans (Kp.trans (Kp.of_bw bq) hk6)); have N6 := hid (N5.out.kp (Kp.trans (Kp.of_bw bq) hk6) hrl); have P6 := hid (show Blk w6 wr.heap.size #[.int .i64 0, .int .i64 0, .string { data := #[] }, .int .i64 0, .int .i64 (dAt0 x0)] 43 from P5.out.kp (Kp.trans (Kp.of_bw bq) hk6) (by have := K3.out.size; omega)); clear hr6 hk6)
        | (go_at_call 45; refine (HNM.out _ (R6.out.bw bq)).mono ?_; rintro e w7 ⟨rfl, hr7, hk7⟩; have R7 := hid hr7; have K7 := hid (show Kp r w w7 from K6.out.trans (Kp.trans (Kp.of_bw bq) hk7)); have N7 := hid (N6.out.kp (Kp.trans (Kp.of_bw bq) hk7) hrl); have P7 := hid (show Blk w7 wr.heap.size #[.int .i64 0, .int .i64 0, .string { data := #[] }, .int .i64 0, .int .i64 (dAt0 x0)] 43 from P6.out.kp (Kp.trans (Kp.of_bw bq) hk7) (by have := K3.out.size; omega)); have ul7 := P7.out.lt; have u7 := P7.out.cell; have uf7 := P7.out.free; clear hr7 hk7)
        | (go_at_call 22; refine (djoin_any (30, 0, nx, 0, dAt0 x0) 1 _ x0 ((N7.out.setO (N3.out.old (Nat.le_refl _)) 0 _).setO (N3.out.old (Nat.le_refl _)) 2 _).sl (by have := HX0.out; omega)).mono ?_; rintro e w9 ⟨a9, c9, rfl, hn9, hb9⟩; have N9 := hid hn9; have B9 := hid hb9; clear hn9 hb9)
        | fail)
      case roundEnd =>
        exact ⟨⟨f2, dJoin (30, 0, nx, 0, dAt0 x0) 1 x0, W, by have := HF.out; omega, HNX.out, ⟨_, _, rfl⟩, N9.out.low (by have := K7.out.size; simp only [World.size_setCell]; omega), fun _ => dJoin_ne _ _ _, ((R7.out.setO P7.out 0 _).setO (P7.out.set 0 _) 2 _).bw B9.out, ((K7.out.setNew K3.out.size 0 _).setNew K3.out.size 2 _).bw B9.out⟩, left_lt R3.out (((R7.out.setO P7.out 0 _).setO (P7.out.set 0 _) 2 _).bw B9.out) HE0.out HFL.out⟩
    · have HXE := hid hx
      clear hx
      rw [i1] at HI1
      rw [i2] at HI2
      rw [i3, if_neg (by decide)] at HE
      clear i1 i2 i3 he0 hn hne
      go_wp2_with (first
        | (go_at_call 42; (fail_if_success (have _g := R4)); refine (HI1.out _ (R3.out.bw bq)).mono ?_; rintro e w4 ⟨rfl, hb4⟩; have R4 := hid (R3.out.bw (Bw.trans bq hb4)); have K4 := hid (show Kp r w w4 from K3.out.bw (Bw.trans bq hb4)); have N4 := hid (N3.out.bw (Bw.trans bq hb4)); have P4 := hid (show Blk w4 wr.heap.size #[.int .i64 0, .int .i64 0, .string { data := #[] }, .int .i64 0, .int .i64 (dAt0 x0)] 43 from (Blk.new wr _ _).bw hb4); have ur4 : r < w4.heap.size := R4.out.lt; have ul4 := P4.out.lt; have u4 := P4.out.cell; have uf4 := P4.out.free; clear hb4)
        | (go_at_call 42; have _g := R4; clear _g; (fail_if_success (have _g := R5)); refine (HI2.out _ (R4.out.bw bq)).mono ?_; rintro e w5 ⟨rfl, hb5⟩; have R5 := hid (R4.out.bw (Bw.trans bq hb5)); have K5 := hid (show Kp r w w5 from K4.out.bw (Bw.trans bq hb5)); have N5 := hid (N4.out.bw (Bw.trans bq hb5)); have P5 := hid (show Blk w5 wr.heap.size #[.int .i64 0, .int .i64 0, .string { data := #[] }, .int .i64 0, .int .i64 (dAt0 x0)] 43 from P4.out.bw hb5); have ur5 : r < w5.heap.size := R5.out.lt; have ul5 := P5.out.lt; have u5 := P5.out.cell; have uf5 := P5.out.free; clear hb5)
        | (go_at_call 47; refine (HE.out _ (R5.out.bw bq)).mono ?_; rintro e w6 ⟨rfl, hr6, hk6⟩; have R6 := hid hr6; have K6 := hid (show Kp r w w6 from K5.out.trans (Kp.trans (Kp.of_bw bq) hk6)); have N6 := hid (N5.out.kp (Kp.trans (Kp.of_bw bq) hk6) hrl); have P6 := hid (show Blk w6 wr.heap.size #[.int .i64 0, .int .i64 0, .string { data := #[] }, .int .i64 0, .int .i64 (dAt0 x0)] 43 from P5.out.kp (Kp.trans (Kp.of_bw bq) hk6) (by have := K3.out.size; omega)); clear hr6 hk6)
        | fail)
      all_goals go_ret
      all_goals
        obtain ⟨rfl, rfl, rfl⟩ := (by simpa using HXE.out : l = x0 ∧ k = 0 ∧ s' = s0)
        exact ⟨_, _, rfl, N6.out, R6.out, K6.out, HLL.out⟩

end

end Go.Proofs.YtdhkcdehedbpcaaDoor

set_option linter.unusedSimpArgs false
set_option linter.unusedVariables false
namespace Go.Proofs.YtdhkcdehedbpcaaDoor
open Go Go.RowKit

theorem dR_zero {T : List ATok} {q : Dq} {o : Int} {s : DS} {x : List ANode × Int × DS} (h : dR T 0 q o s = some x) : False := by
  unfold dR at h
  cases h

theorem con_zero (T : List ATok) (r : Nat) : Con T r 0 :=
  ⟨fun h _ => (dR_zero h).elim, fun _ h _ => (dR_zero h).elim, fun h _ => (dR_zero h).elim, fun h _ => (dR_zero h).elim, fun h _ => (dR_zero h).elim, fun _ _ _ h _ => (dR_zero h).elim, fun _ h _ => (dR_zero h).elim, fun h _ => (dR_zero h).elim, fun h _ => (dR_zero h).elim, fun h _ => (dR_zero h).elim, fun _ h _ => (dR_zero h).elim, fun _ _ h _ => (dR_zero h).elim⟩

theorem con_le (T : List ATok) (r : Nat) : ∀ (f g : Nat), g ≤ f → Con T r g
  | 0, g, hg => by
    obtain rfl : g = 0 := by omega
    exact con_zero T r
  | f + 1, g, hg => by
    by_cases h : g ≤ f
    · exact con_le T r f g h
    · obtain rfl : g = f + 1 := by omega
      have hc := con_le T r f
      exact ⟨fun h hr => block_step hc h hr, fun n h hr => func_step hc n h hr, fun h hr => choice_step hc h hr, fun h hr => stmt_step hc h hr, fun h hr => plain_step hc h hr, fun t k lev h hr => ahead_step hc t k lev h hr, fun lev h hr => expr_step hc lev h hr, fun h hr => thing_step hc h hr, fun h hr => args_step hc h hr, fun h hr => prim_step hc h hr, fun n h hr => about_step hc n h hr, fun n rc h hr => several_step hc n rc h hr⟩

theorem con_any (T : List ATok) (r f : Nat) : Con T r f := con_le T r f f (Nat.le_refl _)

end Go.Proofs.YtdhkcdehedbpcaaDoor

set_option linter.unusedSimpArgs false
set_option linter.unusedVariables false
namespace Go.Proofs.YtdhkcdehedbpcaaDoor
open Go Go.RowKit

theorem prog_inv {T : List ATok} {f : Nat} {l : List ANode} {k : Int} {s : DS} {x : List ANode × Int × DS} (h : dProgL T f l k s = some x) : ∃ g, f = g + 1 ∧
    ((s.e = 0 ∧ (dtk T s.i).1 ≠ 0 ∧ ∃ l1 k1 s1, dR T g .stmt 0 s = some (l1, k1, s1) ∧ dProgL T g (l ++ l1) (k + 1) s1 = some x) ∨ (¬ (s.e = 0 ∧ (dtk T s.i).1 ≠ 0) ∧ x = (l, k, s))) := by
  cases f with
  | zero => cases h
  | succ g =>
    unfold dProgL at h
    refine ⟨g, rfl, ?_⟩
    rcases ite_some h with ⟨hi, h⟩ | ⟨hn, h⟩
    · obtain ⟨⟨l1, k1, s1⟩, h4, h5⟩ := bnd h
      exact .inl ⟨hi.1, hi.2, l1, k1, s1, h4, h5⟩
    · exact .inr ⟨hn, (Option.some.inj h).symm⟩

theorem prog_le {T : List ATok} : ∀ (f : Nat) {l L : List ANode} {k K : Int} {s S : DS}, dProgL T f l k s = some (L, K, S) → l.length ≤ L.length ∧ k ≤ K
  | 0, _, _, _, _, _, _, h => by cases h
  | f + 1, l, L, k, K, s, S, h => by
    obtain ⟨g, hg, hc⟩ := prog_inv h
    obtain rfl : f = g := by omega
    rcases hc with ⟨_, _, l1, k1, s1, _, h2⟩ | ⟨_, h2⟩
    · have := prog_le f h2
      rw [List.length_append] at this
      omega
    · simp only [Prod.mk.injEq] at h2
      obtain ⟨rfl, rfl, _⟩ := h2
      exact ⟨Nat.le_refl _, Int.le_refl _⟩

/-- The tokens of Lex as the reader sees them. -/
theorem tkm_of {w : World} {base : Nat} {v : Value} {T : List ATok} (h : Tk w base v T) (h0 : 0 < T.length) (hm : T.length ≤ 100000) : TkM w w.heap.size v T := by
  rcases h.2 with ⟨_, h1⟩ | ⟨g, cap, cur, rfl, hb, hg, hnc, hmx, hsz, htake⟩
  · omega
  · refine ⟨g, cap, cur, rfl, ?_, hg, hm, fun i j hi hj => ?_⟩
    · have := (Array.getElem?_eq_some_iff.1 hg).1
      omega
    · have hd : dtk T i = T[i] := by unfold dtk; rw [List.getD_eq_getElem?_getD, List.getElem?_eq_getElem hi]; rfl
      rw [hd, ← flat_get T i hi j hj, ← htake, List.getElem?_take, if_pos (by omega)]
      simp

theorem rdm_new {w : World} {v : Value} {T : List ATok} (h : TkM w w.heap.size v T) (h0 : 0 < T.length) (hE : EndT8 T) : RdM (w.alloc (.cells #[v, .int .i64 0, .int .i64 0, .int .i64 0, .int .i64 0] 68)) w.heap.size T 0 ⟨0, 0, 0⟩ :=
  ⟨⟨v, 0, Blk.new w _ _, h.kp (Kp.of_bw (Bw.alloc (Bw.refl _) _)), fun _ => rfl⟩, h0, fun _ => by omega, hE⟩

section
variable {w : World}

set_option maxRecDepth 100000 in
set_option maxHeartbeats 8000000 in
theorem rParse_any {v : Value} {b : List Int} {f : Nat} {L : List ANode} {K : Int} {S : DS} (hb : By w v b) (hm : b.length ≤ 4000) (hx : (lexA b).2.1 = 0) (h0 : 0 < (lexA b).1.length) (hT : (lexA b).1.length ≤ 100000) (hE : EndT8 (lexA b).1)
    (hp : dProgL (lexA b).1 f [] 0 ⟨0, 0, 0⟩ = some (L, K, S)) (hl : L.length ≤ 1000000) (hk : K ≤ 1000000) (hs : S.e = 0) :
    Calls Tryd.prog 9 #[v] w fun e w' => ∃ a c, e = .returned (.tuple #[.slice a (L.length + 1) c, .int .i64 0, .int .i64 b.length]) ∧ Nd w' w.heap.size (.slice a (L.length + 1) c) (dJoin (1, 0, [], 0, 0) K L) ∧ Bw w w' := by
  have HLX := hid (rLex_any v b w hb hm)
  rw [hx] at HLX
  obtain ⟨av, cv, rfl⟩ := hb.form
  generalize ((lexA b).2.2 : Nat) = at0 at HLX
  generalize (lexA b).1 = T at h0 hT hE hp HLX
  have H0 := hid h0
  have HT := hid hT
  have HE := hid hE
  have HP := hid hp
  have HS := hid hs
  have HL := hid hl
  have HK := hid hk
  have hbl : b.length ≤ 4000 := hm
  obtain ⟨i1, hi1, hz1, hs1, hy1⟩ := info_parts infoN8
  have I1 := hid (And.intro hi1 (And.intro hz1 (And.intro hs1 hy1)))
  clear hx h0 hT hE hp hs hl hk hi1 hz1 hs1 hy1 hb
  go_enter Tryd.func9, Tryd.ntmps9
  go_wp2_with (first
    | (go_at_call 20; refine HLX.out.mono ?_; rintro e w1 ⟨vt, rfl, ht1, hb1⟩; obtain ⟨at1, ct1, rfl⟩ := ht1.form; have B1 := hid hb1; have R1 := hid (rdm_new (tkm_of ht1 H0.out HT.out) H0.out HE.out); clear ht1 hb1)
    | fail)
  go_loopw [9, 10] (fun v4 v5 wr => ∃ (f' : Nat) (l0 : List ANode) (k0 : Int) (s0 : DS), dProgL T f' l0 k0 s0 = some (L, K, S) ∧ (∃ a c, v4 = .slice a l0.length c) ∧ Nd wr (w1.heap.size + 1) v4 l0 ∧ 0 ≤ k0 ∧ v5 = .int .i64 k0 ∧ RdM wr w1.heap.size T 0 s0 ∧ Kp w1.heap.size w1 wr ∧ w1.heap.size + 1 ≤ wr.heap.size) (fun _ _ wr => rdL T.length wr w1.heap.size)
  case atStart => exact ⟨f, [], 0, ⟨0, 0, 0⟩, HP.out, ⟨none, 0, rfl⟩, Nd.nil _ _, Int.le_refl _, rfl, R1.out.bw bq, Kp.of_bw bq, by simp⟩
  case round =>
    obtain ⟨f', l0, k0, s0, hd, ⟨a4, c4, rfl⟩, hn, hk0, rfl, hrd, hkp, hsz⟩ := hrel
    have R3 := hid hrd
    have N3 := hid hn
    have K3 := hid hkp
    have Z3 := hid hsz
    have HLE := hid (prog_le f' hd)
    have hk1 : k0 ≤ 1000000 := by have := HLE.out.2; have := HK.out; omega
    have hl0 : l0.length ≤ 1000000 := by have := HLE.out.1; have := HL.out; omega
    obtain ⟨g, c, q, x⟩ := hrd.x
    have z0 : wr.cell? ⟨w1.heap.size, 0, none⟩ = some (.slice (some ⟨g, 0, none⟩) T.length c) := x.b.cell 0
    have z1 : wr.cell? ⟨w1.heap.size, 1, none⟩ = some (.int .i64 s0.i) := x.b.cell 1
    have z3 : wr.cell? ⟨w1.heap.size, 3, none⟩ = some (.int .i64 s0.e) := x.b.cell 3
    have z4 : wr.cell? ⟨w1.heap.size, 4, none⟩ = some (.int .i64 s0.p) := x.b.cell 4
    have zl : w1.heap.size < wr.heap.size := x.b.lt
    have gl := x.gl
    have c0 := x.c0 s0.i hrd.i
    have l1 := x.l
    have hi1 : (0 : Int) ≤ (s0.i : Int) := by omega
    have hi2 : (s0.i : Int) < (T.length : Int) := by have := hrd.i; omega
    obtain ⟨f2, rfl, hcase⟩ := prog_inv hd
    clear x hn hkp hrd hd
    rcases hcase with ⟨he, hi, l2, k2, s2, hst, hnx⟩ | ⟨hno, hxx⟩
    · have e1 : (s0.e == 0) = true := by simpa using he
      have e2 : ((dtk T s0.i).1 != 0) = true := by simpa using hi
      have HST := hid (fun w1' (hw : RdM w1' w1.heap.size T 0 s0) => (con_any T w1.heap.size f2).stmt hst hw)
      unfold DG at HST
      have HNX := hid hnx
      have HFL := hid (fun (e : s2.e = 0) => (((dR_goes _ _ _ _ _ _ _ hst).fs rfl).2 e).2)
      have HE0 := hid he
      have L2 := hid (dR_len hst)
      generalize hdt : (dtk T s0.i).1 = d0 at c0 e2
      clear hst hnx hi he hdt
      have HLL := hid (show l0.length + l2.length ≤ 1000000 by have h := (prog_le f2 HNX.out).1; rw [List.length_append] at h; have := HL.out; omega)
      go_upto_region 8 with go_quiet (fail)
      go_wp2_with (first
        | (go_at_call 21; refine (HST.out _ (R3.out.bw bq)).mono ?_; rintro e w6 ⟨a6, c6, rfl, hn6, hr6, hk6, hl6⟩; have N6 := hid hn6; have R6 := hid hr6; have K6 := hid (show Kp w1.heap.size wr w6 from Kp.trans (Kp.of_bw bq) hk6); clear hn6 hr6 hk6 hl6)
        | (at_builtin; refine wpList_append_sl (G := fun _ => True) _ rfl _ _ 24 rfl (w1.heap.size + 1) 43 i1 (.agg #[.int .i64 0, .int .i64 0, .string ⟨#[]⟩, .int .i64 0, .int .i64 0]) 5 48 undN8 I1.out.1 I1.out.2.1 I1.out.2.2.1 I1.out.2.2.2 rfl (by decide) (.slice a4 l0.length c4) l0.length (l0.flatMap ndV) rfl (N3.out.kp K6.out (Nat.lt_succ_self _)) (.slice a6 l2.length c6) l2.length (l2.flatMap ndV) rfl N6.out.sl (nd_one _) (by have := HLL.out; unfold maxLen; omega) (by have := HLL.out; omega) (Nat.le_trans Z3.out K6.out.size) ?_; intro v7 w7 ho7 hg7; obtain ⟨a7, c7, rfl⟩ := own_form ho7; have ho7' : Nd w7 (w1.heap.size + 1) (.slice a7 (l0.length + l2.length) c7) (l0 ++ l2) := (by unfold Nd; rw [List.length_append, List.flatMap_append]; exact ho7); have N7 := hid ho7'; have R7 := hid (R6.out.grown (N3.out.kp K6.out (Nat.lt_succ_self _)) hg7); have K7 := hid ((K3.out.trans K6.out).own (N3.out.kp K6.out (Nat.lt_succ_self _)) hg7 (Nat.le_succ _)); have Z7 := hid (Nat.le_trans (Nat.le_trans Z3.out K6.out.size) hg7.size); clear ho7 hg7 ho7')
        | fail)
      case roundEnd =>
        exact ⟨⟨f2, l0 ++ l2, k0 + 1, s2, HNX.out, ⟨_, _, by rw [List.length_append]⟩, N7.out, by omega, rfl, R7.out, K7.out, Z7.out⟩, left_lt R3.out R7.out HE0.out HFL.out⟩
    · obtain ⟨rfl, rfl, rfl⟩ : l0 = L ∧ k0 = K ∧ s0 = S := by simp only [Prod.mk.injEq] at hxx; exact ⟨hxx.1.symm, hxx.2.1.symm, hxx.2.2.symm⟩
      have e1 : (s0.e == 0) = true := by have := HS.out; simpa using this
      have e1' : (s0.e != 0) = false := by have := HS.out; simpa using this
      have hi : (dtk T s0.i).1 = 0 := by
        by_cases h : (dtk T s0.i).1 = 0
        · exact h
        · exact absurd ⟨HS.out, h⟩ hno
      generalize hdt : (dtk T s0.i).1 = d0 at c0 hi
      have e2 : (d0 != 0) = false := by simpa using hi
      clear hno hxx hi hdt
      go_upto_region 10 with go_quiet (fail)
      go_wp2_with (first
        | (go_at_call 22; refine (djoin_any (1, 0, [], 0, 0) k0 _ l0 (N3.out.bw bq).sl (by omega)).mono ?_; rintro e w8 ⟨a8, c8, rfl, hn8, hb8⟩; have N8 := hid hn8; have B8 := hid hb8; clear hn8 hb8)
        | fail)
      all_goals go_ret3
      all_goals exact ⟨_, _, rfl, N8.out.low (Nat.le_trans (B1.out.trans (K3.out.toBw (Nat.le_refl _))).size (show Bw wr _ from bq).size), (B1.out.trans (K3.out.toBw (Nat.le_refl _))).trans (Bw.trans bq B8.out)⟩

end

end Go.Proofs.YtdhkcdehedbpcaaDoor

