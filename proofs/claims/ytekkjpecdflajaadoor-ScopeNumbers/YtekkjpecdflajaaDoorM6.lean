/- The document's block: the contract, by steps. · The document's parser: args: contracts, by steps. · The document's parser: ahead: contracts, by steps. -/
import Derived.Test.YtekkjpecdflajaaDoorM5
set_option linter.unusedSimpArgs false
set_option linter.unusedVariables false
namespace Go.Proofs.YtekkjpecdflajaaDoor
open Go Go.RowKit

theorem Blk.kp {w w' : World} {r g : Nat} {cur : Array Value} {e : TypeId} (h : Blk w g cur e) (k : Kp r w w') (hne : g ≠ r) : Blk w' g cur e := h.keep (k.block g h.lt hne)
theorem kp_ge {r g : Nat} {w w1 : World} (hr : r < w.heap.size) (hb : Bw w w1) (hg : w1.heap.size ≤ g) : g ≠ r := by have := hb.size; omega

theorem Blk.grownB {w w' : World} {g base size n : Nat} {cur : Array Value} {e e' : TypeId} {v : Value} {xs : List Value} (h : Blk w g cur e) (ho : w.ownsRow base e' size v n xs) (hg : w.grownBy w' v.ownBlock) (hb : g < base) : Blk w' g cur e :=
  h.keep (hg.block g h.lt (fun k => by have := (ho.lt g k.symm).1; omega))
theorem RdM.grown {w w' : World} {r base n : Nat} {T : List ATok} {o : Int} {s : DS} {v : Value} {xs : List Value} (h : RdM w r T o s) (ho : w.ownsRow base 60 5 v n xs) (hg : w.grownBy w' v.ownBlock) : RdM w' r T o s := by
  obtain ⟨vt, q, h1, ⟨g, c, cur, e, h4, h5, h6, h7⟩, h3⟩ := h.b
  exact ⟨⟨vt, q, h1.grownOwn ho (by decide) hg, ⟨g, c, cur, e, h4, h5.grownOwn ho (by decide) hg, h6, h7⟩, h3⟩, h.i, h.o, h.n⟩
theorem Kp.own {r base n : Nat} {a b c : World} {v : Value} {xs : List Value} {e : TypeId} {sz : Nat} (h : Kp r a b) (ho : b.ownsRow base e sz v n xs) (hg : b.grownBy c v.ownBlock) (hb : a.heap.size ≤ base) : Kp r a c :=
  h.grown hg (fun k hk => Nat.le_trans hb (ho.lt k hk).1)
/-- One less is open: what is written. -/
def oOff (q : Int) : Int := IntKind.i64.wrap (q - 1)

section
variable {w w' : World} {r f : Nat} {T : List ATok} {o : Int} {s s' : DS} {l : List ANode} {k : Int}

set_option maxRecDepth 100000 in
set_option maxHeartbeats 8000000 in
theorem block_step (hc : ∀ g, g ≤ f → Con T r g) (h : dR T (f + 1) .block o s = some (l, k, s')) (hr : RdM w r T o s) : Calls Tryd.prog 29 #[.pointer (some ⟨r, 0, none⟩)] w (DG w r T o l s') := by
  unfold dR at h
  obtain ⟨⟨l1, k1, s1⟩, h1, h2⟩ := bnd h
  obtain ⟨rfl, rfl, hlen⟩ := rete3 h2
  simp only at h2 hlen ⊢
  have HC := hid hc
  have HR := hid hr
  have hrl := hr.lt
  have HO := hid (fun (e : s1.e = 0) => (hr.o (((fs_enter (T := T) o s ⟨#[123]⟩).2 ((dR_goes _ _ _ _ _ _ _ h1).fw.2 e)).1)).1)
  have HL := hid h1
  have HLEN := hid (show l1.length ≤ 1000000 by have e : (dJoin (2, 0, [], 0, dAt T s) k1 l1).length = l1.length + 1 := rfl; omega)
  have HLJ := hid hlen
  obtain ⟨i1, hi1, hz1, hs1, hy1⟩ := info_parts infoN8
  have I1 := hid (And.intro hi1 (And.intro hz1 (And.intro hs1 hy1)))
  have HAT := hid (fun w1 (hw : Bw w w1) => dat_any (hr.bw hw))
  have HEN := hid (fun w1 (hw : RdM w1 r T o s) => denter_any ⟨#[123]⟩ hw)
  unfold DG
  generalize dAt T s = p0 at HAT HLJ ⊢
  generalize dEnter T o s ⟨#[123]⟩ = A at HL HEN
  clear h1 h2 h hc hr hlen hi1 hz1 hs1 hy1
  go_enter Tryd.func29, Tryd.ntmps29
  go_wp2_with (first
    | (go_at_call 27; refine (HAT.out _ (Bw.refl _)).mono ?_; rintro e w1 ⟨rfl, hb1⟩; have B1 := hid hb1; have R1 := hid (HR.out.bw hb1); clear hb1)
    | (go_at_call 47; refine (HEN.out _ (R1.out.bw (by repeat (first | exact Bw.refl _ | apply Bw.alloc | apply Bw.drewN | apply Bw.drew)))).mono ?_; rintro e w2 ⟨rfl, hr2, hk2⟩; have R2 := hid hr2; have K2 := hid (show Kp r w w2 from Kp.trans (Kp.of_bw (B1.out.trans (by repeat (first | exact Bw.refl _ | apply Bw.alloc | apply Bw.drewN | apply Bw.drew)))) hk2); have P2 := hid (show Blk w2 w1.heap.size #[.int .i64 2, .int .i64 0, .string { data := #[] }, .int .i64 0, .int .i64 p0] 60 from (Blk.new w1 _ _).kp hk2 (kp_ge hrl B1.out (Nat.le_refl _))); clear hr2 hk2)
    | fail)
  go_loopw [4, 5] (fun v4 v5 wr => ∃ (f' : Nat) (l0 : List ANode) (k0 : Int) (s0 : DS), f' ≤ f ∧ dR T f' (.blockL l0 k0) (o + 1) s0 = some (l1, k1, s1) ∧ (∃ a c, v4 = .slice a l0.length c) ∧ Nd wr (w1.heap.size + 1) v4 l0 ∧ v5 = .int .i64 k0 ∧ RdM wr r T (o + 1) s0 ∧ Kp r w wr ∧ Blk wr w1.heap.size #[.int .i64 2, .int .i64 0, .string { data := #[] }, .int .i64 0, .int .i64 p0] 60) (fun _ _ wr => rdL T.length wr r)
  case atStart => exact ⟨f, [], 0, A, Nat.le_refl _, HL.out, ⟨none, 0, rfl⟩, Nd.nil _ _, rfl, R2.out, K2.out, P2.out⟩
  case round =>
    obtain ⟨f', l0, k0, s0, hf, hd, ⟨a4, c4, rfl⟩, hn, rfl, hrd, hkp, hbk⟩ := hrel
    have R3 := hid hrd
    have N3 := hid hn
    have K3 := hid hkp
    have P3 := hid hbk
    have HI := hid (dis_any ⟨#[125]⟩ hrd)
    obtain ⟨g, c, q, x⟩ := hrd.x
    have z3 : wr.cell? ⟨r, 3, none⟩ = some (.int .i64 s0.e) := x.b.cell 3
    have zl : r < wr.heap.size := x.b.lt
    obtain ⟨f2, rfl, hl0, hk0, hk1, hcase⟩ := blockL_inv hd
    clear x hn hkp hbk hrd hd
    rcases hcase with ⟨he, hi, l2, k2, s2, hst, hnx⟩ | ⟨hno, hx⟩
    · have e1 : (s0.e == 0) = true := by simpa using he
      rw [hi] at HI
      have HST := hid (fun w1 (hw : RdM w1 r T (o + 1) s0) => (HC.out f2 (by omega)).stmt hst hw)
      unfold DG at HST
      have HNX := hid hnx
      have HFL := hid (fun (e : s2.e = 0) => (((dR_goes _ _ _ _ _ _ _ hst).fs rfl).2 e).2)
      have HE0 := hid he
      have HF := hid hf
      clear hst hnx hi he hf
      go_wp2_with (first
        | (go_at_call 28; refine HI.out.mono ?_; rintro e w5 ⟨rfl, hb5⟩; have B5 := hid hb5; have R5 := hid (R3.out.bw hb5); clear hb5)
        | (go_at_call 14; refine (HST.out _ (R5.out.bw (by repeat (first | exact Bw.refl _ | apply Bw.alloc | apply Bw.drewN | apply Bw.drew)))).mono ?_; rintro e w6 ⟨a6, c6, rfl, hn6, hr6, hk6, hl6⟩; have N6 := hid hn6; have R6 := hid hr6; have K6 := hid (show Kp r wr w6 from Kp.trans (Kp.of_bw (B5.out.trans (by repeat (first | exact Bw.refl _ | apply Bw.alloc | apply Bw.drewN | apply Bw.drew)))) hk6); have L6 := hid hl6; clear hn6 hr6 hk6 hl6)
        | (at_builtin; refine wpList_append_sl (G := fun _ => True) _ rfl _ _ 32 rfl (w1.heap.size + 1) 60 i1 (.agg #[.int .i64 0, .int .i64 0, .string ⟨#[]⟩, .int .i64 0, .int .i64 0]) 5 48 undN8 I1.out.1 I1.out.2.1 I1.out.2.2.1 I1.out.2.2.2 rfl (by decide) (.slice a4 l0.length c4) l0.length (l0.flatMap ndV) rfl (N3.out.kp K6.out (by have := B1.out.size; omega)) (.slice a6 l2.length c6) l2.length (l2.flatMap ndV) rfl N6.out.sl (nd_one _) (by have := L6.out; unfold maxLen; omega) (by have := L6.out; omega) (Nat.le_trans P3.out.lt K6.out.size) ?_; intro v7 w7 ho7 hg7; obtain ⟨a7, c7, rfl⟩ := own_form ho7; have ho7' : Nd w7 (w1.heap.size + 1) (.slice a7 (l0.length + l2.length) c7) (l0 ++ l2) := (by unfold Nd; rw [List.length_append, List.flatMap_append]; exact ho7); have N7 := hid ho7'; have R7 := hid (R6.out.grown (N3.out.kp K6.out (by have := B1.out.size; omega)) hg7); have K7 := hid ((K3.out.trans K6.out).own (N3.out.kp K6.out (by have := B1.out.size; omega)) hg7 (by have := B1.out.size; omega)); have P7 := hid (Blk.grownB (P3.out.kp K6.out (kp_ge hrl B1.out (Nat.le_refl _))) (N3.out.kp K6.out (by have := B1.out.size; omega)) hg7 (by omega)); clear ho7 hg7 ho7')
        | fail)
      case roundEnd =>
        exact ⟨⟨f2, l0 ++ l2, k0 + 1, s2, by have := HF.out; omega, HNX.out, ⟨_, _, by rw [List.length_append]⟩, N7.out, rfl, R7.out, K7.out, P7.out⟩, left_lt R3.out R7.out HE0.out HFL.out⟩
    · obtain ⟨rfl, rfl, rfl⟩ : l0 = l1 ∧ k0 = k1 ∧ s0 = s1 := by simp only [Prod.mk.injEq] at hx; exact ⟨hx.1.symm, hx.2.1.symm, hx.2.2.symm⟩
      have HW := hid (fun w1 (hw : RdM w1 r T (o + 1) s0) => dwant_any ⟨#[125]⟩ hw)
      have HOW := hid (fun (e : (dWant T s0 ⟨#[125]⟩).e = 0) => HO.out ((fs_want (T := T) s0 ⟨#[125]⟩).2 e).1)
      obtain ⟨W, hW⟩ : ∃ W, dWant T s0 ⟨#[125]⟩ = W := ⟨_, rfl⟩
      rw [hW] at HW HOW
      have HWE := hid hW
      clear hf hx HL hW
      by_cases he : s0.e = 0
      · have e1 : (s0.e == 0) = true := by simpa using he
        have hi : dIs T s0 ⟨#[125]⟩ = true := by
          cases hq : dIs T s0 ⟨#[125]⟩
          · exact absurd ⟨he, hq⟩ hno
          · rfl
        rw [hi] at HI
        clear hi he hno
        go_wp2_with (first
          | (go_at_call 28; refine HI.out.mono ?_; rintro e w5 ⟨rfl, hb5⟩; have B5 := hid hb5; have R5 := hid (R3.out.bw hb5); clear hb5)
          | (go_at_call 34; refine (HW.out _ (R5.out.bw (by repeat (first | exact Bw.refl _ | apply Bw.alloc | apply Bw.drewN | apply Bw.drew)))).mono ?_; rintro e w6 ⟨rfl, hr6, hk6⟩; have R6 := hid hr6; have K6 := hid (show Kp r wr w6 from Kp.trans (Kp.of_bw (B5.out.trans (by repeat (first | exact Bw.refl _ | apply Bw.alloc | apply Bw.drewN | apply Bw.drew)))) hk6); have N6 := hid (N3.out.kp K6.out (by have := B1.out.size; omega)); have P6 := hid (P3.out.kp K6.out (kp_ge hrl B1.out (Nat.le_refl _))); (obtain ⟨q6, u0, u1, u2, HQ6⟩ := RdM.off hr6 HOW.out); have H6 := hid HQ6; have u3 := P6.out.cell; have u4 := P6.out.lt; have u5 := kp_ge hrl B1.out (Nat.le_refl _); clear hr6 hk6 HQ6)
          | (go_at_call 15; refine (djoin_any (2, 0, [], 0, p0) k0 _ l0 (N6.out.kp ((Kp.refl r w6).set 2 _) (by have := B1.out.size; omega)).sl (by have := HLEN.out; omega)).mono ?_; rintro e w8 ⟨a8, c8, rfl, hn8, hb8⟩; have N8 := hid hn8; have B8 := hid hb8; clear hn8 hb8)
          | fail)
        all_goals go_ret
        all_goals exact ⟨_, _, rfl, N8.out.low (by have h1 := K3.out.size; have h2 := K6.out.size; simp only [World.size_setCell]; omega), by rw [HWE.out]; exact H6.out.bw B8.out, (((K3.out.trans K6.out).set 2 _).bw B8.out), HLJ.out⟩
      · have e1 : (s0.e == 0) = false := by simpa using he
        clear he hno HI
        go_wp2_with (first
          | (go_at_call 34; refine (HW.out _ (R3.out.bw (by repeat (first | exact Bw.refl _ | apply Bw.alloc | apply Bw.drewN | apply Bw.drew)))).mono ?_; rintro e w6 ⟨rfl, hr6, hk6⟩; have R6 := hid hr6; have K6 := hid (show Kp r wr w6 from Kp.trans (Kp.of_bw (by repeat (first | exact Bw.refl _ | apply Bw.alloc | apply Bw.drewN | apply Bw.drew))) hk6); have N6 := hid (N3.out.kp K6.out (by have := B1.out.size; omega)); have P6 := hid (P3.out.kp K6.out (kp_ge hrl B1.out (Nat.le_refl _))); (obtain ⟨q6, u0, u1, u2, HQ6⟩ := RdM.off hr6 HOW.out); have H6 := hid HQ6; have u3 := P6.out.cell; have u4 := P6.out.lt; have u5 := kp_ge hrl B1.out (Nat.le_refl _); clear hr6 hk6 HQ6)
          | (go_at_call 15; refine (djoin_any (2, 0, [], 0, p0) k0 _ l0 (N6.out.kp ((Kp.refl r w6).set 2 _) (by have := B1.out.size; omega)).sl (by have := HLEN.out; omega)).mono ?_; rintro e w8 ⟨a8, c8, rfl, hn8, hb8⟩; have N8 := hid hn8; have B8 := hid hb8; clear hn8 hb8)
          | fail)
        all_goals go_ret
        all_goals exact ⟨_, _, rfl, N8.out.low (by have h1 := K3.out.size; have h2 := K6.out.size; simp only [World.size_setCell]; omega), by rw [HWE.out]; exact H6.out.bw B8.out, (((K3.out.trans K6.out).set 2 _).bw B8.out), HLJ.out⟩

end

end Go.Proofs.YtekkjpecdflajaaDoor

set_option linter.unusedSimpArgs false
set_option linter.unusedVariables false
namespace Go.Proofs.YtekkjpecdflajaaDoor
open Go Go.RowKit

section
variable {w w' : World} {r f : Nat} {T : List ATok} {o : Int} {s s' : DS} {l : List ANode} {k : Int}

theorem argsL_inv {x : List ANode × Int × DS} (h : dR T f (.argsL l k) o s = some x) : ∃ g, f = g + 1 ∧ l.length ≤ 1000000 ∧ 0 ≤ k ∧ k ≤ 1000000 ∧
    ((s.e = 0 ∧ dIs T s ⟨#[41]⟩ = false ∧ ∃ s1 s2 l1 k1 s3, s1 = (if 0 < k then dWant T s ⟨#[44]⟩ else s) ∧ s2 = (if s1.e = 0 ∧ k = 16 then dBad T s1 3 else s1) ∧ dR T g (.expr 0) o s2 = some (l1, k1, s3) ∧ dR T g (.argsL (l ++ l1) (k + 1)) o s3 = some x ∧ (s3.e = 0 → s.i < s3.i)) ∨ (¬ (s.e = 0 ∧ dIs T s ⟨#[41]⟩ = false) ∧ x = (l, k, s))) := by
  cases f with
  | zero => cases h
  | succ g =>
    unfold dR at h
    obtain ⟨h, h1, h2, h3⟩ := gde h
    refine ⟨g, rfl, h1, h2, h3, ?_⟩
    rcases ite_some h with ⟨hi, h⟩ | ⟨hn, h⟩
    · obtain ⟨⟨l1, k1, s1⟩, h4, h5⟩ := bnd h
      refine .inl ⟨hi.1, hi.2, _, _, l1, k1, s1, rfl, rfl, h4, h5, fun e => ?_⟩
      have a : Fw s (if 0 < k then dWant T s ⟨#[44]⟩ else s) := by split; exact (fs_want _ _).fw; exact Fw.refl _
      have b := fw_if (T := T) a ((if 0 < k then dWant T s ⟨#[44]⟩ else s).e = 0 ∧ k = 16)
      exact ((b.then ((dR_goes _ _ _ _ _ _ _ h4).fs rfl)).2 e).2
    · exact .inr ⟨hn, (Option.some.inj h).symm⟩

set_option maxRecDepth 100000 in
set_option maxHeartbeats 8000000 in
theorem args_step (hc : ∀ g, g ≤ f → Con T r g) (h : dR T (f + 1) .args o s = some (l, k, s')) (hr : RdM w r T o s) : Calls Tryd.prog 63 #[.pointer (some ⟨r, 0, none⟩)] w (fun e w' => ∃ a c, e = .returned (.tuple #[.slice a l.length c, .int .i64 k]) ∧ Nd w' w.heap.size (.slice a l.length c) l ∧ RdM w' r T o s' ∧ Kp r w w' ∧ l.length ≤ 1000000 ∧ 0 ≤ k ∧ k ≤ 1000000) := by
  unfold dR at h
  obtain ⟨⟨l1, k1, s1⟩, h1, h2⟩ := bnd h
  obtain ⟨rfl, rfl, rfl⟩ := some3 h2
  simp only at h2 ⊢
  have HC := hid hc
  have HR := hid hr
  have hrl := hr.lt
  have HO := hid (fun (e : s1.e = 0) => (hr.o (((fs_enter (T := T) o s ⟨#[40]⟩).2 ((dR_goes _ _ _ _ _ _ _ h1).fw.2 e)).1)).1)
  have HL := hid h1
  obtain ⟨i1, hi1, hz1, hs1, hy1⟩ := info_parts infoN8
  have I1 := hid (And.intro hi1 (And.intro hz1 (And.intro hs1 hy1)))
  have HEN := hid (denter_any ⟨#[40]⟩ hr)
  generalize dEnter T o s ⟨#[40]⟩ = A at HL HEN
  clear h1 h2 h hc hr hi1 hz1 hs1 hy1
  go_enter Tryd.func63, Tryd.ntmps63
  go_wp2_with (first
    | (go_at_call 47; refine HEN.out.mono ?_; rintro e w2 ⟨rfl, hr2, hk2⟩; have R2 := hid hr2; have K2 := hid hk2; clear hr2 hk2)
    | fail)
  go_loopw [4, 5] (fun v4 v5 wr => ∃ (f' : Nat) (l0 : List ANode) (k0 : Int) (s0 : DS), f' ≤ f ∧ dR T f' (.argsL l0 k0) (o + 1) s0 = some (l, k, s1) ∧ (∃ a c, v4 = .slice a l0.length c) ∧ Nd wr w.heap.size v4 l0 ∧ v5 = .int .i64 k0 ∧ RdM wr r T (o + 1) s0 ∧ Kp r w wr) (fun _ _ wr => rdL T.length wr r)
  case atStart => exact ⟨f, [], 0, A, Nat.le_refl _, HL.out, ⟨none, 0, rfl⟩, Nd.nil _ _, rfl, R2.out, K2.out⟩
  case round =>
    obtain ⟨f', l0, k0, s0, hf, hd, ⟨a4, c4, rfl⟩, hn, rfl, hrd, hkp⟩ := hrel
    have R3 := hid hrd
    have N3 := hid hn
    have K3 := hid hkp
    have HI := hid (dis_any ⟨#[41]⟩ hrd)
    obtain ⟨g, c, q, x⟩ := hrd.x
    have z3 : wr.cell? ⟨r, 3, none⟩ = some (.int .i64 s0.e) := x.b.cell 3
    have zl : r < wr.heap.size := x.b.lt
    obtain ⟨f2, rfl, hl0, hk0, hk1, hcase⟩ := argsL_inv hd
    clear x hn hkp hrd hd
    rcases hcase with ⟨he, hi, t1, t2, l2, k2, s3, ht1, ht2, hst, hnx, hfl⟩ | ⟨hno, hx⟩
    · have e1 : (s0.e == 0) = true := by simpa using he
      rw [hi] at HI
      have HX := hid (fun w1 (hw : RdM w1 r T (o + 1) t2) => (HC.out f2 (by omega)).expr 0 hst hw)
      unfold DG at HX
      have HNX := hid hnx
      have HFL := hid hfl
      have HE0 := hid he
      have HF := hid hf
      have HW := hid (fun w1 (hw : RdM w1 r T (o + 1) s0) => dwant_any ⟨#[44]⟩ hw)
      have HBD := hid (fun w1 (hw : RdM w1 r T (o + 1) t1) => dbad_any 3 (by decide) hw)
      clear hst hnx hi hf hfl
      by_cases hk : 0 < k0
      · rw [if_pos hk] at ht1
        rw [← ht1] at HW
        have kk : ¬ k0 = 0 := by omega
        by_cases h1e : t1.e = 0
        · have e2 : (t1.e == 0) = true := by simpa using h1e
          by_cases h16 : k0 = 16
          · rw [if_pos ⟨h1e, h16⟩] at ht2
            rw [← ht2] at HBD
            have e3 : (k0 == 16) = true := by simpa using h16
            clear ht1 ht2 h1e h16 he
            go_wp2_with (first
              | (go_at_call 28; refine HI.out.mono ?_; rintro e w4 ⟨rfl, hb4⟩; have B4 := hid hb4; have R4 := hid (R3.out.bw hb4); (obtain ⟨g4, c4', q4, x4⟩ := R4.out.x); have z4 : w4.cell? ⟨r, 3, none⟩ = some (.int .i64 s0.e) := x4.b.cell 3; have zl4 : r < w4.heap.size := x4.b.lt; clear hb4 x4)
              | (go_at_call 34; refine (HW.out _ (R4.out.bw (by repeat (first | exact Bw.refl _ | apply Bw.alloc | apply Bw.drewN | apply Bw.drew)))).mono ?_; rintro e w5 ⟨rfl, hr5, hk5⟩; have R5 := hid hr5; have K5 := hid (show Kp r wr w5 from Kp.trans (Kp.of_bw (B4.out.trans (by repeat (first | exact Bw.refl _ | apply Bw.alloc | apply Bw.drewN | apply Bw.drew)))) hk5); (obtain ⟨g5, c5, q5, x5⟩ := hr5.x); have z5 : w5.cell? ⟨r, 3, none⟩ = some (.int .i64 t1.e) := x5.b.cell 3; have zl5 : r < w5.heap.size := x5.b.lt; clear hr5 hk5 x5)
              | (go_at_call 48; refine (HBD.out _ (R5.out.bw (by repeat (first | exact Bw.refl _ | apply Bw.alloc | apply Bw.drewN | apply Bw.drew)))).mono ?_; rintro e w6 ⟨rfl, hr6, hk6⟩; have R6 := hid hr6; have K6 := hid (show Kp r wr w6 from K5.out.trans (Kp.trans (Kp.of_bw (by repeat (first | exact Bw.refl _ | apply Bw.alloc | apply Bw.drewN | apply Bw.drew))) hk6)); clear hr6 hk6)
              | (go_at_call 35; refine (HX.out _ (R6.out.bw (by repeat (first | exact Bw.refl _ | apply Bw.alloc | apply Bw.drewN | apply Bw.drew)))).mono ?_; rintro e w7 ⟨a7, c7, rfl, hn7, hr7, hk7, hl7⟩; have N7 := hid hn7; have R7 := hid hr7; have K7 := hid (show Kp r wr w7 from K6.out.trans (Kp.trans (Kp.of_bw (by repeat (first | exact Bw.refl _ | apply Bw.alloc | apply Bw.drewN | apply Bw.drew))) hk7)); have L7 := hid hl7; clear hn7 hr7 hk7 hl7)
              | (at_builtin; refine wpList_append_sl (G := fun _ => True) _ rfl _ _ 32 rfl w.heap.size 60 i1 (.agg #[.int .i64 0, .int .i64 0, .string ⟨#[]⟩, .int .i64 0, .int .i64 0]) 5 48 undN8 I1.out.1 I1.out.2.1 I1.out.2.2.1 I1.out.2.2.2 rfl (by decide) (.slice a4 l0.length c4) l0.length (l0.flatMap ndV) rfl (N3.out.kp K7.out hrl) (.slice a7 l2.length c7) l2.length (l2.flatMap ndV) rfl N7.out.sl (nd_one _) (by have := L7.out; unfold maxLen; omega) (by have := L7.out; omega) (Nat.le_trans K3.out.size K7.out.size) ?_; intro v8 w8 ho8 hg8; obtain ⟨a8, c8, rfl⟩ := own_form ho8; have ho8' : Nd w8 w.heap.size (.slice a8 (l0.length + l2.length) c8) (l0 ++ l2) := (by unfold Nd; rw [List.length_append, List.flatMap_append]; exact ho8); have N8 := hid ho8'; have R8 := hid (R7.out.grown (N3.out.kp K7.out hrl) hg8); have K8 := hid ((K3.out.trans K7.out).own (N3.out.kp K7.out hrl) hg8 (Nat.le_refl _)); clear ho8 hg8 ho8')
              | fail)
            case roundEnd =>
              exact ⟨⟨f2, l0 ++ l2, k0 + 1, s3, by have := HF.out; omega, HNX.out, ⟨_, _, by rw [List.length_append]⟩, N8.out, rfl, R8.out, K8.out⟩, left_lt R3.out R8.out HE0.out HFL.out⟩
          · rw [if_neg (fun h => h16 h.2)] at ht2
            rw [ht2] at HX
            clear ht2
            have e3 : (k0 == 16) = false := by simpa using h16
            clear ht1 h1e h16 he
            go_wp2_with (first
              | (go_at_call 28; refine HI.out.mono ?_; rintro e w4 ⟨rfl, hb4⟩; have B4 := hid hb4; have R4 := hid (R3.out.bw hb4); (obtain ⟨g4, c4', q4, x4⟩ := R4.out.x); have z4 : w4.cell? ⟨r, 3, none⟩ = some (.int .i64 s0.e) := x4.b.cell 3; have zl4 : r < w4.heap.size := x4.b.lt; clear hb4 x4)
              | (go_at_call 34; refine (HW.out _ (R4.out.bw (by repeat (first | exact Bw.refl _ | apply Bw.alloc | apply Bw.drewN | apply Bw.drew)))).mono ?_; rintro e w5 ⟨rfl, hr5, hk5⟩; have R5 := hid hr5; have K5 := hid (show Kp r wr w5 from Kp.trans (Kp.of_bw (B4.out.trans (by repeat (first | exact Bw.refl _ | apply Bw.alloc | apply Bw.drewN | apply Bw.drew)))) hk5); (obtain ⟨g5, c5, q5, x5⟩ := hr5.x); have z5 : w5.cell? ⟨r, 3, none⟩ = some (.int .i64 t1.e) := x5.b.cell 3; have zl5 : r < w5.heap.size := x5.b.lt; clear hr5 hk5 x5)
              | (go_at_call 35; refine (HX.out _ (R5.out.bw (by repeat (first | exact Bw.refl _ | apply Bw.alloc | apply Bw.drewN | apply Bw.drew)))).mono ?_; rintro e w7 ⟨a7, c7, rfl, hn7, hr7, hk7, hl7⟩; have N7 := hid hn7; have R7 := hid hr7; have K7 := hid (show Kp r wr w7 from K5.out.trans (Kp.trans (Kp.of_bw (by repeat (first | exact Bw.refl _ | apply Bw.alloc | apply Bw.drewN | apply Bw.drew))) hk7)); have L7 := hid hl7; clear hn7 hr7 hk7 hl7)
              | (at_builtin; refine wpList_append_sl (G := fun _ => True) _ rfl _ _ 32 rfl w.heap.size 60 i1 (.agg #[.int .i64 0, .int .i64 0, .string ⟨#[]⟩, .int .i64 0, .int .i64 0]) 5 48 undN8 I1.out.1 I1.out.2.1 I1.out.2.2.1 I1.out.2.2.2 rfl (by decide) (.slice a4 l0.length c4) l0.length (l0.flatMap ndV) rfl (N3.out.kp K7.out hrl) (.slice a7 l2.length c7) l2.length (l2.flatMap ndV) rfl N7.out.sl (nd_one _) (by have := L7.out; unfold maxLen; omega) (by have := L7.out; omega) (Nat.le_trans K3.out.size K7.out.size) ?_; intro v8 w8 ho8 hg8; obtain ⟨a8, c8, rfl⟩ := own_form ho8; have ho8' : Nd w8 w.heap.size (.slice a8 (l0.length + l2.length) c8) (l0 ++ l2) := (by unfold Nd; rw [List.length_append, List.flatMap_append]; exact ho8); have N8 := hid ho8'; have R8 := hid (R7.out.grown (N3.out.kp K7.out hrl) hg8); have K8 := hid ((K3.out.trans K7.out).own (N3.out.kp K7.out hrl) hg8 (Nat.le_refl _)); clear ho8 hg8 ho8')
              | fail)
            case roundEnd =>
              exact ⟨⟨f2, l0 ++ l2, k0 + 1, s3, by have := HF.out; omega, HNX.out, ⟨_, _, by rw [List.length_append]⟩, N8.out, rfl, R8.out, K8.out⟩, left_lt R3.out R8.out HE0.out HFL.out⟩
        · have e2 : (t1.e == 0) = false := by simpa using h1e
          rw [if_neg (fun h => h1e h.1)] at ht2
          rw [ht2] at HX
          clear ht2
          clear ht1 h1e he
          go_wp2_with (first
            | (go_at_call 28; refine HI.out.mono ?_; rintro e w4 ⟨rfl, hb4⟩; have B4 := hid hb4; have R4 := hid (R3.out.bw hb4); (obtain ⟨g4, c4', q4, x4⟩ := R4.out.x); have z4 : w4.cell? ⟨r, 3, none⟩ = some (.int .i64 s0.e) := x4.b.cell 3; have zl4 : r < w4.heap.size := x4.b.lt; clear hb4 x4)
            | (go_at_call 34; refine (HW.out _ (R4.out.bw (by repeat (first | exact Bw.refl _ | apply Bw.alloc | apply Bw.drewN | apply Bw.drew)))).mono ?_; rintro e w5 ⟨rfl, hr5, hk5⟩; have R5 := hid hr5; have K5 := hid (show Kp r wr w5 from Kp.trans (Kp.of_bw (B4.out.trans (by repeat (first | exact Bw.refl _ | apply Bw.alloc | apply Bw.drewN | apply Bw.drew)))) hk5); (obtain ⟨g5, c5, q5, x5⟩ := hr5.x); have z5 : w5.cell? ⟨r, 3, none⟩ = some (.int .i64 t1.e) := x5.b.cell 3; have zl5 : r < w5.heap.size := x5.b.lt; clear hr5 hk5 x5)
            | (go_at_call 35; refine (HX.out _ (R5.out.bw (by repeat (first | exact Bw.refl _ | apply Bw.alloc | apply Bw.drewN | apply Bw.drew)))).mono ?_; rintro e w7 ⟨a7, c7, rfl, hn7, hr7, hk7, hl7⟩; have N7 := hid hn7; have R7 := hid hr7; have K7 := hid (show Kp r wr w7 from K5.out.trans (Kp.trans (Kp.of_bw (by repeat (first | exact Bw.refl _ | apply Bw.alloc | apply Bw.drewN | apply Bw.drew))) hk7)); have L7 := hid hl7; clear hn7 hr7 hk7 hl7)
            | (at_builtin; refine wpList_append_sl (G := fun _ => True) _ rfl _ _ 32 rfl w.heap.size 60 i1 (.agg #[.int .i64 0, .int .i64 0, .string ⟨#[]⟩, .int .i64 0, .int .i64 0]) 5 48 undN8 I1.out.1 I1.out.2.1 I1.out.2.2.1 I1.out.2.2.2 rfl (by decide) (.slice a4 l0.length c4) l0.length (l0.flatMap ndV) rfl (N3.out.kp K7.out hrl) (.slice a7 l2.length c7) l2.length (l2.flatMap ndV) rfl N7.out.sl (nd_one _) (by have := L7.out; unfold maxLen; omega) (by have := L7.out; omega) (Nat.le_trans K3.out.size K7.out.size) ?_; intro v8 w8 ho8 hg8; obtain ⟨a8, c8, rfl⟩ := own_form ho8; have ho8' : Nd w8 w.heap.size (.slice a8 (l0.length + l2.length) c8) (l0 ++ l2) := (by unfold Nd; rw [List.length_append, List.flatMap_append]; exact ho8); have N8 := hid ho8'; have R8 := hid (R7.out.grown (N3.out.kp K7.out hrl) hg8); have K8 := hid ((K3.out.trans K7.out).own (N3.out.kp K7.out hrl) hg8 (Nat.le_refl _)); clear ho8 hg8 ho8')
            | fail)
          case roundEnd =>
            exact ⟨⟨f2, l0 ++ l2, k0 + 1, s3, by have := HF.out; omega, HNX.out, ⟨_, _, by rw [List.length_append]⟩, N8.out, rfl, R8.out, K8.out⟩, left_lt R3.out R8.out HE0.out HFL.out⟩
      · rw [if_neg hk] at ht1
        obtain rfl : k0 = 0 := by omega
        rw [if_neg (by omega)] at ht2
        rw [ht2, ht1] at HX
        clear hk he ht1 ht2 HBD
        go_wp2_with (first
          | (go_at_call 28; refine HI.out.mono ?_; rintro e w4 ⟨rfl, hb4⟩; have B4 := hid hb4; have R4 := hid (R3.out.bw hb4); (obtain ⟨g4, c4', q4, x4⟩ := R4.out.x); have z4 : w4.cell? ⟨r, 3, none⟩ = some (.int .i64 s0.e) := x4.b.cell 3; have zl4 : r < w4.heap.size := x4.b.lt; clear hb4 x4)
          | (go_at_call 35; refine (HX.out _ (R4.out.bw (by repeat (first | exact Bw.refl _ | apply Bw.alloc | apply Bw.drewN | apply Bw.drew)))).mono ?_; rintro e w7 ⟨a7, c7, rfl, hn7, hr7, hk7, hl7⟩; have N7 := hid hn7; have R7 := hid hr7; have K7 := hid (show Kp r wr w7 from Kp.trans (Kp.of_bw (B4.out.trans (by repeat (first | exact Bw.refl _ | apply Bw.alloc | apply Bw.drewN | apply Bw.drew)))) hk7); have L7 := hid hl7; clear hn7 hr7 hk7 hl7)
          | (at_builtin; refine wpList_append_sl (G := fun _ => True) _ rfl _ _ 32 rfl w.heap.size 60 i1 (.agg #[.int .i64 0, .int .i64 0, .string ⟨#[]⟩, .int .i64 0, .int .i64 0]) 5 48 undN8 I1.out.1 I1.out.2.1 I1.out.2.2.1 I1.out.2.2.2 rfl (by decide) (.slice a4 l0.length c4) l0.length (l0.flatMap ndV) rfl (N3.out.kp K7.out hrl) (.slice a7 l2.length c7) l2.length (l2.flatMap ndV) rfl N7.out.sl (nd_one _) (by have := L7.out; unfold maxLen; omega) (by have := L7.out; omega) (Nat.le_trans K3.out.size K7.out.size) ?_; intro v8 w8 ho8 hg8; obtain ⟨a8, c8, rfl⟩ := own_form ho8; have ho8' : Nd w8 w.heap.size (.slice a8 (l0.length + l2.length) c8) (l0 ++ l2) := (by unfold Nd; rw [List.length_append, List.flatMap_append]; exact ho8); have N8 := hid ho8'; have R8 := hid (R7.out.grown (N3.out.kp K7.out hrl) hg8); have K8 := hid ((K3.out.trans K7.out).own (N3.out.kp K7.out hrl) hg8 (Nat.le_refl _)); clear ho8 hg8 ho8')
          | fail)
        case roundEnd =>
          exact ⟨⟨f2, l0 ++ l2, 0 + 1, s3, by have := HF.out; omega, HNX.out, ⟨_, _, by rw [List.length_append]⟩, N8.out, rfl, R8.out, K8.out⟩, left_lt R3.out R8.out HE0.out HFL.out⟩
    · obtain ⟨rfl, rfl, rfl⟩ : l0 = l ∧ k0 = k ∧ s0 = s1 := by simp only [Prod.mk.injEq] at hx; exact ⟨hx.1.symm, hx.2.1.symm, hx.2.2.symm⟩
      have HW := hid (fun w1 (hw : RdM w1 r T (o + 1) s0) => dwant_any ⟨#[41]⟩ hw)
      have HOW := hid (fun (e : (dWant T s0 ⟨#[41]⟩).e = 0) => HO.out ((fs_want (T := T) s0 ⟨#[41]⟩).2 e).1)
      obtain ⟨W, hW⟩ : ∃ W, dWant T s0 ⟨#[41]⟩ = W := ⟨_, rfl⟩
      rw [hW] at HW HOW
      have HWE := hid hW
      have HLB := hid (And.intro hl0 (And.intro hk0 hk1))
      clear hf hx HL hW hl0 hk0 hk1
      by_cases he : s0.e = 0
      · have e1 : (s0.e == 0) = true := by simpa using he
        have hi : dIs T s0 ⟨#[41]⟩ = true := by
          cases hq : dIs T s0 ⟨#[41]⟩
          · exact absurd ⟨he, hq⟩ hno
          · rfl
        rw [hi] at HI
        clear hi he hno
        go_wp2_with (first
          | (go_at_call 28; refine HI.out.mono ?_; rintro e w4 ⟨rfl, hb4⟩; have B4 := hid hb4; have R4 := hid (R3.out.bw hb4); (obtain ⟨g4, c4', q4, x4⟩ := R4.out.x); have z4 : w4.cell? ⟨r, 3, none⟩ = some (.int .i64 s0.e) := x4.b.cell 3; have zl4 : r < w4.heap.size := x4.b.lt; clear hb4 x4)
          | (go_at_call 34; refine (HW.out _ (R4.out.bw (by repeat (first | exact Bw.refl _ | apply Bw.alloc | apply Bw.drewN | apply Bw.drew)))).mono ?_; rintro e w6 ⟨rfl, hr6, hk6⟩; have R6 := hid hr6; have K6 := hid (show Kp r wr w6 from Kp.trans (Kp.of_bw (B4.out.trans (by repeat (first | exact Bw.refl _ | apply Bw.alloc | apply Bw.drewN | apply Bw.drew)))) hk6); have N6 := hid (N3.out.kp K6.out hrl); (obtain ⟨q6, u0, u1, u2, HQ6⟩ := RdM.off hr6 HOW.out); have H6 := hid HQ6; clear hr6 hk6 HQ6)
          | fail)
        all_goals go_ret2
        all_goals exact ⟨_, _, rfl, N6.out.kp ((Kp.refl r w6).set 2 _) hrl, by rw [HWE.out]; exact H6.out, ((K3.out.trans K6.out).set 2 _), HLB.out⟩
      · have e1 : (s0.e == 0) = false := by simpa using he
        clear he hno HI
        go_wp2_with (first
          | (go_at_call 34; refine (HW.out _ (R3.out.bw (by repeat (first | exact Bw.refl _ | apply Bw.alloc | apply Bw.drewN | apply Bw.drew)))).mono ?_; rintro e w6 ⟨rfl, hr6, hk6⟩; have R6 := hid hr6; have K6 := hid (show Kp r wr w6 from Kp.trans (Kp.of_bw (by repeat (first | exact Bw.refl _ | apply Bw.alloc | apply Bw.drewN | apply Bw.drew))) hk6); have N6 := hid (N3.out.kp K6.out hrl); (obtain ⟨q6, u0, u1, u2, HQ6⟩ := RdM.off hr6 HOW.out); have H6 := hid HQ6; clear hr6 hk6 HQ6)
          | fail)
        all_goals go_ret2
        all_goals exact ⟨_, _, rfl, N6.out.kp ((Kp.refl r w6).set 2 _) hrl, by rw [HWE.out]; exact H6.out, ((K3.out.trans K6.out).set 2 _), HLB.out⟩

end

end Go.Proofs.YtekkjpecdflajaaDoor

set_option linter.unusedSimpArgs false
set_option linter.unusedVariables false
namespace Go.Proofs.YtekkjpecdflajaaDoor
open Go Go.RowKit

section
variable {w w' : World} {r f : Nat} {T : List ATok} {o : Int} {s s' : DS} {l : List ANode} {k : Int}

set_option maxRecDepth 100000 in
set_option maxHeartbeats 8000000 in
theorem ahead_step (hc : ∀ g, g ≤ f → Con T r g) (t : ByteArray) (kd lev : Int) (h : dR T (f + 1) (.ahead t kd lev) o s = some (l, k, s')) (hr : RdM w r T o s) : Calls Tryd.prog 49 #[.pointer (some ⟨r, 0, none⟩), .string t, .int .i64 kd, .int .i64 lev] w (DG w r T o l s') := by
  unfold dR at h
  obtain ⟨⟨l1, k1, s1⟩, h1, h2⟩ := bnd h
  obtain ⟨rfl, rfl, hlen⟩ := rete3 h2
  simp only at h2 hlen ⊢
  have HR := hid hr
  have hrl := hr.lt
  have HO := hid (fun (e : s'.e = 0) => (hr.o (((fs_enter (T := T) o s t).2 ((dR_goes _ _ _ _ _ _ _ h1).fw.2 e)).1)).1)
  have HX := hid (fun w1 (hw : RdM w1 r T (o + 1) (dEnter T o s t)) => (hc f (Nat.le_refl _)).expr lev h1 hw)
  have HLJ := hid hlen
  have HAT := hid (fun w1 (hw : Bw w w1) => dat_any (hr.bw hw))
  have HEN := hid (fun w1 (hw : RdM w1 r T o s) => denter_any t hw)
  unfold DG at HX ⊢
  generalize dAt T s = p0 at HAT HLJ ⊢
  generalize dEnter T o s t = A at HX HEN
  clear h1 h2 h hc hr hlen
  go_enter Tryd.func49, Tryd.ntmps49
  go_wp2_with (first
    | (go_at_call 27; (fail_if_success (have _g := B1)); refine (HAT.out _ (Bw.refl _)).mono ?_; rintro e w1 ⟨rfl, hb1⟩; have B1 := hid hb1; have R1 := hid (HR.out.bw hb1); clear hb1)
    | (go_at_call 47; refine (HEN.out _ (R1.out.bw (by repeat (first | exact Bw.refl _ | apply Bw.alloc | apply Bw.drewN | apply Bw.drew)))).mono ?_; rintro e w2 ⟨rfl, hr2, hk2⟩; have R2 := hid hr2; have K2 := hid (show Kp r w w2 from Kp.trans (Kp.of_bw (B1.out.trans (by repeat (first | exact Bw.refl _ | apply Bw.alloc | apply Bw.drewN | apply Bw.drew)))) hk2); have P2 := hid (show Blk w2 w1.heap.size #[.int .i64 (kd), .int .i64 0, .string { data := #[] }, .int .i64 0, .int .i64 p0] 60 from (Blk.new w1 _ _).kp hk2 (kp_ge hrl B1.out (Nat.le_refl _))); clear hr2 hk2)
    | (go_at_call 35; refine (HX.out _ (R2.out.bw (by repeat (first | exact Bw.refl _ | apply Bw.alloc | apply Bw.drewN | apply Bw.drew)))).mono ?_; rintro e w3 ⟨a3, c3, rfl, hn3, hr3, hk3, hl3⟩; have N3 := hid (hn3.low (b' := w1.heap.size + 1) (Nat.le_trans P2.out.lt (by first | (simp; done) | (simp; omega) | exact Nat.le_refl _))); have K3 := hid (show Kp r w w3 from K2.out.trans (Kp.trans (Kp.of_bw (by repeat (first | exact Bw.refl _ | apply Bw.alloc | apply Bw.drewN | apply Bw.drew))) hk3)); have P3 := hid (P2.out.kp (Kp.trans (Kp.of_bw (by repeat (first | exact Bw.refl _ | apply Bw.alloc | apply Bw.drewN | apply Bw.drew))) hk3) (kp_ge hrl B1.out (Nat.le_refl _))); have L3 := hid hl3; (obtain ⟨q6, u0, u1, u2, HQ6⟩ := RdM.off hr3 HO.out); have H6 := hid HQ6; have u3 := P3.out.cell; have u4 := P3.out.lt; have u5 := kp_ge hrl B1.out (Nat.le_refl _); clear hn3 hr3 hk3 hl3 HQ6)
    | (go_at_call 15; refine (djoin_any (kd, 0, [], 0, p0) 1 _ l1 (N3.out.kp ((Kp.refl r w3).set 2 _) (by have := B1.out.size; omega)).sl (by have := L3.out; omega)).mono ?_; rintro e w8 ⟨a8, c8, rfl, hn8, hb8⟩; have N8 := hid hn8; have B8 := hid hb8; clear hn8 hb8)
    | fail)
  all_goals go_ret
  all_goals exact ⟨_, _, rfl, N8.out.low (by have h1 := K3.out.size; simp only [World.size_setCell]; omega), H6.out.bw B8.out, ((K3.out.set 2 _).bw B8.out), HLJ.out⟩

end

end Go.Proofs.YtekkjpecdflajaaDoor

