/- The levels are made: contracts. -/
import Derived.Test.YtlcieebneclmpaaDoorK4
set_option linter.unusedSimpArgs false
set_option linter.unusedVariables false
namespace Go.Proofs.YtlcieebneclmpaaDoor
open Go Go.RowKit

theorem hmf_ : ∀ (fn : Fn) (first cap : Array Value) (w : World), (Instr.makeFunc fn first cap).run Tryd.prog w = .ok (.func fn first cap) w := fun _ _ _ _ => rfl

theorem ce_at {w : World} {r n : Nat} (hn : w.heap.size = n) (hr : r < n) (v : Value) (e : TypeId) : CeM (w.alloc (.cells #[v] e)) r n v := by
  subst hn
  exact ⟨by omega, (Blk.new w #[v] e).lt, (Blk.new w #[v] e).cell 0⟩

theorem CeM.bw {w w' : World} {r a : Nat} {v : Value} (h : CeM w r a v) (k : Bw w w') : CeM w' r a v := h.kp (Kp.of_bw k)

section
variable {w : World} {r : Nat}

set_option maxRecDepth 100000 in
set_option maxHeartbeats 4000000 in
theorem fromLeft_any (v sv : Value) (ss : List ByteArray) (hv : ∃ fn a c, v = .func (.func fn) a c) (hr : r < w.heap.size) (hs : SgM w r sv ss) :
    Calls Tryd.prog 53 #[.pointer (some ⟨r, 0, none⟩), v, sv] w fun e w' => ∃ v', e = .returned v' ∧ LeM w' r 69 ss v' v ∧ Bw w w' := by
  have hmf := hmf_
  have HS := hid hs
  obtain ⟨fn, a, c, rfl⟩ := hv
  obtain ⟨s, sc, rfl, _⟩ := hs
  go_enter Tryd.func53, Tryd.ntmps53
  go_wp2
  all_goals go_ret
  all_goals exact ⟨_, rfl, ⟨w.heap.size + 1, w.heap.size, w.heap.size + 1 + 1, _, rfl, (ce_at (by simp) (by omega) _ _).bw (Bw.alloc (Bw.refl _) _), (ce_at rfl hr _ _).bw (Bw.alloc (Bw.alloc (Bw.refl _) _) _), ce_at (by simp) (by omega) _ _, HS.out.bw (by repeat (first | exact Bw.refl _ | apply Bw.alloc | apply Bw.drewN | apply Bw.drew))⟩, (by repeat (first | exact Bw.refl _ | apply Bw.alloc | apply Bw.drewN | apply Bw.drew))⟩

set_option maxRecDepth 100000 in
set_option maxHeartbeats 4000000 in
theorem compared_any (v sv : Value) (ss : List ByteArray) (hv : ∃ fn a c, v = .func (.func fn) a c) (hr : r < w.heap.size) (hs : SgM w r sv ss) :
    Calls Tryd.prog 55 #[.pointer (some ⟨r, 0, none⟩), v, sv] w fun e w' => ∃ v', e = .returned v' ∧ LeM w' r 75 ss v' v ∧ Bw w w' := by
  have hmf := hmf_
  have HS := hid hs
  obtain ⟨fn, a, c, rfl⟩ := hv
  obtain ⟨s, sc, rfl, _⟩ := hs
  go_enter Tryd.func55, Tryd.ntmps55
  go_wp2
  all_goals go_ret
  all_goals exact ⟨_, rfl, ⟨w.heap.size + 1, w.heap.size, w.heap.size + 1 + 1, _, rfl, (ce_at (by simp) (by omega) _ _).bw (Bw.alloc (Bw.refl _) _), (ce_at rfl hr _ _).bw (Bw.alloc (Bw.alloc (Bw.refl _) _) _), ce_at (by simp) (by omega) _ _, HS.out.bw (by repeat (first | exact Bw.refl _ | apply Bw.alloc | apply Bw.drewN | apply Bw.drew))⟩, (by repeat (first | exact Bw.refl _ | apply Bw.alloc | apply Bw.drewN | apply Bw.drew))⟩

set_option maxRecDepth 100000 in
set_option maxHeartbeats 4000000 in
theorem denied_any (v : Value) (hv : ∃ fn a c, v = .func (.func fn) a c) (hr : r < w.heap.size) :
    Calls Tryd.prog 56 #[.pointer (some ⟨r, 0, none⟩), v] w fun e w' => ∃ v', e = .returned v' ∧ LnM w' r v' v ∧ Bw w w' := by
  have hmf := hmf_
  obtain ⟨fn, a, c, rfl⟩ := hv
  go_enter Tryd.func56, Tryd.ntmps56
  go_wp2
  all_goals go_ret
  all_goals exact ⟨_, rfl, ⟨w.heap.size, w.heap.size + 1, w.heap.size + 1 + 1, rfl, (ce_at rfl hr _ _).bw (Bw.alloc (Bw.alloc (Bw.refl _) _) _), (ce_at (by simp) (by omega) _ _).bw (Bw.alloc (Bw.refl _) _), ce_at (by simp) (by omega) _ _⟩, (by repeat (first | exact Bw.refl _ | apply Bw.alloc | apply Bw.drewN | apply Bw.drew))⟩

theorem LeM.form {w : World} {r fn : Nat} {ss : List ByteArray} {v v' : Value} (h : LeM w r fn ss v v') : ∃ f a c, v = .func (.func f) a c := by
  obtain ⟨a, b, c, sv, e, _⟩ := h
  exact ⟨_, _, _, e⟩

theorem LnM.form {w : World} {r : Nat} {v v' : Value} (h : LnM w r v v') : ∃ f a c, v = .func (.func f) a c := by
  obtain ⟨a, b, c, e, _⟩ := h
  exact ⟨_, _, _, e⟩

theorem LeM.bw {w w' : World} {r fn : Nat} {ss : List ByteArray} {v v' : Value} (h : LeM w r fn ss v v') (k : Bw w w') : LeM w' r fn ss v v' := h.kp (Kp.of_bw k)
theorem LnM.bw {w w' : World} {r : Nat} {v v' : Value} (h : LnM w r v v') (k : Bw w w') : LnM w' r v v' := h.kp (Kp.of_bw k)

set_option maxRecDepth 100000 in
set_option maxHeartbeats 4000000 in
theorem levels_any (hr : r < w.heap.size) :
    Calls Tryd.prog 42 #[.pointer (some ⟨r, 0, none⟩)] w fun e w' => ∃ ex, e = .returned (ex 0) ∧ Lvs w' r ex ∧ Bw w w' := by
  have hmf := hmf_
  have B := hid (Bw.refl w)
  have HR := hid hr
  clear hr
  go_enter Tryd.func42, Tryd.ntmps42
  go_upto_region 2 with (first
    | (go_at_call 53; refine (fromLeft_any _ _ (sgl 5) ⟨_, _, _, rfl⟩ (by have := B.out.size; have := HR.out; simp; omega) (sgm_new _ (by have := B.out.size; have := HR.out; omega) (sgl 5) (by decide))).mono ?_; rintro e w5 ⟨v5, rfl, h5, hb5⟩; have H5 := hid h5; have B := hid (B.out.trans (Bw.trans (by repeat (first | exact Bw.refl _ | apply Bw.alloc | apply Bw.drewN | apply Bw.drew)) hb5)); clear h5 hb5)
    | fail)
  go_upto_region 3 with (first
    | (go_at_call 53; refine (fromLeft_any v5 _ (sgl 4) H5.out.form (by have := B.out.size; have := HR.out; simp; omega) (sgm_new _ (by have := B.out.size; have := HR.out; omega) (sgl 4) (by decide))).mono ?_; rintro e w4 ⟨v4, rfl, h4, hb4⟩; have H4 := hid h4; have H5 := hid (H5.out.bw (Bw.trans (by repeat (first | exact Bw.refl _ | apply Bw.alloc | apply Bw.drewN | apply Bw.drew)) hb4)); have B := hid (B.out.trans (Bw.trans (by repeat (first | exact Bw.refl _ | apply Bw.alloc | apply Bw.drewN | apply Bw.drew)) hb4)); clear h4 hb4)
    | fail)
  go_upto_region 4 with (first
    | (go_at_call 55; refine (compared_any v4 _ (sgl 3) H4.out.form (by have := B.out.size; have := HR.out; simp; omega) (sgm_new _ (by have := B.out.size; have := HR.out; omega) (sgl 3) (by decide))).mono ?_; rintro e w3 ⟨v3, rfl, h3, hb3⟩; have H3 := hid h3; have H4 := hid (H4.out.bw (Bw.trans (by repeat (first | exact Bw.refl _ | apply Bw.alloc | apply Bw.drewN | apply Bw.drew)) hb3)); have H5 := hid (H5.out.bw (Bw.trans (by repeat (first | exact Bw.refl _ | apply Bw.alloc | apply Bw.drewN | apply Bw.drew)) hb3)); have B := hid (B.out.trans (Bw.trans (by repeat (first | exact Bw.refl _ | apply Bw.alloc | apply Bw.drewN | apply Bw.drew)) hb3)); clear h3 hb3)
    | fail)
  go_upto_region 5 with (first
    | (go_at_call 56; refine (denied_any v3 H3.out.form (by have := B.out.size; have := HR.out; omega)).mono ?_; rintro e w2 ⟨v2, rfl, h2, hb2⟩; have H2 := hid h2; have H3 := hid (H3.out.bw hb2); have H4 := hid (H4.out.bw hb2); have H5 := hid (H5.out.bw hb2); have B := hid (B.out.trans hb2); clear h2 hb2)
    | (go_at_call 53; refine (fromLeft_any v2 _ (sgl 1) H2.out.form (by have := B.out.size; have := HR.out; simp; omega) (sgm_new _ (by have := B.out.size; have := HR.out; omega) (sgl 1) (by decide))).mono ?_; rintro e w1 ⟨v1, rfl, h1, hb1⟩; have H1 := hid h1; have H2 := hid (H2.out.bw (Bw.trans (by repeat (first | exact Bw.refl _ | apply Bw.alloc | apply Bw.drewN | apply Bw.drew)) hb1)); have H3 := hid (H3.out.bw (Bw.trans (by repeat (first | exact Bw.refl _ | apply Bw.alloc | apply Bw.drewN | apply Bw.drew)) hb1)); have H4 := hid (H4.out.bw (Bw.trans (by repeat (first | exact Bw.refl _ | apply Bw.alloc | apply Bw.drewN | apply Bw.drew)) hb1)); have H5 := hid (H5.out.bw (Bw.trans (by repeat (first | exact Bw.refl _ | apply Bw.alloc | apply Bw.drewN | apply Bw.drew)) hb1)); have B := hid (B.out.trans (Bw.trans (by repeat (first | exact Bw.refl _ | apply Bw.alloc | apply Bw.drewN | apply Bw.drew)) hb1)); clear h1 hb1)
    | fail)
  go_wp2_with (first
    | (go_at_call 53; refine (fromLeft_any v1 _ (sgl 0) H1.out.form (by have := B.out.size; have := HR.out; simp; omega) (sgm_new _ (by have := B.out.size; have := HR.out; omega) (sgl 0) (by decide))).mono ?_; rintro e w0 ⟨v0, rfl, h0, hb0⟩; have H0 := hid h0; have H1 := hid (H1.out.bw (Bw.trans (by repeat (first | exact Bw.refl _ | apply Bw.alloc | apply Bw.drewN | apply Bw.drew)) hb0)); have H2 := hid (H2.out.bw (Bw.trans (by repeat (first | exact Bw.refl _ | apply Bw.alloc | apply Bw.drewN | apply Bw.drew)) hb0)); have H3 := hid (H3.out.bw (Bw.trans (by repeat (first | exact Bw.refl _ | apply Bw.alloc | apply Bw.drewN | apply Bw.drew)) hb0)); have H4 := hid (H4.out.bw (Bw.trans (by repeat (first | exact Bw.refl _ | apply Bw.alloc | apply Bw.drewN | apply Bw.drew)) hb0)); have H5 := hid (H5.out.bw (Bw.trans (by repeat (first | exact Bw.refl _ | apply Bw.alloc | apply Bw.drewN | apply Bw.drew)) hb0)); have B := hid (B.out.trans (Bw.trans (by repeat (first | exact Bw.refl _ | apply Bw.alloc | apply Bw.drewN | apply Bw.drew)) hb0)); clear h0 hb0)
    | fail)
  all_goals go_ret
  all_goals exact ⟨fun k => if k = 0 then v0 else if k = 1 then v1 else if k = 2 then v2 else if k = 3 then v3 else if k = 4 then v4 else if k = 5 then v5 else .func (.func 54) #[.pointer (some ⟨r, 0, none⟩)] #[], rfl, ⟨rfl, H5.out, H4.out, H3.out, H2.out, H1.out, H0.out⟩, B.out⟩

set_option maxRecDepth 100000 in
set_option maxHeartbeats 4000000 in
theorem newReader_any {g cap : Nat} {T : List ATok} (ht : TkM w g T) (hl : T.length ≤ 20000) (h0 : 0 < T.length) (he : EndT T) :
    Calls Tryd.prog 26 #[.slice (some ⟨g, 0, none⟩) T.length cap] w fun e w' => ∃ r ex, e = .returned (.pointer (some ⟨r, 0, none⟩)) ∧ RI w' w' r g cap T ex 0 0 ∧ w.heap.size ≤ r ∧ Bw w w' := by
  have HT := hid ht
  have HL := hid hl
  have H0 := hid h0
  have HE := hid he
  clear ht hl h0 he
  go_enter Tryd.func26, Tryd.ntmps26
  go_wp2_with (first
    | (go_at_call 42; refine (levels_any (by simp)).mono ?_; rintro e w1 ⟨ex, rfl, hl1, hb1⟩; have HV := hid hl1; have HK := hid ((Blk.new w _ _).bw hb1); have hkl := HK.out.lt; have zz := HK.out.cell; have zf := HK.out.free; have B1 := hid (Bw.trans (Bw.alloc (Bw.refl w) _) hb1); have hfx : ∃ f a c, ex 0 = .func (.func f) a c := hl1.l0.form; obtain ⟨ff, fa, fc, hfx⟩ := hfx; have HFX := hid hfx; clear hl1 hb1)
    | fail)
  all_goals go_ret
  all_goals
    have hk : Kp w.heap.size w (w1.setCell ⟨w.heap.size, 3, none⟩ (ex 0)) := (Kp.of_bw B1.out).set 3 _
    have hg := HT.out.1
    rw [← HFX.out]
    exact ⟨w.heap.size, ex, rfl, ⟨by simpa using HK.out.set 3 (ex 0), Kp.refl _ _, HT.out.kp hk (by omega), HV.out.kp ((Kp.refl _ _).set 3 _), by omega, H0.out, by omega, HL.out, HE.out⟩, Nat.le_refl _, hk.toBw (Nat.le_refl _)⟩

end

end Go.Proofs.YtlcieebneclmpaaDoor

