/- stepAt, fits: contracts. -/
import Derived.Test.YtcljlmjcjfmppaaDoorVi
set_option linter.unusedSimpArgs false
set_option linter.unusedVariables false
namespace Go.Proofs.YtcljlmjcjfmppaaDoor
open Go Go.RowKit

/-- A step's value. -/
def stpV (op a bb k h kept after : Int) : Value := .agg #[.int .i64 op, .int .i64 a, .int .i64 bb, .int .i64 k, .int .i64 h, .int .i64 kept, .int .i64 after]

theorem eff_bd {ks : List (List Int)} {op a : Int} (h : ∀ l ∈ ks, l.length ≤ 1000000) : 0 ≤ (effM ks op a).1 ∧ (effM ks op a).1 ≤ 1000003 ∧ 0 ≤ (effM ks op a).2.1 ∧ (effM ks op a).2.1 ≤ 1 := by
  have hb := opAt_bd op
  unfold effM
  split
  · split
    · rename_i x hx
      simp only
      have : 0 ≤ x ∧ x ≤ 1000000 := by
        unfold takenM at hx
        split at hx
        · split at hx
          · cases hx; omega
          · cases hx
        · split at hx
          · split at hx
            · cases hx
              rename_i hin
              refine ⟨by omega, ?_⟩
              rw [List.getD_eq_getElem?_getD, List.getElem?_eq_getElem (by omega)]
              have := h _ (List.getElem_mem (show a.toNat < ks.length by omega))
              simp only [Option.getD_some]
              omega
            · cases hx
          · cases hx; omega
      omega
    · simp
  · simp

section
variable {w w' : World}

set_option maxRecDepth 100000 in
set_option maxHeartbeats 600000 in
theorem stepAt_any (m : AIm) (G : Nat → Prop) (vf vs vk : Value) (x : MFn) (k : Nat) (h op a bb : Int) (ho : Og w) (hm : RIm w G vf vs vk m) (ha : RFn w G x) (hk : k < x.f.code.length) (hop : x.f.code[k] = (op, a, bb)) (hh : -1 ≤ h ∧ h ≤ 257) (hy : ∀ l ∈ m.keys, l.length ≤ 1000000) :
    Calls Tryd.prog 21 #[imV vf vs vk m, .agg #[.int .i64 x.f.params, .int .i64 x.f.slots, x.vb, x.vc, x.vo, x.vt], .int .i64 k, .int .i64 h] w fun e w' => e = .returned (stpV op a bb k h (h - (effM m.keys op a).1) (h - (effM m.keys op a).1 + (effM m.keys op a).2.1)) ∧ Bw w w' := by
  obtain ⟨af, kf, az, ks, ak, kk, e1, e2, e3⟩ := hm.forms
  subst e1 e2 e3
  unfold imV
  obtain ⟨f, xb, xc, xo, xt⟩ := x
  obtain ⟨a1, c1, e1⟩ := ha.b.form
  obtain ⟨a2, c2, e2⟩ := ha.c.form
  obtain ⟨a3, c3, e3⟩ := ha.o.form
  obtain ⟨a4, c4, e4⟩ := ha.t.form
  simp only at e1 e2 e3 e4 hk hop ⊢
  subst e1 e2 e3 e4
  have HOG := hid ho
  have HB := hid (eff_bd (op := op) (a := a) hy)
  obtain ⟨_, _, ⟨mk, ek, hmk⟩, _⟩ := hm
  have hlk : m.keys.length = mk.length := by rw [← ek, List.length_map]
  rw [hlk] at hmk ⊢
  have HMK := hid hmk
  have HMY := hid (show ∀ q ∈ mk, q.1.length ≤ 1000000 from fun q hq => hy _ (by rw [← ek]; exact List.mem_map.2 ⟨q, hq, rfl⟩))
  have HEK := hid ek
  obtain ⟨g1, o1, d1, e1, _, hg1, _, y⟩ := ha.o.parts hk (by decide)
  simp only at e1 y
  cases e1
  have hI := ha.o.2.1 _ (List.getElem_mem hk)
  have HIA := hid (show I64 a from by have := hI.2.1; simp only [hop] at this; exact this)
  have y0 := y 0 (by decide)
  have y1 := y 1 (by decide)
  have y2 := y 2 (by decide)
  simp only [Nat.add_zero, ← Nat.add_assoc, insC, List.getElem?_cons_zero, List.getElem?_cons_succ, hop] at y0 y1 y2
  have hk3 : (k : Int) < (f.code.length : Int) := by omega
  obtain ⟨⟨p, q, er⟩, hef⟩ : ∃ z, effM m.keys op a = z := ⟨_, rfl⟩
  rw [hef] at HB ⊢
  have HEF := hid (show effM (mk.map (·.1)) op a = (p, q, er) from by rw [ek]; exact hef)
  have hbd := HB.out
  simp only at hbd ⊢
  have hk1 : -9223372036854775808 ≤ h - p ∧ h - p ≤ 9223372036854775807 := by omega
  have hk2 : -9223372036854775808 ≤ h - p + q ∧ h - p + q ≤ 9223372036854775807 := by omega
  obtain ⟨W1, hW1⟩ : ∃ W1, ((((w.alloc (.cells #[.slice af m.funs.length kf, .slice az m.strs.length ks, .slice ak mk.length kk, .int .i64 m.globals] 26)).alloc (.cells #[.int .i64 f.params, .int .i64 f.slots, .slice a1 f.boxes.length c1, .slice a2 f.caps.length c2, .slice (some ⟨g1, o1, none⟩) f.code.length c3, .slice a4 f.tries.length c4] 38)).alloc (.cells #[.int .i64 0, .int .i64 0, .int .i64 0, .int .i64 0, .int .i64 0, .int .i64 0, .int .i64 0] 58)).alloc (.cells #[.int .i64 op, .int .i64 a, .int .i64 bb] 40)) = W1 := ⟨_, rfl⟩
  have HWE := hid hW1
  have HW1 := hid (show Bw w W1 from by rw [← hW1]; exact Bw.alloc (Bw.alloc (Bw.alloc (Bw.alloc (Bw.refl w) _) _) _) _)
  have HPN := hid (show Blk W1 (w.heap.size + 1 + 1 + 1) #[.int .i64 op, .int .i64 a, .int .i64 bb] 40 from by rw [← hW1]; have := Blk.new (((w.alloc (.cells #[.slice af m.funs.length kf, .slice az m.strs.length ks, .slice ak mk.length kk, .int .i64 m.globals] 26)).alloc (.cells #[.int .i64 f.params, .int .i64 f.slots, .slice a1 f.boxes.length c1, .slice a2 f.caps.length c2, .slice (some ⟨g1, o1, none⟩) f.code.length c3, .slice a4 f.tries.length c4] 38)).alloc (.cells #[.int .i64 0, .int .i64 0, .int .i64 0, .int .i64 0, .int .i64 0, .int .i64 0, .int .i64 0] 58)) #[.int .i64 op, .int .i64 a, .int .i64 bb] 40; simpa only [World.size_alloc] using this)
  have HPS := hid (show Blk W1 (w.heap.size + 1 + 1) #[.int .i64 0, .int .i64 0, .int .i64 0, .int .i64 0, .int .i64 0, .int .i64 0, .int .i64 0] 58 from by rw [← hW1]; have := (Blk.new ((w.alloc (.cells #[.slice af m.funs.length kf, .slice az m.strs.length ks, .slice ak mk.length kk, .int .i64 m.globals] 26)).alloc (.cells #[.int .i64 f.params, .int .i64 f.slots, .slice a1 f.boxes.length c1, .slice a2 f.caps.length c2, .slice (some ⟨g1, o1, none⟩) f.code.length c3, .slice a4 f.tries.length c4] 38)) #[.int .i64 0, .int .i64 0, .int .i64 0, .int .i64 0, .int .i64 0, .int .i64 0, .int .i64 0] 58).alloc (.cells #[.int .i64 op, .int .i64 a, .int .i64 bb] 40); simpa only [World.size_alloc] using this)
  clear ho ha hop hW1 y ek hef hy hlk hI hbd hmk
  have HLE := hid (show w.heap.size ≤ w.heap.size + 1 + 1 by omega)
  go_enter Tryd.func21, Tryd.ntmps21
  go_wp2_with (first
    | (go_at_call 29; refine (effect_any _ _ _ _ _ _ _ _ _ op a bb mk G (HOG.out.bw (HW1.out.trans (by rw [← HWE.out]; repeat (first | exact Bw.refl _ | apply Bw.alloc | apply Bw.drewN | apply Bw.drew)))) (RKs.bw HMK.out (HW1.out.trans (by rw [← HWE.out]; repeat (first | exact Bw.refl _ | apply Bw.alloc | apply Bw.drewN | apply Bw.drew)))) HIA.out HMY.out).mono ?_; rw [HEF.out]; rintro e w2 ⟨rfl, hb2⟩; have HB2 := hid (show Bw W1 w2 from Bw.trans (by rw [← HWE.out]; repeat (first | exact Bw.refl _ | apply Bw.alloc | apply Bw.drewN | apply Bw.drew)) hb2); have u := (HPN.out.bw HB2.out).cell; have ul := (HPN.out.bw HB2.out).lt; have v := (HPS.out.bw HB2.out).cell; have vf := (HPS.out.bw HB2.out).free; have vl := (HPS.out.bw HB2.out).lt; clear hb2)
    | fail)
  all_goals
    have bf := (((((((HPS.out.bw HB2.out).set 0 (.int .i64 op)).set 1 (.int .i64 a)).set 2 (.int .i64 bb)).set 3 (.int .i64 k)).set 4 (.int .i64 h)).set 5 (.int .i64 (h - p))).set 6 (.int .i64 (h - p + q))
    simp only [List.setIfInBounds_toArray, List.set_cons_zero, List.set_cons_succ] at bf
    have bfc := bf.cell
    clear bf u ul v vf vl
    refine bodyPost_ret (v := .agg #[.int .i64 op, .int .i64 a, .int .i64 bb, .int .i64 k, .int .i64 h, .int .i64 (h - p), .int .i64 (h - p + q)]) (by simp [results, Tryd.results21, go_sem, bfc]) rfl ?_
    exact ⟨rfl, (Bw.setCell (Bw.setCell (Bw.setCell (Bw.setCell (Bw.setCell (Bw.setCell (Bw.setCell (HW1.out.trans HB2.out) (p := ⟨w.heap.size + 1 + 1, 0, none⟩) HLE.out (.int .i64 op)) (p := ⟨w.heap.size + 1 + 1, 1, none⟩) HLE.out (.int .i64 a)) (p := ⟨w.heap.size + 1 + 1, 2, none⟩) HLE.out (.int .i64 bb)) (p := ⟨w.heap.size + 1 + 1, 3, none⟩) HLE.out (.int .i64 k)) (p := ⟨w.heap.size + 1 + 1, 4, none⟩) HLE.out (.int .i64 h)) (p := ⟨w.heap.size + 1 + 1, 5, none⟩) HLE.out (.int .i64 (h - p))) (p := ⟨w.heap.size + 1 + 1, 6, none⟩) HLE.out (.int .i64 (h - p + q)))⟩

end

end Go.Proofs.YtcljlmjcjfmppaaDoor
