/- frameFault: the contract. -/
import Derived.Test.YtcljlmjcjfmppaaDoorVn
set_option linter.unusedSimpArgs false
set_option linter.unusedVariables false
namespace Go.Proofs.YtcljlmjcjfmppaaDoor
open Go Go.RowKit

section
variable {w w' : World}

set_option maxRecDepth 100000 in
set_option maxHeartbeats 2000000 in
theorem frameFault_any (m : AIm) (G : Nat → Prop) (vf vs vk : Value) (i : Nat) (hm : RIm w G vf vs vk m) (hi : i < m.funs.length) :
    Calls Tryd.prog 11 #[imV vf vs vk m, .int .i64 i] w fun e w' => e = .returned (.int .i64 (frF m.funs[i] (i == 0))) ∧ Bw w w' := by
  obtain ⟨af, kf, az, ks, ak, kk, e1, e2, e3⟩ := hm.forms
  subst e1 e2 e3
  unfold imV
  obtain ⟨⟨ms, em, hf⟩, _, _, _⟩ := hm
  have hlm : ms.length = m.funs.length := by rw [← em, List.length_map]
  have him : i < ms.length := by omega
  obtain ⟨gf, of, df, ef, _, hgf, _, z⟩ := hf.parts him (by decide)
  have hX := hf.2.1 _ (List.getElem_mem him)
  have hfe : m.funs[i] = ms[i].f := by simp only [← em, List.getElem_map]
  rw [hfe]
  rw [hlm] at ef
  cases ef
  have z0 := z 0 (by decide)
  have z1 := z 1 (by decide)
  have z2 := z 2 (by decide)
  have z3 := z 3 (by decide)
  have z4 := z 4 (by decide)
  have z5 := z 5 (by decide)
  simp only [Nat.add_zero, ← Nat.add_assoc, fnC, List.getElem?_cons_zero, List.getElem?_cons_succ] at z0 z1 z2 z3 z4 z5
  generalize ms[i] = x at z0 z1 z2 z3 z4 z5 hX
  obtain ⟨f, xb, xc, xo, xt⟩ := x
  obtain ⟨a1, c1, e1⟩ := hX.b.form
  obtain ⟨a2, c2, e2⟩ := hX.c.form
  obtain ⟨a3, c3, e3⟩ := hX.o.form
  obtain ⟨a4, c4, e4⟩ := hX.t.form
  simp only at e1 e2 e3 e4 z0 z1 z2 z3 z4 z5 ⊢
  subst e1 e2 e3 e4
  have HX := hid hX
  have hi2 : (i : Int) < (m.funs.length : Int) := by omega
  have HPC := hid (show Blk ((w.alloc (.cells #[.slice (some ⟨gf, of, none⟩) m.funs.length kf, .slice az m.strs.length ks, .slice ak m.keys.length kk, .int .i64 m.globals] 26)).alloc (.cells #[.int .i64 f.params, .int .i64 f.slots, .slice a1 f.boxes.length c1, .slice a2 f.caps.length c2, .slice a3 f.code.length c3, .slice a4 f.tries.length c4] 38)) (w.heap.size + 1) #[.int .i64 f.params, .int .i64 f.slots, .slice a1 f.boxes.length c1, .slice a2 f.caps.length c2, .slice a3 f.code.length c3, .slice a4 f.tries.length c4] 38 from by have := Blk.new (w.alloc (.cells #[.slice (some ⟨gf, of, none⟩) m.funs.length kf, .slice az m.strs.length ks, .slice ak m.keys.length kk, .int .i64 m.globals] 26)) #[.int .i64 f.params, .int .i64 f.slots, .slice a1 f.boxes.length c1, .slice a2 f.caps.length c2, .slice a3 f.code.length c3, .slice a4 f.tries.length c4] 38; simpa only [World.size_alloc] using this)
  clear hX hfe em hf z hlm him
  by_cases hA : f.params < 0
  · have bA : decide (f.params < 0) = true := decide_eq_true (by omega)
    have HR := hid (show frF f (i == 0) = 3 by unfold frF; rw [if_pos (by omega)])
    clear hA
    go_enter Tryd.func11, Tryd.ntmps11
    go_wp2
    all_goals go_ret
    all_goals exact ⟨by rw [HR.out]; rfl, (by repeat (first | exact Bw.refl _ | apply Bw.alloc | apply Bw.drewN | apply Bw.drew))⟩
  have bA : decide (f.params < 0) = false := decide_eq_false (by omega)
  by_cases hB : 16 < f.params
  · have bB : decide (16 < f.params) = true := decide_eq_true (by omega)
    have HR := hid (show frF f (i == 0) = 3 by unfold frF; rw [if_pos (by omega)])
    clear hB
    go_enter Tryd.func11, Tryd.ntmps11
    go_wp2
    all_goals go_ret
    all_goals exact ⟨by rw [HR.out]; rfl, (by repeat (first | exact Bw.refl _ | apply Bw.alloc | apply Bw.drewN | apply Bw.drew))⟩
  have bB : decide (16 < f.params) = false := decide_eq_false (by omega)
  by_cases hC : f.slots < f.params
  · have bC : decide (f.slots < f.params) = true := decide_eq_true (by omega)
    have HR := hid (show frF f (i == 0) = 3 by unfold frF; rw [if_pos (by omega)])
    clear hC
    go_enter Tryd.func11, Tryd.ntmps11
    go_wp2
    all_goals go_ret
    all_goals exact ⟨by rw [HR.out]; rfl, (by repeat (first | exact Bw.refl _ | apply Bw.alloc | apply Bw.drewN | apply Bw.drew))⟩
  have bC : decide (f.slots < f.params) = false := decide_eq_false (by omega)
  by_cases hD : 256 < f.slots
  · have bD : decide (256 < f.slots) = true := decide_eq_true (by omega)
    have HR := hid (show frF f (i == 0) = 3 by unfold frF; rw [if_pos (by omega)])
    clear hD
    go_enter Tryd.func11, Tryd.ntmps11
    go_wp2
    all_goals go_ret
    all_goals exact ⟨by rw [HR.out]; rfl, (by repeat (first | exact Bw.refl _ | apply Bw.alloc | apply Bw.drewN | apply Bw.drew))⟩
  have bD : decide (256 < f.slots) = false := decide_eq_false (by omega)
  by_cases hE : 256 < f.caps.length
  · have bE : decide (256 < (f.caps.length : Int)) = true := decide_eq_true (by omega)
    have HR := hid (show frF f (i == 0) = 3 by unfold frF; rw [if_pos (by omega)])
    clear hE
    go_enter Tryd.func11, Tryd.ntmps11
    go_wp2
    all_goals go_ret
    all_goals exact ⟨by rw [HR.out]; rfl, (by repeat (first | exact Bw.refl _ | apply Bw.alloc | apply Bw.drewN | apply Bw.drew))⟩
  have bE : decide (256 < (f.caps.length : Int)) = false := decide_eq_false (by omega)
  by_cases hG : f.code.length < 1
  · have bG : decide ((f.code.length : Int) < 1) = true := decide_eq_true (by omega)
    have HR := hid (show frF f (i == 0) = 3 by unfold frF; rw [if_pos (by omega)])
    clear hG
    go_enter Tryd.func11, Tryd.ntmps11
    go_wp2
    all_goals go_ret
    all_goals exact ⟨by rw [HR.out]; rfl, (by repeat (first | exact Bw.refl _ | apply Bw.alloc | apply Bw.drewN | apply Bw.drew))⟩
  have bG : decide ((f.code.length : Int) < 1) = false := decide_eq_false (by omega)
  by_cases hH : 65536 < f.code.length
  · have bH : decide (65536 < (f.code.length : Int)) = true := decide_eq_true (by omega)
    have HR := hid (show frF f (i == 0) = 3 by unfold frF; rw [if_pos (by omega)])
    clear hH
    go_enter Tryd.func11, Tryd.ntmps11
    go_wp2
    all_goals go_ret
    all_goals exact ⟨by rw [HR.out]; rfl, (by repeat (first | exact Bw.refl _ | apply Bw.alloc | apply Bw.drewN | apply Bw.drew))⟩
  have bH : decide (65536 < (f.code.length : Int)) = false := decide_eq_false (by omega)
  have HF1 := hid (show frF f (i == 0) = if boxR f.params 0 f.boxes = false ∨ ((i == 0) = true ∧ (0 < f.params ∨ 0 < f.caps.length)) ∨ ownR f.caps = false then 1 else 0 by unfold frF; rw [if_neg (by omega)])
  have hpo : 0 ≤ f.params := by omega
  clear hA hB hC hD hE hG hH
  cases hbx : boxR f.params 0 f.boxes
  · have HBX := hid hbx
    have HR := hid (show frF f (i == 0) = 1 by rw [HF1.out, if_pos (.inl hbx)])
    clear hbx
    go_enter Tryd.func11, Tryd.ntmps11
    go_wp2_with (first
      | (go_at_call 16; refine (boxes_any ⟨f, .slice a1 f.boxes.length c1, .slice a2 f.caps.length c2, .slice a3 f.code.length c3, .slice a4 f.tries.length c4⟩ G (HX.out.bw (by repeat (first | exact Bw.refl _ | apply Bw.alloc | apply Bw.drewN | apply Bw.drew)))).mono ?_; rw [HBX.out]; rintro e w2 ⟨rfl, hb2⟩; have HB2 := hid (show Bw w w2 from Bw.trans (by repeat (first | exact Bw.refl _ | apply Bw.alloc | apply Bw.drewN | apply Bw.drew)) hb2); have u2 := (HPC.out.bw hb2).cell; have ul2 := (HPC.out.bw hb2).lt; clear hb2)
      | (go_at_call 17; refine (owns_any _ f.caps G (RL.bw HX.out.c (HB2.out.trans (by repeat (first | exact Bw.refl _ | apply Bw.alloc | apply Bw.drewN | apply Bw.drew))))).mono ?_; rw [HOW.out]; rintro e w3 ⟨rfl, hb3⟩; have HB3 := hid (HB2.out.trans (Bw.trans (by repeat (first | exact Bw.refl _ | apply Bw.alloc | apply Bw.drewN | apply Bw.drew)) hb3)); clear hb3)
      | fail)
    all_goals go_ret
    all_goals exact ⟨by rw [HR.out]; rfl, HB2.out.trans (by repeat (first | exact Bw.refl _ | apply Bw.alloc | apply Bw.drewN | apply Bw.drew))⟩
  have HBX := hid hbx
  clear hbx
  by_cases h0 : i = 0 ∧ (0 < f.params ∨ 0 < f.caps.length)
  · obtain ⟨h1, h2⟩ := h0
    have HR := hid (show frF f (i == 0) = 1 by rw [HF1.out, if_pos (.inr (.inl ⟨by simp [h1], h2⟩))])
    have bi : ((i : Int) == 0) = true := by simp [h1]
    clear h1
    by_cases h3 : 0 < f.params
    · have b3 : decide (0 < f.params) = true := decide_eq_true h3
      clear h2 h3
      go_enter Tryd.func11, Tryd.ntmps11
      go_wp2_with (first
        | (go_at_call 16; refine (boxes_any ⟨f, .slice a1 f.boxes.length c1, .slice a2 f.caps.length c2, .slice a3 f.code.length c3, .slice a4 f.tries.length c4⟩ G (HX.out.bw (by repeat (first | exact Bw.refl _ | apply Bw.alloc | apply Bw.drewN | apply Bw.drew)))).mono ?_; rw [HBX.out]; rintro e w2 ⟨rfl, hb2⟩; have HB2 := hid (show Bw w w2 from Bw.trans (by repeat (first | exact Bw.refl _ | apply Bw.alloc | apply Bw.drewN | apply Bw.drew)) hb2); have u2 := (HPC.out.bw hb2).cell; have ul2 := (HPC.out.bw hb2).lt; clear hb2)
        | (go_at_call 17; refine (owns_any _ f.caps G (RL.bw HX.out.c (HB2.out.trans (by repeat (first | exact Bw.refl _ | apply Bw.alloc | apply Bw.drewN | apply Bw.drew))))).mono ?_; rw [HOW.out]; rintro e w3 ⟨rfl, hb3⟩; have HB3 := hid (HB2.out.trans (Bw.trans (by repeat (first | exact Bw.refl _ | apply Bw.alloc | apply Bw.drewN | apply Bw.drew)) hb3)); clear hb3)
        | fail)
      all_goals go_ret
      all_goals exact ⟨by rw [HR.out]; rfl, HB2.out.trans (by repeat (first | exact Bw.refl _ | apply Bw.alloc | apply Bw.drewN | apply Bw.drew))⟩
    · have b3 : decide (0 < f.params) = false := decide_eq_false h3
      have b4 : decide (0 < (f.caps.length : Int)) = true := decide_eq_true (by omega)
      have b5 : 0 < f.caps.length := by omega
      clear h2 h3
      go_enter Tryd.func11, Tryd.ntmps11
      go_wp2_with (first
        | (go_at_call 16; refine (boxes_any ⟨f, .slice a1 f.boxes.length c1, .slice a2 f.caps.length c2, .slice a3 f.code.length c3, .slice a4 f.tries.length c4⟩ G (HX.out.bw (by repeat (first | exact Bw.refl _ | apply Bw.alloc | apply Bw.drewN | apply Bw.drew)))).mono ?_; rw [HBX.out]; rintro e w2 ⟨rfl, hb2⟩; have HB2 := hid (show Bw w w2 from Bw.trans (by repeat (first | exact Bw.refl _ | apply Bw.alloc | apply Bw.drewN | apply Bw.drew)) hb2); have u2 := (HPC.out.bw hb2).cell; have ul2 := (HPC.out.bw hb2).lt; clear hb2)
        | (go_at_call 17; refine (owns_any _ f.caps G (RL.bw HX.out.c (HB2.out.trans (by repeat (first | exact Bw.refl _ | apply Bw.alloc | apply Bw.drewN | apply Bw.drew))))).mono ?_; rw [HOW.out]; rintro e w3 ⟨rfl, hb3⟩; have HB3 := hid (HB2.out.trans (Bw.trans (by repeat (first | exact Bw.refl _ | apply Bw.alloc | apply Bw.drewN | apply Bw.drew)) hb3)); clear hb3)
        | fail)
      all_goals go_ret
      all_goals exact ⟨by rw [HR.out]; rfl, HB2.out.trans (by repeat (first | exact Bw.refl _ | apply Bw.alloc | apply Bw.drewN | apply Bw.drew))⟩
  cases how : ownR f.caps
  · have HOW := hid how
    have HR := hid (show frF f (i == 0) = 1 by rw [HF1.out, if_pos (.inr (.inr how))])
    clear how
    by_cases hi0 : i = 0
    · have b3 : decide (0 < f.params) = false := decide_eq_false (by omega)
      have b4 : decide (0 < (f.caps.length : Int)) = false := decide_eq_false (by omega)
      have b5 : ¬ 0 < f.caps.length := by omega
      have bi : ((i : Int) == 0) = true := by simp [hi0]
      clear h0 hi0
      go_enter Tryd.func11, Tryd.ntmps11
      go_wp2_with (first
        | (go_at_call 16; refine (boxes_any ⟨f, .slice a1 f.boxes.length c1, .slice a2 f.caps.length c2, .slice a3 f.code.length c3, .slice a4 f.tries.length c4⟩ G (HX.out.bw (by repeat (first | exact Bw.refl _ | apply Bw.alloc | apply Bw.drewN | apply Bw.drew)))).mono ?_; rw [HBX.out]; rintro e w2 ⟨rfl, hb2⟩; have HB2 := hid (show Bw w w2 from Bw.trans (by repeat (first | exact Bw.refl _ | apply Bw.alloc | apply Bw.drewN | apply Bw.drew)) hb2); have u2 := (HPC.out.bw hb2).cell; have ul2 := (HPC.out.bw hb2).lt; clear hb2)
        | (go_at_call 17; refine (owns_any _ f.caps G (RL.bw HX.out.c (HB2.out.trans (by repeat (first | exact Bw.refl _ | apply Bw.alloc | apply Bw.drewN | apply Bw.drew))))).mono ?_; rw [HOW.out]; rintro e w3 ⟨rfl, hb3⟩; have HB3 := hid (HB2.out.trans (Bw.trans (by repeat (first | exact Bw.refl _ | apply Bw.alloc | apply Bw.drewN | apply Bw.drew)) hb3)); clear hb3)
        | fail)
      all_goals go_ret
      all_goals exact ⟨by rw [HR.out]; rfl, HB3.out.trans (by repeat (first | exact Bw.refl _ | apply Bw.alloc | apply Bw.drewN | apply Bw.drew))⟩
    · have b3 : ((i : Int) == 0) = false := by simp [hi0]
      clear h0 hi0
      go_enter Tryd.func11, Tryd.ntmps11
      go_wp2_with (first
        | (go_at_call 16; refine (boxes_any ⟨f, .slice a1 f.boxes.length c1, .slice a2 f.caps.length c2, .slice a3 f.code.length c3, .slice a4 f.tries.length c4⟩ G (HX.out.bw (by repeat (first | exact Bw.refl _ | apply Bw.alloc | apply Bw.drewN | apply Bw.drew)))).mono ?_; rw [HBX.out]; rintro e w2 ⟨rfl, hb2⟩; have HB2 := hid (show Bw w w2 from Bw.trans (by repeat (first | exact Bw.refl _ | apply Bw.alloc | apply Bw.drewN | apply Bw.drew)) hb2); have u2 := (HPC.out.bw hb2).cell; have ul2 := (HPC.out.bw hb2).lt; clear hb2)
        | (go_at_call 17; refine (owns_any _ f.caps G (RL.bw HX.out.c (HB2.out.trans (by repeat (first | exact Bw.refl _ | apply Bw.alloc | apply Bw.drewN | apply Bw.drew))))).mono ?_; rw [HOW.out]; rintro e w3 ⟨rfl, hb3⟩; have HB3 := hid (HB2.out.trans (Bw.trans (by repeat (first | exact Bw.refl _ | apply Bw.alloc | apply Bw.drewN | apply Bw.drew)) hb3)); clear hb3)
        | fail)
      all_goals go_ret
      all_goals exact ⟨by rw [HR.out]; rfl, HB3.out.trans (by repeat (first | exact Bw.refl _ | apply Bw.alloc | apply Bw.drewN | apply Bw.drew))⟩
  · have HOW := hid how
    have HR := hid (show frF f (i == 0) = 0 by rw [HF1.out, if_neg (fun h => by
      rcases h with h | h | h
      · rw [HBX.out] at h; cases h
      · exact h0 ⟨by simpa using h.1, h.2⟩
      · rw [how] at h; cases h)])
    clear how
    by_cases hi0 : i = 0
    · have b3 : decide (0 < f.params) = false := decide_eq_false (by omega)
      have b4 : decide (0 < (f.caps.length : Int)) = false := decide_eq_false (by omega)
      have b5 : ¬ 0 < f.caps.length := by omega
      have bi : ((i : Int) == 0) = true := by simp [hi0]
      clear h0 hi0
      go_enter Tryd.func11, Tryd.ntmps11
      go_wp2_with (first
        | (go_at_call 16; refine (boxes_any ⟨f, .slice a1 f.boxes.length c1, .slice a2 f.caps.length c2, .slice a3 f.code.length c3, .slice a4 f.tries.length c4⟩ G (HX.out.bw (by repeat (first | exact Bw.refl _ | apply Bw.alloc | apply Bw.drewN | apply Bw.drew)))).mono ?_; rw [HBX.out]; rintro e w2 ⟨rfl, hb2⟩; have HB2 := hid (show Bw w w2 from Bw.trans (by repeat (first | exact Bw.refl _ | apply Bw.alloc | apply Bw.drewN | apply Bw.drew)) hb2); have u2 := (HPC.out.bw hb2).cell; have ul2 := (HPC.out.bw hb2).lt; clear hb2)
        | (go_at_call 17; refine (owns_any _ f.caps G (RL.bw HX.out.c (HB2.out.trans (by repeat (first | exact Bw.refl _ | apply Bw.alloc | apply Bw.drewN | apply Bw.drew))))).mono ?_; rw [HOW.out]; rintro e w3 ⟨rfl, hb3⟩; have HB3 := hid (HB2.out.trans (Bw.trans (by repeat (first | exact Bw.refl _ | apply Bw.alloc | apply Bw.drewN | apply Bw.drew)) hb3)); clear hb3)
        | fail)
      all_goals go_ret
      all_goals exact ⟨by rw [HR.out]; rfl, HB3.out.trans (by repeat (first | exact Bw.refl _ | apply Bw.alloc | apply Bw.drewN | apply Bw.drew))⟩
    · have b3 : ((i : Int) == 0) = false := by simp [hi0]
      clear h0 hi0
      go_enter Tryd.func11, Tryd.ntmps11
      go_wp2_with (first
        | (go_at_call 16; refine (boxes_any ⟨f, .slice a1 f.boxes.length c1, .slice a2 f.caps.length c2, .slice a3 f.code.length c3, .slice a4 f.tries.length c4⟩ G (HX.out.bw (by repeat (first | exact Bw.refl _ | apply Bw.alloc | apply Bw.drewN | apply Bw.drew)))).mono ?_; rw [HBX.out]; rintro e w2 ⟨rfl, hb2⟩; have HB2 := hid (show Bw w w2 from Bw.trans (by repeat (first | exact Bw.refl _ | apply Bw.alloc | apply Bw.drewN | apply Bw.drew)) hb2); have u2 := (HPC.out.bw hb2).cell; have ul2 := (HPC.out.bw hb2).lt; clear hb2)
        | (go_at_call 17; refine (owns_any _ f.caps G (RL.bw HX.out.c (HB2.out.trans (by repeat (first | exact Bw.refl _ | apply Bw.alloc | apply Bw.drewN | apply Bw.drew))))).mono ?_; rw [HOW.out]; rintro e w3 ⟨rfl, hb3⟩; have HB3 := hid (HB2.out.trans (Bw.trans (by repeat (first | exact Bw.refl _ | apply Bw.alloc | apply Bw.drewN | apply Bw.drew)) hb3)); clear hb3)
        | fail)
      all_goals go_ret
      all_goals exact ⟨by rw [HR.out]; rfl, HB3.out.trans (by repeat (first | exact Bw.refl _ | apply Bw.alloc | apply Bw.drewN | apply Bw.drew))⟩

end

end Go.Proofs.YtcljlmjcjfmppaaDoor
