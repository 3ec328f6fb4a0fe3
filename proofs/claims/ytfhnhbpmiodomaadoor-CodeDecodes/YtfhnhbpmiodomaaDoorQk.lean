/- Decode: the contract. -/
import Derived.Test.YtfhnhbpmiodomaaDoorQj
set_option linter.unusedSimpArgs false
set_option linter.unusedVariables false
namespace Go.Proofs.YtfhnhbpmiodomaaDoor
open Go Go.RowKit

theorem RIm.f1 {w : World} {G : Nat → Prop} {vf vs vk : Value} {m : AIm} (h : RIm w G vf vs vk m) : ∃ n a c, vf = .slice a n c := by
  obtain ⟨⟨ms, _, h⟩, _⟩ := h
  obtain ⟨a, c, e⟩ := h.form
  exact ⟨_, a, c, e⟩
theorem RIm.f2 {w : World} {G : Nat → Prop} {vf vs vk : Value} {m : AIm} (h : RIm w G vf vs vk m) : ∃ n a c, vs = .slice a n c := by
  obtain ⟨a, c, e⟩ := h.2.1.form
  exact ⟨_, a, c, e⟩
theorem RIm.f3 {w : World} {G : Nat → Prop} {vf vs vk : Value} {m : AIm} (h : RIm w G vf vs vk m) : ∃ n a c, vk = .slice a n c := by
  obtain ⟨_, _, ⟨ms, _, h⟩, _⟩ := h
  obtain ⟨a, c, e⟩ := h.form
  exact ⟨_, a, c, e⟩
theorem RIm.kpn {N r : Nat} {w w' : World} {vf vs vk : Value} {m : AIm} (h : RIm w (fun x => N ≤ x) vf vs vk m) (hk : Kp r w w') (hr : r < N) : RIm w' (fun x => N ≤ x) vf vs vk m :=
  h.keep hk.size (fun b hb hG => hk.block b hb (by omega)) (fun _ _ g => g)
theorem RIm.setn {N : Nat} {w : World} {vf vs vk : Value} {m : AIm} (h : RIm w (fun x => N ≤ x) vf vs vk m) {g : Nat} (hg : g < N) (j : Nat) (u : Value) : RIm (w.setCell ⟨g, j, none⟩ u) (fun x => N ≤ x) vf vs vk m :=
  h.keep (by simp [World.setCell]) (fun b hb hG => Below.heap_setCell w ⟨g, j, none⟩ u b (show b ≠ g by omega)) (fun _ _ g => g)
theorem RIm.low {N M : Nat} {w : World} {vf vs vk : Value} {m : AIm} (h : RIm w (fun x => M ≤ x) vf vs vk m) (hl : N ≤ M) : RIm w (fun x => N ≤ x) vf vs vk m :=
  h.keep (Nat.le_refl _) (fun _ _ _ => rfl) (fun b _ hb => Nat.le_trans hl hb)

section
variable {base r : Nat} {w w' : World} {vb : Value} {b : List Int} {s : St}

/-- What Decode answers. -/
def DecP (w : World) (b : List Int) (e : Ending) (w' : World) : Prop :=
  Bw w w' ∧ ∃ vf vs vk, e = .returned (.tuple #[imV vf vs vk (decI b), .int .i64 (decS b).2, .int .i64 (decS b).1]) ∧ RIm w' (fun x => w.heap.size ≤ x) vf vs vk (decI b)

theorem RIm.none (w : World) (G : Nat → Prop) : RIm w G (.slice none 0 0) (.slice none 0 0) (.slice none 0 0) AIm.none :=
  ⟨⟨[], rfl, Sl.nil _ _ _, by simp, by simp, fun _ => rfl⟩, ⟨Sl.nil _ _ _, by simp [AIm.none], by simp [AIm.none], fun _ => rfl⟩, ⟨[], rfl, Sl.nil _ _ _, by simp, by simp, fun _ => rfl⟩, by unfold I64 AIm.none; decide⟩

set_option maxRecDepth 100000 in
set_option maxHeartbeats 8000000 in
theorem decode_any (vb : Value) (b : List Int) (hv : Sl w (fun _ => True) vb b.length 1 (b.map (Value.int .u8))) (hb : ∀ c ∈ b, 0 ≤ c ∧ c ≤ 255) (hl : b.length ≤ 4194304) :
    Calls Tryd.prog 10 #[vb] w (DecP w b) := by
  obtain ⟨ab, cb, rfl⟩ := hv.form
  have HW0 := hid (show Bw w ((w.alloc (.cells #[.slice none 0 0, .slice none 0 0, .slice none 0 0, .int .i64 0] 26)).alloc (.cells #[.slice ab b.length cb, .int .i64 0, .int .i64 0] 65)) from Bw.alloc (Bw.alloc (Bw.refl w) _) _)
  have HR := hid (show RB w.heap.size ((w.alloc (.cells #[.slice none 0 0, .slice none 0 0, .slice none 0 0, .int .i64 0] 26)).alloc (.cells #[.slice ab b.length cb, .int .i64 0, .int .i64 0] 65)) (w.heap.size + 1) (.slice ab b.length cb) b (0, 0) from
    ⟨by have := Blk.new (w.alloc (.cells #[.slice none 0 0, .slice none 0 0, .slice none 0 0, .int .i64 0] 26)) #[.slice ab b.length cb, .int .i64 0, .int .i64 0] 65; simpa using this, hv.keep HW0.out.size (fun x hx _ => HW0.out.block x hx) (fun x hx _ => hx), hb, hl, Nat.zero_le _, by simp, by omega⟩)
  have HZ := hid (show Blk ((w.alloc (.cells #[.slice none 0 0, .slice none 0 0, .slice none 0 0, .int .i64 0] 26)).alloc (.cells #[.slice ab b.length cb, .int .i64 0, .int .i64 0] 65)) w.heap.size #[.slice none 0 0, .slice none 0 0, .slice none 0 0, .int .i64 0] 26 from (Blk.new w #[.slice none 0 0, .slice none 0 0, .slice none 0 0, .int .i64 0] 26).alloc _)
  have HK := hid (Kp.of_bw (r := w.heap.size + 1) HW0.out)
  have HNZ := hid (show w.heap.size ≠ w.heap.size + 1 by omega)
  have HDS := hid (decS_le b)
  have hlen : decide (4194304 < (b.length : Int)) = false := decide_eq_false (by omega)
  obtain ⟨⟨im, s2⟩, hx⟩ : ∃ x, imM b (mkM b) = x := ⟨_, rfl⟩
  have HX := hid hx
  have HD := hid (show decS b = endS b s2 by unfold decS; rw [hx])
  have HI := hid (show decI b = if (decS b).2 = 0 then im else AIm.none by unfold decI; rw [hx])
  clear hv hb hl hx
  by_cases hf : (decS b).2 = 0
  · have HF := hid hf
    have hf2 : (((endS b s2).2 : Int) != 0) = false := by rw [← HD.out]; simp [hf]
    have HE := hid (show decI b = im by rw [HI.out, if_pos hf])
    clear hf
    go_enter Tryd.func10, Tryd.ntmps10
    go_wp2_with (first
      | (go_at_call 22; refine (qimage_any HR.out).mono ?_; rw [HX.out]; rintro e w1 ⟨vf, vs, vk, rfl, hi1, hr1, hk1⟩; obtain ⟨n1, a1, c1, e1⟩ := hi1.f1; obtain ⟨n2, a2, c2, e2⟩ := hi1.f2; obtain ⟨n3, a3, c3, e3⟩ := hi1.f3; subst e1 e2 e3; unfold imV; have HI1 := hid hi1; have HR1 := hid hr1; have HS1 := hid hk1.size; have HK1 := hid (show Kp (w.heap.size + 1) w w1 from HK.out.trans hk1); have HZ1 := hid (HZ.out.kp hk1 HNZ.out); have z1 := HZ1.out.cell; have zf1 := HZ1.out.free; have zl1 := HZ1.out.lt; clear hi1 hr1 hk1)
      | (go_at_call 23; refine (qend_any ((((HR1.out.other HNZ.out (Nat.le_refl _) 0 _).other HNZ.out (Nat.le_refl _) 1 _).other HNZ.out (Nat.le_refl _) 2 _).other HNZ.out (Nat.le_refl _) 3 _)).mono ?_; rintro e w2 ⟨⟨_, rfl⟩, hr2, hk2⟩; have HR2 := hid hr2; have HK2 := hid (show Kp (w.heap.size + 1) w w2 from ((((HK1.out.setNew (Nat.le_refl _) 0 _).setNew (Nat.le_refl _) 1 _).setNew (Nat.le_refl _) 2 _).setNew (Nat.le_refl _) 3 _).trans hk2); have HZ2 := hid (((((HZ1.out.set 0 (.slice a1 n1 c1)).set 1 (.slice a2 n2 c2)).set 2 (.slice a3 n3 c3)).set 3 (.int .i64 im.globals)).kp hk2 HNZ.out); have HI2 := hid (((((HI1.out.setn (g := w.heap.size) (by have := HS1.out; simp only [World.size_alloc] at this ⊢; omega) 0 _).setn (g := w.heap.size) (by have := HS1.out; simp only [World.size_alloc] at this ⊢; omega) 1 _).setn (g := w.heap.size) (by have := HS1.out; simp only [World.size_alloc] at this ⊢; omega) 2 _).setn (g := w.heap.size) (by have := HS1.out; simp only [World.size_alloc] at this ⊢; omega) 3 _).kpn hk2 (by simp only [World.size_alloc]; omega)); have y := hr2.k.cell; have yl := hr2.k.lt; have z2 := HZ2.out.cell; have zf2 := HZ2.out.free; have zl2 := HZ2.out.lt; clear hr2 hk2)
      | fail)
    go_region
    all_goals
      go_wp2
      have bf := ((((HZ2.out.set 0 (.slice a1 n1 c1)).set 1 (.slice a2 n2 c2)).set 2 (.slice a3 n3 c3)).set 3 (.int .i64 im.globals))
      have bfc := bf.cell
      refine bodyPost_ret (v := .tuple #[.agg #[.slice a1 n1 c1, .slice a2 n2 c2, .slice a3 n3 c3, .int .i64 im.globals], .int .i64 0, .int .i64 (endS b s2).1]) (by simp [results, Tryd.results10, go_sem, bfc]) rfl ?_
      refine ⟨(((((HK2.out.setNew (Nat.le_refl _) 0 _).setNew (Nat.le_refl _) 1 _).setNew (Nat.le_refl _) 2 _).setNew (Nat.le_refl _) 3 _).bw (Bw.drew (Bw.refl _))).toBw (by omega), .slice a1 n1 c1, .slice a2 n2 c2, .slice a3 n3 c3, ?_, ?_⟩
      · have h2 := HF.out
        rw [HE.out, h2, HD.out]
        rfl
      · rw [HE.out]
        exact (((((HI2.out.setn (g := w.heap.size) (by simp only [World.size_alloc]; omega) 0 _).setn (g := w.heap.size) (by simp only [World.size_alloc]; omega) 1 _).setn (g := w.heap.size) (by simp only [World.size_alloc]; omega) 2 _).setn (g := w.heap.size) (by simp only [World.size_alloc]; omega) 3 _).low (by simp only [World.size_alloc]; omega)).bw (Bw.drew (Bw.refl _))
  · have HF := hid hf
    have hf2 : (((endS b s2).2 : Int) != 0) = true := by rw [← HD.out]; simp [hf]
    have HE := hid (show decI b = AIm.none by rw [HI.out, if_neg hf])
    clear hf
    go_enter Tryd.func10, Tryd.ntmps10
    go_wp2_with (first
      | (go_at_call 22; refine (qimage_any HR.out).mono ?_; rw [HX.out]; rintro e w1 ⟨vf, vs, vk, rfl, hi1, hr1, hk1⟩; obtain ⟨n1, a1, c1, e1⟩ := hi1.f1; obtain ⟨n2, a2, c2, e2⟩ := hi1.f2; obtain ⟨n3, a3, c3, e3⟩ := hi1.f3; subst e1 e2 e3; unfold imV; have HI1 := hid hi1; have HR1 := hid hr1; have HS1 := hid hk1.size; have HK1 := hid (show Kp (w.heap.size + 1) w w1 from HK.out.trans hk1); have HZ1 := hid (HZ.out.kp hk1 HNZ.out); have z1 := HZ1.out.cell; have zf1 := HZ1.out.free; have zl1 := HZ1.out.lt; clear hi1 hr1 hk1)
      | (go_at_call 23; refine (qend_any ((((HR1.out.other HNZ.out (Nat.le_refl _) 0 _).other HNZ.out (Nat.le_refl _) 1 _).other HNZ.out (Nat.le_refl _) 2 _).other HNZ.out (Nat.le_refl _) 3 _)).mono ?_; rintro e w2 ⟨⟨_, rfl⟩, hr2, hk2⟩; have HR2 := hid hr2; have HK2 := hid (show Kp (w.heap.size + 1) w w2 from ((((HK1.out.setNew (Nat.le_refl _) 0 _).setNew (Nat.le_refl _) 1 _).setNew (Nat.le_refl _) 2 _).setNew (Nat.le_refl _) 3 _).trans hk2); have HZ2 := hid (((((HZ1.out.set 0 (.slice a1 n1 c1)).set 1 (.slice a2 n2 c2)).set 2 (.slice a3 n3 c3)).set 3 (.int .i64 im.globals)).kp hk2 HNZ.out); have HI2 := hid (((((HI1.out.setn (g := w.heap.size) (by have := HS1.out; simp only [World.size_alloc] at this ⊢; omega) 0 _).setn (g := w.heap.size) (by have := HS1.out; simp only [World.size_alloc] at this ⊢; omega) 1 _).setn (g := w.heap.size) (by have := HS1.out; simp only [World.size_alloc] at this ⊢; omega) 2 _).setn (g := w.heap.size) (by have := HS1.out; simp only [World.size_alloc] at this ⊢; omega) 3 _).kpn hk2 (by simp only [World.size_alloc]; omega)); have y := hr2.k.cell; have yl := hr2.k.lt; have z2 := HZ2.out.cell; have zf2 := HZ2.out.free; have zl2 := HZ2.out.lt; clear hr2 hk2)
      | fail)
    go_region
    all_goals
      go_wp2
      have bf := ((((HZ2.out.set 0 (.slice none 0 0)).set 1 (.slice none 0 0)).set 2 (.slice none 0 0)).set 3 (.int .i64 0))
      have bfc := bf.cell
      refine bodyPost_ret (v := .tuple #[.agg #[.slice none 0 0, .slice none 0 0, .slice none 0 0, .int .i64 0], .int .i64 (endS b s2).2, .int .i64 (endS b s2).1]) (by simp [results, Tryd.results10, go_sem, bfc]) rfl ?_
      refine ⟨(((((HK2.out.setNew (Nat.le_refl _) 0 _).setNew (Nat.le_refl _) 1 _).setNew (Nat.le_refl _) 2 _).setNew (Nat.le_refl _) 3 _).bw (Bw.drew (Bw.refl _))).toBw (by omega), .slice none 0 0, .slice none 0 0, .slice none 0 0, ?_, ?_⟩
      · rw [HE.out, HD.out]
        rfl
      · rw [HE.out]
        exact RIm.none _ _

end

end Go.Proofs.YtfhnhbpmiodomaaDoor
