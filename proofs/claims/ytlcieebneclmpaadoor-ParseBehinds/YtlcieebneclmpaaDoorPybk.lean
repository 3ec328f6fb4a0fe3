/- A spawn, what has a - ahead: contracts. -/
import Derived.Test.YtlcieebneclmpaaDoorK5
import Derived.Test.YtlcieebneclmpaaDoorPuk
set_option linter.unusedSimpArgs false
set_option linter.unusedVariables false
namespace Go.Proofs.YtlcieebneclmpaaDoor
open Go Go.RowKit

section
variable {B : World} {r g cap : Nat} {T : List ATok} {ex : Nat → Value}

set_option maxRecDepth 100000 in
set_option maxHeartbeats 8000000 in
theorem spawned_any (f : Nat) (ht : RdT B r g cap T ex f) (w : World) (i o : Nat) (h : RI B w r g cap T ex i o) (ho : o ≤ 64) (hs : isT T i ⟨#[115, 112, 97, 119, 110]⟩ = true) (hne : (entr T ⟨#[115, 112, 97, 119, 110]⟩ i o fun j o => (pP T f .thing j o).bind fun x c j => if c then .ok (.mk 32 [] 0 (tk T i).2.2.2 x.kids) false j else here T 6 j) ≠ .out) :
    Calls Tryd.prog 73 #[.pointer (some ⟨r, 0, none⟩)] w (Got B r g cap T ex o No w (entr T ⟨#[115, 112, 97, 119, 110]⟩ i o fun j o => (pP T f .thing j o).bind fun x c j => if c then .ok (.mk 32 [] 0 (tk T i).2.2.2 x.kids) false j else here T 6 j)) := by
  have HS := hid (SI.begin h)
  have HT := hid ht
  have HI := hid hs
  have zz := HS.out.ri.k.cell; have zf := HS.out.ri.k.free; have zl := HS.out.ri.k.lt
  unfold entr at hne ⊢
  rw [if_pos hs] at hne ⊢
  clear h ht hs
  by_cases h64 : o = 64
  · rw [if_pos h64]
    have H64 := hid h64
    unfold here
    clear hne h64
    go_enter Tryd.func73, Tryd.ntmps73
    go_wp2_with (first
      | (go_at_call 77; refine (enter_many _ (HS.out.ri.bw (by repeat (first | exact Bw.refl _ | apply Bw.alloc | apply Bw.drewN | apply Bw.drew))) HI.out H64.out).mono ?_; rintro e w1 ⟨rfl, hk1⟩; have HK := hid ((HS.out.kp.bw (by repeat (first | exact Bw.refl _ | apply Bw.alloc | apply Bw.drewN | apply Bw.drew))).trans hk1); clear hk1)
      | fail)
    all_goals exact ⟨rfl, rfl, HK.out⟩
  · rw [if_neg h64] at hne ⊢
    dsimp only at hne ⊢
    have H64 := hid (show o < 64 by omega)
    have H65 := hid (show o + 1 ≤ 64 by omega)
    clear h64
    have HNE := hid (show pP T f .thing (i + 1) (o + 1) ≠ .out from fun q => hne (by rw [q]; rfl))
    generalize hq : pP T f .thing (i + 1) (o + 1) = R at hne ⊢
    have HQ := hid hq
    clear hq
    cases R with
    | out => exact absurd HQ.out HNE.out
    | bad n m =>
      simp only [Res.bind]
      clear hne
      go_enter Tryd.func73, Tryd.ntmps73
      go_wp2_with (first
        | (go_at_call 77; refine (enter_yes _ (HS.out.ri.bw (by repeat (first | exact Bw.refl _ | apply Bw.alloc | apply Bw.drewN | apply Bw.drew))) HI.out H64.out).mono ?_; rintro e w1 ⟨rfl, hr1, hk1⟩; have HS := hid ((HS.out.bw (by repeat (first | exact Bw.refl _ | apply Bw.alloc | apply Bw.drewN | apply Bw.drew))).go hr1 hk1); have zz := HS.out.ri.k.cell; have zf := HS.out.ri.k.free; have zl := HS.out.ri.k.lt; clear hr1 hk1)
        | (go_at_call 74; refine (HT.out _ _ _ (HS.out.ri.bw (by repeat (first | exact Bw.refl _ | apply Bw.alloc | apply Bw.drewN | apply Bw.drew))) H65.out HNE.out).mono ?_; intro e w2 h2; rw [HQ.out] at h2; obtain ⟨rfl, hk2⟩ := h2; have HK := hid ((HS.out.kp.bw (by repeat (first | exact Bw.refl _ | apply Bw.alloc | apply Bw.drewN | apply Bw.drew))).trans hk2); clear hk2)
        | fail)
      all_goals exact ⟨rfl, rfl, HK.out⟩
    | ok x c j =>
      simp only [Res.bind] at hne ⊢
      unfold here
      clear hne
      cases c
      · rw [if_neg (by decide)]
        go_enter Tryd.func73, Tryd.ntmps73
        go_wp2_with (first
          | (go_at_call 77; refine (enter_yes _ (HS.out.ri.bw (by repeat (first | exact Bw.refl _ | apply Bw.alloc | apply Bw.drewN | apply Bw.drew))) HI.out H64.out).mono ?_; rintro e w1 ⟨rfl, hr1, hk1⟩; have HS := hid ((HS.out.bw (by repeat (first | exact Bw.refl _ | apply Bw.alloc | apply Bw.drewN | apply Bw.drew))).go hr1 hk1); have zz := HS.out.ri.k.cell; have zf := HS.out.ri.k.free; have zl := HS.out.ri.k.lt; clear hr1 hk1)
          | (go_at_call 74; refine (HT.out _ _ _ (HS.out.ri.bw (by repeat (first | exact Bw.refl _ | apply Bw.alloc | apply Bw.drewN | apply Bw.drew))) H65.out HNE.out).mono ?_; intro e w2 h2; rw [HQ.out] at h2; obtain ⟨b2, rfl, hp2, hr2, hk2⟩ := h2; have HS := hid ((HS.out.bw (by repeat (first | exact Bw.refl _ | apply Bw.alloc | apply Bw.drewN | apply Bw.drew))).add hr2 hk2 hp2); have zz := HS.out.ri.k.cell; have zf := HS.out.ri.k.free; have zl := HS.out.ri.k.lt; clear hp2 hr2 hk2)
          | (go_at_call 82; refine (fail_any _ (HS.out.ri.bw (by repeat (first | exact Bw.refl _ | apply Bw.alloc | apply Bw.drewN | apply Bw.drew)))).mono ?_; rintro e w1 ⟨rfl, hb1⟩; have HK := hid (HS.out.kp.bw (Bw.trans (by repeat (first | exact Bw.refl _ | apply Bw.alloc | apply Bw.drewN | apply Bw.drew)) hb1)); clear hb1)
          | fail)
        all_goals exact ⟨rfl, rfl, HK.out⟩
      · rw [if_pos rfl]
        go_enter Tryd.func73, Tryd.ntmps73
        go_wp2_with (first
          | (go_at_call 77; refine (enter_yes _ (HS.out.ri.bw (by repeat (first | exact Bw.refl _ | apply Bw.alloc | apply Bw.drewN | apply Bw.drew))) HI.out H64.out).mono ?_; rintro e w1 ⟨rfl, hr1, hk1⟩; have HS := hid ((HS.out.bw (by repeat (first | exact Bw.refl _ | apply Bw.alloc | apply Bw.drewN | apply Bw.drew))).go hr1 hk1); have zz := HS.out.ri.k.cell; have zf := HS.out.ri.k.free; have zl := HS.out.ri.k.lt; clear hr1 hk1)
          | (go_at_call 74; refine (HT.out _ _ _ (HS.out.ri.bw (by repeat (first | exact Bw.refl _ | apply Bw.alloc | apply Bw.drewN | apply Bw.drew))) H65.out HNE.out).mono ?_; intro e w2 h2; rw [HQ.out] at h2; obtain ⟨b2, rfl, hp2, hr2, hk2⟩ := h2; have HS := hid ((HS.out.bw (by repeat (first | exact Bw.refl _ | apply Bw.alloc | apply Bw.drewN | apply Bw.drew))).add hr2 hk2 hp2); obtain ⟨av, cv, k5, kl, kr, hkk⟩ := HS.out.kids (x := x) (b := b2) (by simp); have HKK := hid hkk; clear hkk; have zz := HS.out.ri.k.cell; have zf := HS.out.ri.k.free; have zl := HS.out.ri.k.lt; clear hp2 hr2 hk2)
          | (go_at_call 43; obtain ⟨bs, hr5, hp5⟩ := HKK.out _ ((Kp.refl r _).set 2 (.int .i64 (o : Int))); refine (made_any _ _ _ x.kids bs _ _ hr5 hp5).mono ?_; rintro e w3 ⟨b3, rfl, hp3, hb3, hn3, hc3⟩; have HS := hid ((HS.out.go (HS.out.ri.opn o (by omega)) ((Kp.refl r _).set 2 _)).put hb3 hp3); clear hp3 hb3)
          | fail)
        all_goals go_ret
        all_goals exact ⟨_, rfl, HS.out.outp (by simp)⟩

set_option maxRecDepth 100000 in
set_option maxHeartbeats 8000000 in
theorem negated_any (f : Nat) (ht : RdT B r g cap T ex f) (h6 : RdP B r g cap T ex f 54 #[.pointer (some ⟨r, 0, none⟩)] (.lev 6)) : RdP B r g cap T ex (f + 1) 54 #[.pointer (some ⟨r, 0, none⟩)] (.lev 6) := by
  intro w i o h ho hne
  have e : pP T (f + 1) (.lev 6) i o = if isT T i ⟨#[45]⟩ then (entr T ⟨#[45]⟩ i o fun j o => (pP T f (.lev 6) j o).bind fun x _ j => .ok (.mk 27 [] 0 (tk T i).2.2.2 [x]) false j) else if isT T i ⟨#[115, 112, 97, 119, 110]⟩ then (entr T ⟨#[115, 112, 97, 119, 110]⟩ i o fun j o => (pP T f .thing j o).bind fun x c j => if c then .ok (.mk 32 [] 0 (tk T i).2.2.2 x.kids) false j else here T 6 j) else (pP T f .thing i o).bind fun x _ i => .ok x false i := by
    simp only [pP]
    rfl
  rw [e] at hne ⊢
  have HS := hid (SI.begin h)
  have HT := hid ht
  have H6 := hid h6
  have hmf : ∀ (fn : Fn) (first cap : Array Value) (w : World), (Instr.makeFunc fn first cap).run Tryd.prog w = .ok (.func fn first cap) w := fun _ _ _ _ => rfl
  have zz := HS.out.ri.k.cell; have zf := HS.out.ri.k.free; have zl := HS.out.ri.k.lt
  clear h ht e h6
  cases ho1 : isT T i ⟨#[45]⟩
  · rw [ho1, if_neg (by decide)] at hne
    rw [if_neg (by decide)]
    cases ho2 : isT T i ⟨#[115, 112, 97, 119, 110]⟩
    · rw [ho2, if_neg (by decide)] at hne
      rw [if_neg (by decide)]
      have HNE := hid (show pP T f .thing i o ≠ .out from fun q => hne (by rw [q]; rfl))
      clear hne
      generalize hq : pP T f .thing i o = R
      have HQ := hid hq
      clear hq
      cases R with
      | out => exact absurd HQ.out HNE.out
      | bad n m =>
        simp only [Res.bind]
        go_enter Tryd.func54, Tryd.ntmps54
        go_wp2_with (first
          | (go_at_call 58; refine (is_any _ (HS.out.ri.bw (by repeat (first | exact Bw.refl _ | apply Bw.alloc | apply Bw.drewN | apply Bw.drew)))).mono ?_; rintro e w1 ⟨rfl, hb1⟩; have HS := hid (HS.out.bw (Bw.trans (by repeat (first | exact Bw.refl _ | apply Bw.alloc | apply Bw.drewN | apply Bw.drew)) hb1)); have zz := HS.out.ri.k.cell; have zf := HS.out.ri.k.free; have zl := HS.out.ri.k.lt; clear hb1)
          | (go_at_call 74; refine (HT.out _ _ _ (HS.out.ri.bw (by repeat (first | exact Bw.refl _ | apply Bw.alloc | apply Bw.drewN | apply Bw.drew))) ho HNE.out).mono ?_; intro e w2 h2; rw [HQ.out] at h2; obtain ⟨rfl, hk2⟩ := h2; have HK := hid ((HS.out.kp.bw (by repeat (first | exact Bw.refl _ | apply Bw.alloc | apply Bw.drewN | apply Bw.drew))).trans hk2); clear hk2)
          | fail)
        all_goals exact ⟨rfl, rfl, HK.out⟩
      | ok x c j =>
        simp only [Res.bind]
        go_enter Tryd.func54, Tryd.ntmps54
        go_wp2_with (first
          | (go_at_call 58; refine (is_any _ (HS.out.ri.bw (by repeat (first | exact Bw.refl _ | apply Bw.alloc | apply Bw.drewN | apply Bw.drew)))).mono ?_; rintro e w1 ⟨rfl, hb1⟩; have HS := hid (HS.out.bw (Bw.trans (by repeat (first | exact Bw.refl _ | apply Bw.alloc | apply Bw.drewN | apply Bw.drew)) hb1)); have zz := HS.out.ri.k.cell; have zf := HS.out.ri.k.free; have zl := HS.out.ri.k.lt; clear hb1)
          | (go_at_call 74; refine (HT.out _ _ _ (HS.out.ri.bw (by repeat (first | exact Bw.refl _ | apply Bw.alloc | apply Bw.drewN | apply Bw.drew))) ho HNE.out).mono ?_; intro e w2 h2; rw [HQ.out] at h2; obtain ⟨b2, rfl, hp2, hr2, hk2⟩ := h2; have HS := hid ((HS.out.bw (by repeat (first | exact Bw.refl _ | apply Bw.alloc | apply Bw.drewN | apply Bw.drew))).add hr2 hk2 hp2); have zz := HS.out.ri.k.cell; have zf := HS.out.ri.k.free; have zl := HS.out.ri.k.lt; clear hp2 hr2 hk2)
          | fail)
        all_goals go_ret
        all_goals exact ⟨_, rfl, HS.out.outp (by simp)⟩
    · rw [ho2, if_pos rfl] at hne
      rw [if_pos rfl]
      have HO2 := hid ho2
      have HNE := hid hne
      clear hne
      generalize hq : (entr T ⟨#[115, 112, 97, 119, 110]⟩ i o fun j o => (pP T f .thing j o).bind fun x c j => if c then .ok (.mk 32 [] 0 (tk T i).2.2.2 x.kids) false j else here T 6 j) = R
      have HQ := hid hq
      clear hq
      cases R with
      | out => exact absurd HQ.out HNE.out
      | bad n m =>
        go_enter Tryd.func54, Tryd.ntmps54
        go_wp2_with (first
          | (go_at_call 58; refine (is_any _ (HS.out.ri.bw (by repeat (first | exact Bw.refl _ | apply Bw.alloc | apply Bw.drewN | apply Bw.drew)))).mono ?_; rintro e w1 ⟨rfl, hb1⟩; have HS := hid (HS.out.bw (Bw.trans (by repeat (first | exact Bw.refl _ | apply Bw.alloc | apply Bw.drewN | apply Bw.drew)) hb1)); have zz := HS.out.ri.k.cell; have zf := HS.out.ri.k.free; have zl := HS.out.ri.k.lt; clear hb1)
          | (go_at_call 73; refine (spawned_any f HT.out _ _ _ (HS.out.ri.bw (by repeat (first | exact Bw.refl _ | apply Bw.alloc | apply Bw.drewN | apply Bw.drew))) ho HO2.out HNE.out).mono ?_; intro e w2 h2; rw [HQ.out] at h2; obtain ⟨rfl, hk2⟩ := h2; have HK := hid ((HS.out.kp.bw (by repeat (first | exact Bw.refl _ | apply Bw.alloc | apply Bw.drewN | apply Bw.drew))).trans hk2); clear hk2)
          | fail)
        all_goals exact ⟨rfl, rfl, HK.out⟩
      | ok x c j =>
        go_enter Tryd.func54, Tryd.ntmps54
        go_wp2_with (first
          | (go_at_call 58; refine (is_any _ (HS.out.ri.bw (by repeat (first | exact Bw.refl _ | apply Bw.alloc | apply Bw.drewN | apply Bw.drew)))).mono ?_; rintro e w1 ⟨rfl, hb1⟩; have HS := hid (HS.out.bw (Bw.trans (by repeat (first | exact Bw.refl _ | apply Bw.alloc | apply Bw.drewN | apply Bw.drew)) hb1)); have zz := HS.out.ri.k.cell; have zf := HS.out.ri.k.free; have zl := HS.out.ri.k.lt; clear hb1)
          | (go_at_call 73; refine (spawned_any f HT.out _ _ _ (HS.out.ri.bw (by repeat (first | exact Bw.refl _ | apply Bw.alloc | apply Bw.drewN | apply Bw.drew))) ho HO2.out HNE.out).mono ?_; intro e w2 h2; rw [HQ.out] at h2; obtain ⟨b2, rfl, hp2, hr2, hk2⟩ := h2; have HS := hid ((HS.out.bw (by repeat (first | exact Bw.refl _ | apply Bw.alloc | apply Bw.drewN | apply Bw.drew))).add hr2 hk2 hp2); clear hp2 hr2 hk2)
          | fail)
        all_goals go_ret
        all_goals exact ⟨_, rfl, HS.out.outp (by simp)⟩
  · rw [ho1, if_pos rfl] at hne
    rw [if_pos rfl]
    have HO := hid ho1
    have HNE := hid hne
    clear hne
    generalize hq : (entr T ⟨#[45]⟩ i o fun j o => (pP T f (.lev 6) j o).bind fun x _ j => .ok (.mk 27 [] 0 (tk T i).2.2.2 [x]) false j) = R
    have HQ := hid hq
    clear hq
    cases R with
    | out => exact absurd HQ.out HNE.out
    | bad n m =>
      go_enter Tryd.func54, Tryd.ntmps54
      go_wp2_with (first
        | (go_at_call 58; refine (is_any _ (HS.out.ri.bw (by repeat (first | exact Bw.refl _ | apply Bw.alloc | apply Bw.drewN | apply Bw.drew)))).mono ?_; rintro e w1 ⟨rfl, hb1⟩; have HS := hid (HS.out.bw (Bw.trans (by repeat (first | exact Bw.refl _ | apply Bw.alloc | apply Bw.drewN | apply Bw.drew)) hb1)); have zz := HS.out.ri.k.cell; have zf := HS.out.ri.k.free; have zl := HS.out.ri.k.lt; clear hb1)
        | (go_at_call 72; refine (behind_n f 6 27 ⟨#[45]⟩ H6.out (HS.out.ri.bw (by repeat (first | exact Bw.refl _ | apply Bw.alloc | apply Bw.drewN | apply Bw.drew))) ho HO.out HNE.out).mono ?_; intro e w2 h2; rw [HQ.out] at h2; obtain ⟨rfl, hk2⟩ := h2; have HK := hid ((HS.out.kp.bw (by repeat (first | exact Bw.refl _ | apply Bw.alloc | apply Bw.drewN | apply Bw.drew))).trans hk2); clear hk2)
        | fail)
      all_goals exact ⟨rfl, rfl, HK.out⟩
    | ok x c j =>
      go_enter Tryd.func54, Tryd.ntmps54
      go_wp2_with (first
        | (go_at_call 58; refine (is_any _ (HS.out.ri.bw (by repeat (first | exact Bw.refl _ | apply Bw.alloc | apply Bw.drewN | apply Bw.drew)))).mono ?_; rintro e w1 ⟨rfl, hb1⟩; have HS := hid (HS.out.bw (Bw.trans (by repeat (first | exact Bw.refl _ | apply Bw.alloc | apply Bw.drewN | apply Bw.drew)) hb1)); have zz := HS.out.ri.k.cell; have zf := HS.out.ri.k.free; have zl := HS.out.ri.k.lt; clear hb1)
        | (go_at_call 72; refine (behind_n f 6 27 ⟨#[45]⟩ H6.out (HS.out.ri.bw (by repeat (first | exact Bw.refl _ | apply Bw.alloc | apply Bw.drewN | apply Bw.drew))) ho HO.out HNE.out).mono ?_; intro e w2 h2; rw [HQ.out] at h2; obtain ⟨b2, rfl, hp2, hr2, hk2⟩ := h2; have HS := hid ((HS.out.bw (by repeat (first | exact Bw.refl _ | apply Bw.alloc | apply Bw.drewN | apply Bw.drew))).add hr2 hk2 hp2); clear hp2 hr2 hk2)
        | fail)
      all_goals go_ret
      all_goals exact ⟨_, rfl, HS.out.outp (by simp)⟩

end

end Go.Proofs.YtlcieebneclmpaaDoor

