/- What stands behind a sign that is open: contracts. -/
import Derived.Test.YtlcieebneclmpaaDoorK4
import Derived.Test.YtlcieebneclmpaaDoorPtk
set_option linter.unusedSimpArgs false
set_option linter.unusedVariables false
namespace Go.Proofs.YtlcieebneclmpaaDoor
open Go Go.RowKit

section
variable {B w : World} {r g cap : Nat} {T : List ATok} {ex : Nat → Value} {i o : Nat}

set_option maxRecDepth 100000 in
set_option maxHeartbeats 8000000 in
theorem behind_n (f k : Nat) (kind : Int) (s : ByteArray) (hc : RdP B r g cap T ex f 54 #[.pointer (some ⟨r, 0, none⟩)] (.lev k)) (h : RI B w r g cap T ex i o) (ho : o ≤ 64) (hs : isT T i s = true)
    (hne : (entr T s i o fun j o => (pP T f (.lev k) j o).bind fun x _ j => .ok (.mk kind [] 0 (tk T i).2.2.2 [x]) false j) ≠ .out) :
    Calls Tryd.prog 72 #[.pointer (some ⟨r, 0, none⟩), .int .i64 kind, .string s, .func (.func 54) #[.pointer (some ⟨r, 0, none⟩)] #[]] w (Got B r g cap T ex o No w (entr T s i o fun j o => (pP T f (.lev k) j o).bind fun x _ j => .ok (.mk kind [] 0 (tk T i).2.2.2 [x]) false j)) := by
  have HS := hid (SI.begin h)
  have HC := hid hc
  have HI := hid hs
  unfold entr at hne ⊢
  rw [if_pos hs] at hne ⊢
  clear hc h hs
  by_cases h64 : o = 64
  · rw [if_pos h64]
    have H64 := hid h64
    clear hne h64
    go_enter Tryd.func72, Tryd.ntmps72
    go_wp2_with (first
      | (go_at_call 77; refine (enter_many _ (HS.out.ri.bw (by repeat (first | exact Bw.refl _ | apply Bw.alloc | apply Bw.drewN | apply Bw.drew))) HI.out H64.out).mono ?_; rintro e w1 ⟨rfl, hk1⟩; have HK := hid ((HS.out.kp.bw (by repeat (first | exact Bw.refl _ | apply Bw.alloc | apply Bw.drewN | apply Bw.drew))).trans hk1); clear hk1)
      | fail)
    all_goals exact ⟨rfl, rfl, HK.out⟩
  · rw [if_neg h64] at hne ⊢
    dsimp only at hne ⊢
    have hlt : o < 64 := by omega
    have H64 := hid hlt
    have HNE := hid (show pP T f (.lev k) (i + 1) (o + 1) ≠ .out from fun e => hne (by rw [e]; rfl))
    clear hne h64
    generalize hq : pP T f (.lev k) (i + 1) (o + 1) = R
    have HQ := hid hq
    clear hq
    cases R with
    | out => exact absurd HQ.out HNE.out
    | bad n a =>
      simp only [Res.bind]
      go_enter Tryd.func72, Tryd.ntmps72
      go_wp2_with (first
        | (go_at_call 77; refine (enter_yes _ (HS.out.ri.bw (by repeat (first | exact Bw.refl _ | apply Bw.alloc | apply Bw.drewN | apply Bw.drew))) HI.out H64.out).mono ?_; rintro e w1 ⟨rfl, hr1, hk1⟩; have HS := hid ((HS.out.bw (by repeat (first | exact Bw.refl _ | apply Bw.alloc | apply Bw.drewN | apply Bw.drew))).go hr1 hk1); clear hr1 hk1)
        | (go_at_call 54; refine (HC.out _ _ _ (HS.out.ri.bw (by repeat (first | exact Bw.refl _ | apply Bw.alloc | apply Bw.drewN | apply Bw.drew))) (Nat.succ_le_of_lt H64.out) HNE.out).mono ?_; intro e w2 h2; rw [HQ.out] at h2; obtain ⟨rfl, hk2⟩ := h2; have HK := hid ((HS.out.kp.bw (by repeat (first | exact Bw.refl _ | apply Bw.alloc | apply Bw.drewN | apply Bw.drew))).trans hk2); clear hk2)
        | fail)
      all_goals exact ⟨rfl, rfl, HK.out⟩
    | ok x c j =>
      simp only [Res.bind]
      go_enter Tryd.func72, Tryd.ntmps72
      go_wp2_with (first
        | (go_at_call 77; refine (enter_yes _ (HS.out.ri.bw (by repeat (first | exact Bw.refl _ | apply Bw.alloc | apply Bw.drewN | apply Bw.drew))) HI.out H64.out).mono ?_; rintro e w1 ⟨rfl, hr1, hk1⟩; have HS := hid ((HS.out.bw (by repeat (first | exact Bw.refl _ | apply Bw.alloc | apply Bw.drewN | apply Bw.drew))).go hr1 hk1); clear hr1 hk1)
        | (go_at_call 54; refine (HC.out _ _ _ (HS.out.ri.bw (by repeat (first | exact Bw.refl _ | apply Bw.alloc | apply Bw.drewN | apply Bw.drew))) (Nat.succ_le_of_lt H64.out) HNE.out).mono ?_; intro e w2 h2; rw [HQ.out] at h2; obtain ⟨b2, rfl, hp2, hr2, hk2⟩ := h2; have HS := hid ((HS.out.bw (by repeat (first | exact Bw.refl _ | apply Bw.alloc | apply Bw.drewN | apply Bw.drew))).add hr2 hk2 hp2); clear hp2 hr2 hk2)
        | (go_at_call 43; refine (made_any _ _ _ [x] [b2] _ _ (HS.out.row1 (x := x) (b := b2) (by simp)).1 (HS.out.row1 (x := x) (b := b2) (by simp)).2).mono ?_; rintro e w3 ⟨b3, rfl, hp3, hb3, _⟩; have HS := hid ((HS.out.bw (Bw.alloc (Bw.refl _) _)).put hb3 hp3); have zz := HS.out.ri.k.cell; have zf := HS.out.ri.k.free; have zl := HS.out.ri.k.lt; clear hp3 hb3)
        | fail)
      all_goals go_ret
      all_goals exact ⟨_, rfl, (HS.out.go (HS.out.ri.opn o (by omega)) ((Kp.refl r _).set 2 _)).outp (by simp)⟩

set_option maxRecDepth 100000 in
set_option maxHeartbeats 8000000 in
theorem behind_d (pa pb pc : Nat) (f k : Nat) (kind : Int) (s : ByteArray) (hc : RdP B r g cap T ex f 76 #[.pointer (some ⟨pa, 0, none⟩), .pointer (some ⟨pb, 0, none⟩), .pointer (some ⟨pc, 0, none⟩)] (.lev k)) (h : RI B w r g cap T ex i o) (ho : o ≤ 64) (hs : isT T i s = true)
    (hne : (entr T s i o fun j o => (pP T f (.lev k) j o).bind fun x _ j => .ok (.mk kind [] 0 (tk T i).2.2.2 [x]) false j) ≠ .out) :
    Calls Tryd.prog 72 #[.pointer (some ⟨r, 0, none⟩), .int .i64 kind, .string s, .func (.func 76) #[] #[.pointer (some ⟨pa, 0, none⟩), .pointer (some ⟨pb, 0, none⟩), .pointer (some ⟨pc, 0, none⟩)]] w (Got B r g cap T ex o No w (entr T s i o fun j o => (pP T f (.lev k) j o).bind fun x _ j => .ok (.mk kind [] 0 (tk T i).2.2.2 [x]) false j)) := by
  have HS := hid (SI.begin h)
  have HC := hid hc
  have HI := hid hs
  unfold entr at hne ⊢
  rw [if_pos hs] at hne ⊢
  clear hc h hs
  by_cases h64 : o = 64
  · rw [if_pos h64]
    have H64 := hid h64
    clear hne h64
    go_enter Tryd.func72, Tryd.ntmps72
    go_wp2_with (first
      | (go_at_call 77; refine (enter_many _ (HS.out.ri.bw (by repeat (first | exact Bw.refl _ | apply Bw.alloc | apply Bw.drewN | apply Bw.drew))) HI.out H64.out).mono ?_; rintro e w1 ⟨rfl, hk1⟩; have HK := hid ((HS.out.kp.bw (by repeat (first | exact Bw.refl _ | apply Bw.alloc | apply Bw.drewN | apply Bw.drew))).trans hk1); clear hk1)
      | fail)
    all_goals exact ⟨rfl, rfl, HK.out⟩
  · rw [if_neg h64] at hne ⊢
    dsimp only at hne ⊢
    have hlt : o < 64 := by omega
    have H64 := hid hlt
    have HNE := hid (show pP T f (.lev k) (i + 1) (o + 1) ≠ .out from fun e => hne (by rw [e]; rfl))
    clear hne h64
    generalize hq : pP T f (.lev k) (i + 1) (o + 1) = R
    have HQ := hid hq
    clear hq
    cases R with
    | out => exact absurd HQ.out HNE.out
    | bad n a =>
      simp only [Res.bind]
      go_enter Tryd.func72, Tryd.ntmps72
      go_wp2_with (first
        | (go_at_call 77; refine (enter_yes _ (HS.out.ri.bw (by repeat (first | exact Bw.refl _ | apply Bw.alloc | apply Bw.drewN | apply Bw.drew))) HI.out H64.out).mono ?_; rintro e w1 ⟨rfl, hr1, hk1⟩; have HS := hid ((HS.out.bw (by repeat (first | exact Bw.refl _ | apply Bw.alloc | apply Bw.drewN | apply Bw.drew))).go hr1 hk1); clear hr1 hk1)
        | (go_at_call 76; refine (HC.out _ _ _ (HS.out.ri.bw (by repeat (first | exact Bw.refl _ | apply Bw.alloc | apply Bw.drewN | apply Bw.drew))) (Nat.succ_le_of_lt H64.out) HNE.out).mono ?_; intro e w2 h2; rw [HQ.out] at h2; obtain ⟨rfl, hk2⟩ := h2; have HK := hid ((HS.out.kp.bw (by repeat (first | exact Bw.refl _ | apply Bw.alloc | apply Bw.drewN | apply Bw.drew))).trans hk2); clear hk2)
        | fail)
      all_goals exact ⟨rfl, rfl, HK.out⟩
    | ok x c j =>
      simp only [Res.bind]
      go_enter Tryd.func72, Tryd.ntmps72
      go_wp2_with (first
        | (go_at_call 77; refine (enter_yes _ (HS.out.ri.bw (by repeat (first | exact Bw.refl _ | apply Bw.alloc | apply Bw.drewN | apply Bw.drew))) HI.out H64.out).mono ?_; rintro e w1 ⟨rfl, hr1, hk1⟩; have HS := hid ((HS.out.bw (by repeat (first | exact Bw.refl _ | apply Bw.alloc | apply Bw.drewN | apply Bw.drew))).go hr1 hk1); clear hr1 hk1)
        | (go_at_call 76; refine (HC.out _ _ _ (HS.out.ri.bw (by repeat (first | exact Bw.refl _ | apply Bw.alloc | apply Bw.drewN | apply Bw.drew))) (Nat.succ_le_of_lt H64.out) HNE.out).mono ?_; intro e w2 h2; rw [HQ.out] at h2; obtain ⟨b2, rfl, hp2, hr2, hk2⟩ := h2; have HS := hid ((HS.out.bw (by repeat (first | exact Bw.refl _ | apply Bw.alloc | apply Bw.drewN | apply Bw.drew))).add hr2 hk2 hp2); clear hp2 hr2 hk2)
        | (go_at_call 43; refine (made_any _ _ _ [x] [b2] _ _ (HS.out.row1 (x := x) (b := b2) (by simp)).1 (HS.out.row1 (x := x) (b := b2) (by simp)).2).mono ?_; rintro e w3 ⟨b3, rfl, hp3, hb3, _⟩; have HS := hid ((HS.out.bw (Bw.alloc (Bw.refl _) _)).put hb3 hp3); have zz := HS.out.ri.k.cell; have zf := HS.out.ri.k.free; have zl := HS.out.ri.k.lt; clear hp3 hb3)
        | fail)
      all_goals go_ret
      all_goals exact ⟨_, rfl, (HS.out.go (HS.out.ri.opn o (by omega)) ((Kp.refl r _).set 2 _)).outp (by simp)⟩

end

end Go.Proofs.YtlcieebneclmpaaDoor

