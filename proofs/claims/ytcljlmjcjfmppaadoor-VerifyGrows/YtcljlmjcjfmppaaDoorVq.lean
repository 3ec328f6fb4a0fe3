/- firstPlaces, keysAreRight, imageFault where there are no texts and no keys: contracts. -/
import Derived.Test.YtcljlmjcjfmppaaDoorVp
import Derived.Maps.OwnSet
set_option linter.unusedSimpArgs false
set_option linter.unusedVariables false
namespace Go.Proofs.YtcljlmjcjfmppaaDoor
open Go Go.RowKit

theorem bw_none {w w' : World} (h : w.grownBy w' none) : Bw w w' := ⟨h.os, h.tape, h.output, h.size, fun k hk => h.block k hk (by simp)⟩

section
variable {w w' : World}

set_option maxRecDepth 100000 in
set_option maxHeartbeats 1000000 in
theorem first_none (az : Option Addr) (ks : Nat) : Calls Tryd.prog 25 #[.slice az 0 ks] w fun e w' => (∃ a n c, e = .returned (.slice a n c)) ∧ Bw w w' := by
  obtain ⟨i1, hi1, hz1, hs1, hy1⟩ := info_parts2 infoI64
  have I1 := hid (And.intro hi1 (And.intro hz1 (And.intro hs1 hy1)))
  clear hi1 hz1 hs1 hy1
  have hmm := @run_makeMap Tryd.prog
  go_enter Tryd.func25, Tryd.ntmps25
  go_wp2_with (first
    | (at_make; refine wpList_make_full _ rfl _ _ 33 rfl 0 3 i1 (.int .i64 0) 1 undIs I1.out.1 I1.out.2.1 I1.out.2.2.1 _ _ _ _ 0 rfl rfl rfl rfl (by rw [I1.out.2.2.2]; omega) (by unfold maxLen; omega) (Nat.zero_le _) ?_; intro w1 hown hgr; have HB := hid (show Bw w w1 from Bw.trans (by repeat (first | exact Bw.refl _ | apply Bw.alloc | apply Bw.drewN | apply Bw.drew)) (bw_none hgr)); clear hown hgr)
    | fail)
  go_loopw [15] (fun j wr => j = .int .i64 0 ∧ Bw w wr) (fun j _ => (intOf j).toNat)
  case atStart => exact ⟨rfl, HB.out⟩
  case round =>
    obtain ⟨rfl, hbw⟩ := hrel
    have HB2 := hid hbw
    clear hbw
    go_wp2
    all_goals go_ret
    all_goals exact ⟨⟨_, _, _, rfl⟩, HB2.out.trans (by repeat (first | exact Bw.refl _ | apply Bw.alloc | apply Bw.drewN | apply Bw.drew))⟩

set_option maxRecDepth 100000 in
set_option maxHeartbeats 1000000 in
theorem keys_none (af az ak : Option Addr) (nf kf ks kk : Nat) (gl : Int) : Calls Tryd.prog 15 #[.agg #[.slice af nf kf, .slice az 0 ks, .slice ak 0 kk, .int .i64 gl]] w fun e w' => e = .returned (.bool true) ∧ Bw w w' := by
  obtain ⟨i1, hi1, hz1, hs1, hy1⟩ := info_parts2 infoI64
  have I1 := hid (And.intro hi1 (And.intro hz1 (And.intro hs1 hy1)))
  have HP := hid (Blk.new w #[.slice af nf kf, .slice az 0 ks, .slice ak 0 kk, .int .i64 gl] 26)
  clear hi1 hz1 hs1 hy1
  go_enter Tryd.func15, Tryd.ntmps15
  go_wp2_with (first
    | (go_at_call 25; refine (first_none az ks).mono ?_; rintro e w1 ⟨⟨fa, fn, fc, rfl⟩, hb1⟩; have HB := hid (show Bw w w1 from Bw.trans (by repeat (first | exact Bw.refl _ | apply Bw.alloc | apply Bw.drewN | apply Bw.drew)) hb1); have HP1 := hid (HP.out.bw hb1); have u := HP1.out.cell; have ul := HP1.out.lt; clear hb1)
    | (at_make; refine wpList_make_full _ rfl _ _ 33 rfl 0 3 i1 (.int .i64 0) 1 undIs I1.out.1 I1.out.2.1 I1.out.2.2.1 _ _ _ _ 0 rfl rfl rfl rfl (by rw [I1.out.2.2.2]; omega) (by unfold maxLen; omega) (Nat.zero_le _) ?_; intro w2 hown hgr; have HB2 := hid (show Bw w w2 from HB.out.trans (Bw.trans (by repeat (first | exact Bw.refl _ | apply Bw.alloc | apply Bw.drewN | apply Bw.drew)) (bw_none hgr))); have u2 := (HP1.out.bw (Bw.trans (by repeat (first | exact Bw.refl _ | apply Bw.alloc | apply Bw.drewN | apply Bw.drew)) (bw_none hgr))).cell; have ul2 := (HP1.out.bw (Bw.trans (by repeat (first | exact Bw.refl _ | apply Bw.alloc | apply Bw.drewN | apply Bw.drew)) (bw_none hgr))).lt; clear hown hgr)
    | fail)
  go_loopw [19] (fun j wr => j = .int .i64 0 ∧ Bw w wr) (fun j _ => (intOf j).toNat)
  case atStart => exact ⟨rfl, HB2.out⟩
  case round =>
    obtain ⟨rfl, hbw⟩ := hrel
    have HB3 := hid hbw
    clear hbw
    go_wp2
    all_goals go_ret
    all_goals exact ⟨rfl, HB3.out.trans (by repeat (first | exact Bw.refl _ | apply Bw.alloc | apply Bw.drewN | apply Bw.drew))⟩

/-- What imageFault answers where there are no texts and no keys. -/
def imF0 (nf : Nat) (gl : Int) : Int := if nf < 1 ∨ 1024 < nf ∨ gl < 0 ∨ 1024 < gl then 3 else 0

set_option maxRecDepth 100000 in
set_option maxHeartbeats 1000000 in
theorem image_none (af az ak : Option Addr) (nf kf ks kk : Nat) (gl : Int) : Calls Tryd.prog 10 #[.agg #[.slice af nf kf, .slice az 0 ks, .slice ak 0 kk, .int .i64 gl]] w fun e w' => e = .returned (.int .i64 (imF0 nf gl)) ∧ Bw w w' := by
  by_cases h1 : nf < 1
  · have b1 : decide ((nf : Int) < 1) = true := decide_eq_true (by omega)
    have HR := hid (show imF0 nf gl = 3 by unfold imF0; rw [if_pos (by omega)])
    clear h1
    go_enter Tryd.func10, Tryd.ntmps10
    go_wp2
    all_goals go_ret
    all_goals exact ⟨by rw [HR.out]; rfl, (by repeat (first | exact Bw.refl _ | apply Bw.alloc | apply Bw.drewN | apply Bw.drew))⟩
  have b1 : decide ((nf : Int) < 1) = false := decide_eq_false (by omega)
  by_cases h2 : 1024 < nf
  · have b2 : decide (1024 < (nf : Int)) = true := decide_eq_true (by omega)
    have HR := hid (show imF0 nf gl = 3 by unfold imF0; rw [if_pos (by omega)])
    clear h1 h2
    go_enter Tryd.func10, Tryd.ntmps10
    go_wp2
    all_goals go_ret
    all_goals exact ⟨by rw [HR.out]; rfl, (by repeat (first | exact Bw.refl _ | apply Bw.alloc | apply Bw.drewN | apply Bw.drew))⟩
  have b2 : decide (1024 < (nf : Int)) = false := decide_eq_false (by omega)
  by_cases h3 : gl < 0
  · have b3 : decide (gl < 0) = true := decide_eq_true h3
    have HR := hid (show imF0 nf gl = 3 by unfold imF0; rw [if_pos (by omega)])
    clear h1 h2 h3
    go_enter Tryd.func10, Tryd.ntmps10
    go_wp2
    all_goals go_ret
    all_goals exact ⟨by rw [HR.out]; rfl, (by repeat (first | exact Bw.refl _ | apply Bw.alloc | apply Bw.drewN | apply Bw.drew))⟩
  have b3 : decide (gl < 0) = false := decide_eq_false h3
  by_cases h4 : 1024 < gl
  · have b4 : decide (1024 < gl) = true := decide_eq_true h4
    have HR := hid (show imF0 nf gl = 3 by unfold imF0; rw [if_pos (by omega)])
    clear h1 h2 h3 h4
    go_enter Tryd.func10, Tryd.ntmps10
    go_wp2
    all_goals go_ret
    all_goals exact ⟨by rw [HR.out]; rfl, (by repeat (first | exact Bw.refl _ | apply Bw.alloc | apply Bw.drewN | apply Bw.drew))⟩
  have b4 : decide (1024 < gl) = false := decide_eq_false h4
  have HR := hid (show imF0 nf gl = 0 by unfold imF0; rw [if_neg (by omega)])
  clear h1 h2 h3 h4
  go_enter Tryd.func10, Tryd.ntmps10
  go_wp2_with (first
    | (go_at_call 15; refine (keys_none _ _ _ _ _ _ _ _).mono ?_; rintro e w1 ⟨rfl, hb1⟩; have HB := hid (show Bw w w1 from Bw.trans (by repeat (first | exact Bw.refl _ | apply Bw.alloc | apply Bw.drewN | apply Bw.drew)) hb1); clear hb1)
    | fail)
  all_goals go_ret
  all_goals exact ⟨by rw [HR.out]; rfl, HB.out⟩

end

end Go.Proofs.YtcljlmjcjfmppaaDoor
