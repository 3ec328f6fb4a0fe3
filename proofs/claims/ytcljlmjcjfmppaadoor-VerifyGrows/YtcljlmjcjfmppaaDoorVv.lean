/- live. -/
import Derived.Test.YtcljlmjcjfmppaaDoorVu
set_option linter.unusedSimpArgs false
set_option linter.unusedVariables false
namespace Go.Proofs.YtcljlmjcjfmppaaDoor
open Go Go.RowKit
section
variable {w w' : World}

set_option maxRecDepth 100000 in
set_option maxHeartbeats 4000000 in
theorem live_any (ho : Og w) : Calls Tryd.prog 5 #[] w fun e w' => e = .returned (.bool true) ∧ Bw w w' := by
  have HO := hid ho
  clear ho
  go_enter Tryd.func5, Tryd.ntmps5
  go_wp2_with (first
    | (go_at_call 8; (fail_if_success (have _q := HL1)); refine (one_any' _ _ _).mono ?_; rintro e w1 ⟨g1, rfl, hb1, hk1⟩; have HL1 := hid (RL.bw (lv1_row w) hb1); have HK1 := hid hk1; have HB1 := hid (Bw.trans (show Bw w _ from (by repeat (first | exact Bw.refl _ | apply Bw.alloc | apply Bw.drewN | apply Bw.drew))) hb1); clear hb1 hk1)
    | (go_at_call 9; refine (hts_lv (HO.out.bw HB1.out) HL1.out HK1.out).mono ?_; rintro e w2 ⟨hb2, b, o, c, rfl, hlt, hc0, hc1⟩; have HB2 := hid (HB1.out.trans hb2); have HC2 := hid (And.intro hlt (And.intro hc0 hc1)); clear hb2 hlt hc0 hc1)
    | (go_at_call 8; (have _q := HB2; clear _q); refine (one_any' _ _ _).mono ?_; rintro e w3 ⟨g3, rfl, hb3, hk3⟩; have HL3 := hid (RL.bw (lv2_row w2) hb3); have HK3 := hid hk3; have HB3 := hid (Bw.trans (show Bw w2 _ from (by repeat (first | exact Bw.refl _ | apply Bw.alloc | apply Bw.drewN | apply Bw.drew))) hb3); clear hb3 hk3)
    | (go_at_call 6; refine (chk_lv (HO.out.bw (HB2.out.trans HB3.out)) HL3.out HK3.out).mono ?_; rintro e w4 ⟨hb4, rfl⟩; have HB4 := hid (HB3.out.trans hb4); have q0 := (World.cell?_of_block (w := w2) (w' := w4) (a := ⟨b, o, none⟩) (HB4.out.block b HC2.out.1)).trans HC2.out.2.1; have q1 := (World.cell?_of_block (w := w2) (w' := w4) (a := ⟨b, o + 1, none⟩) (HB4.out.block b HC2.out.1)).trans HC2.out.2.2; clear hb4)
    | (go_at_call 7; refine (num_any _ _).mono ?_; rintro e w5 ⟨rfl, hw5⟩; subst w5)
    | fail)
  all_goals go_ret
  all_goals exact ⟨rfl, HB2.out.trans HB4.out⟩

end

end Go.Proofs.YtcljlmjcjfmppaaDoor
