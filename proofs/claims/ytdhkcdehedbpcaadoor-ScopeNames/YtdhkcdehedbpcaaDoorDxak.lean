/- The document's parser: expr, its first ways: contracts, by steps. -/
import Derived.Test.YtdhkcdehedbpcaaDoorM16
set_option linter.unusedSimpArgs false
set_option linter.unusedVariables false
namespace Go.Proofs.YtdhkcdehedbpcaaDoor
open Go Go.RowKit

section
attribute [local irreducible] dIs
variable {w w' : World} {r f : Nat} {T : List ATok} {o : Int} {s s' : DS} {l : List ANode} {k : Int}

set_option maxRecDepth 100000 in
set_option maxHeartbeats 8000000 in
theorem expr_bad (lev : Int) (he : ¬ s.e = 0) (hr : RdM w r T o s) : Calls Tryd.prog 49 #[.pointer (some ⟨r, 0, none⟩), .int .i64 lev] w (DG w r T o [] s) := by
 have HR := hid hr
 have hrl := hr.lt
 obtain ⟨g, c, q, x⟩ := hr.x
 have z3 : w.cell? ⟨r, 3, none⟩ = some (.int .i64 s.e) := x.b.cell 3
 have e1 : (s.e == 0) = false := by simpa using he
 have e2 : (s.e != 0) = true := by simpa using he
 unfold DG at *
 clear x hr he
 go_enter Tryd.func49, Tryd.ntmps49
 go_wp2
 all_goals go_ret
 all_goals exact ⟨none, 0, rfl, Nd.nil _ _, HR.out.bw bq, Kp.of_bw bq, by simp⟩

set_option maxRecDepth 100000 in
set_option maxHeartbeats 8000000 in
theorem expr_not (he : s.e = 0) (hi : dIs T s ⟨#[110, 111, 116]⟩ = true) (HV : ∀ w1 : World, RdM w1 r T o s → Calls Tryd.prog 70 #[.pointer (some ⟨r, 0, none⟩), .string ⟨#[110, 111, 116]⟩, .int .i64 26, .int .i64 2] w1 (DG w1 r T o l s')) (hr : RdM w r T o s) : Calls Tryd.prog 49 #[.pointer (some ⟨r, 0, none⟩), .int .i64 2] w (DG w r T o l s') := by
 have HR := hid hr
 have hrl := hr.lt
 have HV := hid HV
 have HI := hid (fun w1 (hw : RdM w1 r T o s) => dis_any ⟨#[110, 111, 116]⟩ hw)
 rw [hi] at HI
 clear hi
 obtain ⟨g, c, q, x⟩ := hr.x
 have z3 : w.cell? ⟨r, 3, none⟩ = some (.int .i64 s.e) := x.b.cell 3
 have e1 : (s.e == 0) = true := by simpa using he
 have e2 : (s.e != 0) = false := by simpa using he
 unfold DG at *
 clear x hr he
 go_enter Tryd.func49, Tryd.ntmps49
 go_wp2_with (first
  | (go_at_call 42; (fail_if_success (have _g := R1)); refine (HI.out _ (HR.out.bw bq)).mono ?_; rintro e w1 ⟨rfl, hb1⟩; have B1 := hid (show Bw w w1 from Bw.trans bq hb1); have R1 := hid (HR.out.bw B1.out); clear hb1)
  | (go_at_call 70; refine (HV.out _ (R1.out.bw bq)).mono ?_; rintro e w2 ⟨a2, c2, rfl, hn2, hr2, hk2, hl2⟩; have K2 := hid (show Kp r w w2 from Kp.trans (Kp.of_bw (Bw.trans B1.out bq)) hk2); have N2 := hid (hn2.low (b' := w.heap.size) (Nat.le_trans B1.out.size (by first | (simp; done) | exact Nat.le_refl _))); have R2 := hid hr2; have L2 := hid hl2; clear hn2 hr2 hk2 hl2)
  | fail)
 all_goals go_ret
 all_goals exact ⟨_, _, rfl, N2.out, R2.out, K2.out, L2.out⟩

set_option maxRecDepth 100000 in
set_option maxHeartbeats 8000000 in
theorem expr_neg (he : s.e = 0) (hi : dIs T s ⟨#[45]⟩ = true) (HV : ∀ w1 : World, RdM w1 r T o s → Calls Tryd.prog 70 #[.pointer (some ⟨r, 0, none⟩), .string ⟨#[45]⟩, .int .i64 27, .int .i64 6] w1 (DG w1 r T o l s')) (hr : RdM w r T o s) : Calls Tryd.prog 49 #[.pointer (some ⟨r, 0, none⟩), .int .i64 6] w (DG w r T o l s') := by
 have HR := hid hr
 have hrl := hr.lt
 have HV := hid HV
 have HI := hid (fun w1 (hw : RdM w1 r T o s) => dis_any ⟨#[45]⟩ hw)
 rw [hi] at HI
 clear hi
 obtain ⟨g, c, q, x⟩ := hr.x
 have z3 : w.cell? ⟨r, 3, none⟩ = some (.int .i64 s.e) := x.b.cell 3
 have e1 : (s.e == 0) = true := by simpa using he
 have e2 : (s.e != 0) = false := by simpa using he
 unfold DG at *
 clear x hr he
 go_enter Tryd.func49, Tryd.ntmps49
 go_wp2_with (first
  | (go_at_call 42; (fail_if_success (have _g := R1)); refine (HI.out _ (HR.out.bw bq)).mono ?_; rintro e w1 ⟨rfl, hb1⟩; have B1 := hid (show Bw w w1 from Bw.trans bq hb1); have R1 := hid (HR.out.bw B1.out); clear hb1)
  | (go_at_call 70; refine (HV.out _ (R1.out.bw bq)).mono ?_; rintro e w2 ⟨a2, c2, rfl, hn2, hr2, hk2, hl2⟩; have K2 := hid (show Kp r w w2 from Kp.trans (Kp.of_bw (Bw.trans B1.out bq)) hk2); have N2 := hid (hn2.low (b' := w.heap.size) (Nat.le_trans B1.out.size (by first | (simp; done) | exact Nat.le_refl _))); have R2 := hid hr2; have L2 := hid hl2; clear hn2 hr2 hk2 hl2)
  | fail)
 all_goals go_ret
 all_goals exact ⟨_, _, rfl, N2.out, R2.out, K2.out, L2.out⟩

set_option maxRecDepth 100000 in
set_option maxHeartbeats 8000000 in
theorem expr_thing (he : s.e = 0) (hi : dIs T s ⟨#[45]⟩ = false) (HV : ∀ w1 : World, RdM w1 r T o s → Calls Tryd.prog 71 #[.pointer (some ⟨r, 0, none⟩)] w1 (DG w1 r T o l s')) (hr : RdM w r T o s) : Calls Tryd.prog 49 #[.pointer (some ⟨r, 0, none⟩), .int .i64 6] w (DG w r T o l s') := by
 have HR := hid hr
 have hrl := hr.lt
 have HV := hid HV
 have HI := hid (fun w1 (hw : RdM w1 r T o s) => dis_any ⟨#[45]⟩ hw)
 rw [hi] at HI
 clear hi
 obtain ⟨g, c, q, x⟩ := hr.x
 have z3 : w.cell? ⟨r, 3, none⟩ = some (.int .i64 s.e) := x.b.cell 3
 have e1 : (s.e == 0) = true := by simpa using he
 have e2 : (s.e != 0) = false := by simpa using he
 unfold DG at *
 clear x hr he
 go_enter Tryd.func49, Tryd.ntmps49
 go_wp2_with (first
  | (go_at_call 42; (fail_if_success (have _g := R1)); refine (HI.out _ (HR.out.bw bq)).mono ?_; rintro e w1 ⟨rfl, hb1⟩; have B1 := hid (show Bw w w1 from Bw.trans bq hb1); have R1 := hid (HR.out.bw B1.out); clear hb1)
  | (go_at_call 71; refine (HV.out _ (R1.out.bw bq)).mono ?_; rintro e w2 ⟨a2, c2, rfl, hn2, hr2, hk2, hl2⟩; have K2 := hid (show Kp r w w2 from Kp.trans (Kp.of_bw (Bw.trans B1.out bq)) hk2); have N2 := hid (hn2.low (b' := w.heap.size) (Nat.le_trans B1.out.size (by first | (simp; done) | exact Nat.le_refl _))); have R2 := hid hr2; have L2 := hid hl2; clear hn2 hr2 hk2 hl2)
  | fail)
 all_goals go_ret
 all_goals exact ⟨_, _, rfl, N2.out, R2.out, K2.out, L2.out⟩

end

end Go.Proofs.YtdhkcdehedbpcaaDoor

