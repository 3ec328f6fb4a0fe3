/- Whether two words are alike: the program's alike of two objects with parts. -/
import Derived.Test.YtlhgdknmgdohkaaGreatDoorK10
set_option linter.unusedSimpArgs false
set_option linter.unusedVariables false
namespace Go.Proofs.YtlhgdknmgdohkaaGreatDoor
open Go Go.RowKit

/-- The world with a pair laid, and draws. -/
theorem CI.pair {w : World} {b0 : Nat} {H : AHeap} {bs : List Nat} {cb mb : Nat} {Ms : List (Int × Int)} {fl : Bool} (h : CI w b0 H bs cb mb Ms fl) (x y : Int) : CI (w.alloc (.cells #[.int .u64 x, .int .u64 y] 117)).drew b0 H bs cb mb Ms fl := h.bw (Bw.drew (Bw.alloc (Bw.refl _) _))

set_option maxRecDepth 100000 in
set_option maxHeartbeats 8000000 in
theorem alike_met {b0 : Nat} {H : AHeap} {bs : List Nat} {cb mb : Nat} {Ms : List (Int × Int)} (a b : Int) (ha : U a) (hb : U b) (w : World) (h : CI w b0 H bs cb mb Ms false)
    (h1 : eqW H a b = false) (h2 : (kk H a != kk H b) = false) (h3 : (kk H a == 2 || kk H a == 3 || kk H a == 4) = true) (h4 : (a, b) ∈ Ms) :
    Calls Tryz.prog 31 #[.pointer (some ⟨cb, 0, none⟩), .int .u64 a, .int .u64 b] w fun e w' => e = .returned (.bool true) ∧ CI w' b0 H bs cb mb Ms false ∧ Fr [mb, cb] w w' := by
  have HI := hid h
  have HA := hid ha
  have HB := hid hb
  have HEQ := hid (equal_any a b ha hb w h.hs)
  rw [h1] at HEQ
  have H4 := hid (decide_eq_true h4)
  have z0 : w.cell? ⟨cb, 0, none⟩ = some (.pointer (some ⟨b0, 0, none⟩)) := h.k.cell 0
  clear h ha hb h1 h4
  go_enter Tryz.func31, Tryz.ntmps31
  go_wp2_with (first
    | (go_at_call 12; refine HEQ.out.mono ?_; rintro e w1 ⟨rfl, hb1⟩; have hi1 := HI.out.bw hb1; have y0 : w1.cell? ⟨cb, 0, none⟩ = some (.pointer (some ⟨b0, 0, none⟩)) := hi1.k.cell 0; have y1 : w1.cell? ⟨cb, 1, none⟩ = some (.map (some mb)) := hi1.k.cell 1; have yl : cb < w1.heap.size := hi1.k.lt; obtain ⟨c, hlk⟩ := (hi1.pair a b).mp.look a b HA.out HB.out; rw [H4.out] at hlk; have HI1 := hid hi1; have F1 := hid (hb1.fr [mb, cb]); clear hb1 hi1)
    | (go_at_call_of 33 (Value.int .u64 a); refine (kind_hs4 _ HA.out _ HI1.out.hs).mono ?_; rintro e w' ⟨rfl, hw'⟩; subst w')
    | (go_at_call_of 33 (Value.int .u64 b); refine (kind_hs4 _ HB.out _ HI1.out.hs).mono ?_; rintro e w' ⟨rfl, hw'⟩; subst w')
    | (go_at_call 55; refine (hasParts_any _ _).mono ?_; rintro e w' ⟨rfl, hw'⟩; subst w'; rw [h3])
    | fail)
  go_region
  all_goals go_wp2
  all_goals go_ret
  all_goals exact ⟨rfl, HI1.out.bw (by repeat (first | exact Bw.refl _ | apply Bw.alloc | apply Bw.drewN | apply Bw.drew)), frc F1.out (Bw.fr (by repeat (first | exact Bw.refl _ | apply Bw.alloc | apply Bw.drewN | apply Bw.drew)) _)⟩

set_option maxRecDepth 100000 in
set_option maxHeartbeats 8000000 in
theorem alike_new {b0 : Nat} {H : AHeap} {bs : List Nat} {cb mb : Nat} {Ms : List (Int × Int)} (a b : Int) (ha : U a) (hb : U b) (w : World) (h : CI w b0 H bs cb mb Ms false)
    (h1 : eqW H a b = false) (h2 : (kk H a != kk H b) = false) (h4 : (a, b) ∉ Ms) (h5 : Ms.length < 65536) (r : DR)
    (hk : (kk H a = 2 ∧ ∀ w2, CI w2 b0 H bs cb mb (Ms ++ [(a, b)]) false → Calls Tryz.prog 56 #[.pointer (some ⟨cb, 0, none⟩), .int .u64 a, .int .u64 b] w2 fun e w' => e = .returned (.bool r.1) ∧ CI w' b0 H bs cb mb r.2.1 r.2.2 ∧ Fr [mb, cb] w2 w') ∨
      (kk H a = 3 ∧ ∀ w2, CI w2 b0 H bs cb mb (Ms ++ [(a, b)]) false → Calls Tryz.prog 57 #[.pointer (some ⟨cb, 0, none⟩), .int .u64 a, .int .u64 b] w2 fun e w' => e = .returned (.bool r.1) ∧ CI w' b0 H bs cb mb r.2.1 r.2.2 ∧ Fr [mb, cb] w2 w') ∨
      (kk H a = 4 ∧ ∀ w2, CI w2 b0 H bs cb mb (Ms ++ [(a, b)]) false → Calls Tryz.prog 58 #[.pointer (some ⟨cb, 0, none⟩), .int .u64 a, .int .u64 b, .int .i64 0] w2 fun e w' => e = .returned (.bool r.1) ∧ CI w' b0 H bs cb mb r.2.1 r.2.2 ∧ Fr [mb, cb] w2 w')) :
    Calls Tryz.prog 31 #[.pointer (some ⟨cb, 0, none⟩), .int .u64 a, .int .u64 b] w fun e w' => e = .returned (.bool r.1) ∧ CI w' b0 H bs cb mb r.2.1 r.2.2 ∧ Fr [mb, cb] w w' := by
  have HI := hid h
  have HA := hid ha
  have HB := hid hb
  have HEQ := hid (equal_any a b ha hb w h.hs)
  rw [h1] at HEQ
  have H4 := hid (decide_eq_false h4)
  have HN4 := hid h4
  have H5 := hid h5
  have h3 : (kk H a == 2 || kk H a == 3 || kk H a == 4) = true := by rcases hk with ⟨e, _⟩ | ⟨e, _⟩ | ⟨e, _⟩ <;> rw [e] <;> rfl
  have hge : decide ((65536 : Int) ≤ (Ms.length : Int)) = false := decide_eq_false (by omega)
  have z0 : w.cell? ⟨cb, 0, none⟩ = some (.pointer (some ⟨b0, 0, none⟩)) := h.k.cell 0
  clear h ha hb h1 h4 h5
  rcases hk with ⟨e2, hk⟩ | ⟨e2, hk⟩ | ⟨e2, hk⟩
  all_goals
    have HK := hid hk
    have t2 := congrArg (fun z => z == (2 : Int)) e2
    have t3 := congrArg (fun z => z == (3 : Int)) e2
    simp only [beq_self_eq_true, show ((3 : Int) == 2) = false from rfl, show ((4 : Int) == 2) = false from rfl, show ((2 : Int) == 3) = false from rfl, show ((4 : Int) == 3) = false from rfl] at t2 t3
    clear hk e2
    go_enter Tryz.func31, Tryz.ntmps31
    go_wp2_with (first
      | (go_at_call 12; refine HEQ.out.mono ?_; rintro e w1 ⟨rfl, hb1⟩; have hi1 := HI.out.bw hb1; have y0 : w1.cell? ⟨cb, 0, none⟩ = some (.pointer (some ⟨b0, 0, none⟩)) := hi1.k.cell 0; have y1 : w1.cell? ⟨cb, 1, none⟩ = some (.map (some mb)) := hi1.k.cell 1; have yl : cb < w1.heap.size := hi1.k.lt; obtain ⟨c, hlk⟩ := (hi1.pair a b).mp.look a b HA.out HB.out; rw [H4.out] at hlk; have HI1 := hid hi1; have F1 := hid (hb1.fr [mb, cb]); clear hb1 hi1)
      | (go_at_call_of 33 (Value.int .u64 a); refine (kind_hs4 _ HA.out _ HI1.out.hs).mono ?_; rintro e w' ⟨rfl, hw'⟩; subst w')
      | (go_at_call_of 33 (Value.int .u64 b); refine (kind_hs4 _ HB.out _ HI1.out.hs).mono ?_; rintro e w' ⟨rfl, hw'⟩; subst w')
      | (go_at_call 55; refine (hasParts_any _ _).mono ?_; rintro e w' ⟨rfl, hw'⟩; subst w'; rw [h3])
      | fail)
    go_region
    obtain ⟨D, ho, hr⟩ := (HI1.out.pair a b).mp.own
    have hsz := hr.size
    have HO := hid ho
    obtain ⟨w2, hup, hmp2, htu⟩ := ((HI1.out.pair a b).bw (Bw.drew (Bw.refl _))).mp.store a b (Ms.length : Int) HA.out HB.out (WalkArith.wf_i64 (by have := H5.out; omega)) (by have := H5.out; omega) HN4.out
    have HT2 := hid (((HI1.out.pair a b).bw (Bw.drew (Bw.refl _))).turned htu hmp2)
    clear ho hr hmp2 htu
    go_wp2_with (first
      | (at_len; refine wpList_len_own _ rfl _ 75 rfl 117 3 underMm _ mb Ms.length D rfl HO.out ?_; rw [hsz])
      | fail)
    go_region_law (first
      | (refine step_len_own (by rfl) (.tmp 67) 75 (by rfl) 117 3 underMm _ mb Ms.length D (by rfl) (by first | exact HO.out | exact HO.out.drew) ?_; rw [hsz])
      | fail)
    all_goals go_wp2_with (first
      | (go_at_call 56; refine (HK.out _ HT2.out.1).mono ?_; rintro e w3 ⟨rfl, hi3, hf3⟩; have HI3 := hid hi3; have F3 := hid hf3; clear hi3 hf3)
      | (go_at_call 57; refine (HK.out _ HT2.out.1).mono ?_; rintro e w3 ⟨rfl, hi3, hf3⟩; have HI3 := hid hi3; have F3 := hid hf3; clear hi3 hf3)
      | (go_at_call 58; refine (HK.out _ HT2.out.1).mono ?_; rintro e w3 ⟨rfl, hi3, hf3⟩; have HI3 := hid hi3; have F3 := hid hf3; clear hi3 hf3)
      | fail)
    all_goals go_ret
    all_goals exact ⟨rfl, HI3.out, frc (frc (frc F1.out (Bw.fr (Bw.drew (Bw.drew (Bw.alloc (Bw.refl _) _))) _)) HT2.out.2) F3.out⟩

set_option maxRecDepth 100000 in
set_option maxHeartbeats 8000000 in
theorem alike_many {b0 : Nat} {H : AHeap} {bs : List Nat} {cb mb : Nat} {Ms : List (Int × Int)} (a b : Int) (ha : U a) (hb : U b) (w : World) (h : CI w b0 H bs cb mb Ms false)
    (h1 : eqW H a b = false) (h2 : (kk H a != kk H b) = false) (h3 : (kk H a == 2 || kk H a == 3 || kk H a == 4) = true) (h4 : (a, b) ∉ Ms) (h5 : 65536 ≤ Ms.length) :
    Calls Tryz.prog 31 #[.pointer (some ⟨cb, 0, none⟩), .int .u64 a, .int .u64 b] w fun e w' => e = .returned (.bool false) ∧ CI w' b0 H bs cb mb Ms true ∧ Fr [mb, cb] w w' := by
  have HI := hid h
  have HA := hid ha
  have HB := hid hb
  have HEQ := hid (equal_any a b ha hb w h.hs)
  rw [h1] at HEQ
  have H4 := hid (decide_eq_false h4)
  have hge : decide ((65536 : Int) ≤ (Ms.length : Int)) = true := decide_eq_true (by omega)
  have z0 : w.cell? ⟨cb, 0, none⟩ = some (.pointer (some ⟨b0, 0, none⟩)) := h.k.cell 0
  clear h ha hb h1 h4 h5
  go_enter Tryz.func31, Tryz.ntmps31
  go_wp2_with (first
    | (go_at_call 12; refine HEQ.out.mono ?_; rintro e w1 ⟨rfl, hb1⟩; have hi1 := HI.out.bw hb1; have y0 : w1.cell? ⟨cb, 0, none⟩ = some (.pointer (some ⟨b0, 0, none⟩)) := hi1.k.cell 0; have y1 : w1.cell? ⟨cb, 1, none⟩ = some (.map (some mb)) := hi1.k.cell 1; have y2 : w1.cell? ⟨cb, 2, none⟩ = some (.bool false) := hi1.k.cell 2; have yf := hi1.k.free 2; have yl : cb < w1.heap.size := hi1.k.lt; obtain ⟨c, hlk⟩ := (hi1.pair a b).mp.look a b HA.out HB.out; rw [H4.out] at hlk; have HI1 := hid hi1; have F1 := hid (hb1.fr [mb, cb]); clear hb1 hi1)
    | (go_at_call_of 33 (Value.int .u64 a); refine (kind_hs4 _ HA.out _ HI1.out.hs).mono ?_; rintro e w' ⟨rfl, hw'⟩; subst w')
    | (go_at_call_of 33 (Value.int .u64 b); refine (kind_hs4 _ HB.out _ HI1.out.hs).mono ?_; rintro e w' ⟨rfl, hw'⟩; subst w')
    | (go_at_call 55; refine (hasParts_any _ _).mono ?_; rintro e w' ⟨rfl, hw'⟩; subst w'; rw [h3])
    | fail)
  go_region
  obtain ⟨D, ho, hr⟩ := (HI1.out.pair a b).mp.own
  have hsz := hr.size
  have HO := hid ho
  clear ho hr
  go_wp2_with (first
    | (at_len; refine wpList_len_own _ rfl _ 75 rfl 117 3 underMm _ mb Ms.length D rfl HO.out ?_; rw [hsz])
    | fail)
  all_goals go_ret
  have hfl := HI1.out.flag true
  have e1 : Bw (w1.setCell ⟨cb, 2, none⟩ (.bool true)) ((w1.setCell ⟨cb, 2, none⟩ (.bool true)).alloc (.cells #[.int .u64 a, .int .u64 b] 117)).drew := Bw.drew (Bw.alloc (Bw.refl _) _)
  exact ⟨rfl, hfl.1.bw e1, frc (frc F1.out hfl.2) (e1.fr _)⟩

end Go.Proofs.YtlhgdknmgdohkaaGreatDoor

