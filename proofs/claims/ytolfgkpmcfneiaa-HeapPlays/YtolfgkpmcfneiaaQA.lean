/- All that can be asked of a word: the contract of the statements' own 'asks'. -/
import Derived.Test.YtolfgkpmcfneiaaQWa
import Derived.Test.YtolfgkpmcfneiaaQWb
import Derived.Deep.RegionHeld3
set_option linter.unusedSimpArgs false
set_option linter.unusedVariables false
namespace Go.Proofs.Ytolfgkpmcfneiaa
open Go Go.RowKit

theorem whole_any (G : Nat → Prop) (rv : Value) {b0 : Nat} {H : AHeap} {bs : List Nat} (v : Int) (hU : U v) (w : World) (hS : HS w b0 H bs) (h : RdH w G rv H) (hN : NeatH H) (hm : H.2.length ≤ 1000000) :
    Calls Try.prog 45 #[.pointer (some ⟨b0, 0, none⟩), rv, .int .u64 v, .int .i64 (kk H v)] w fun e w' => e = .returned (.bool true) ∧ Bw w w' := by
  by_cases h0 : kk H v = 0
  · rw [h0]; exact whole_none G rv v hU w hS h hN hm h0
  · have hr := kk_ref h0
    have hn := hN _ (List.mem_of_getElem? (ob_get hU hr.2.1).1)
    have h9 : kk H v = 1 ∨ kk H v = 2 ∨ kk H v = 3 ∨ kk H v = 4 ∨ kk H v = 5 ∨ kk H v = 6 ∨ kk H v = 7 ∨ kk H v = 8 ∨ kk H v = 9 := by
      have h1 := hn.2.2.1
      have h2 := hn.2.2.2
      have h3 := hr.2.2
      omega
    rcases h9 with e | e | e | e | e | e | e | e | e
    · rw [e]; exact whole_str G rv v hU w hS h hN hm e
    · rw [e]; exact whole_arr G rv v hU w hS h hN hm e
    · rw [e]; exact whole_rec G rv v hU w hS h hN hm e
    · rw [e]; exact whole_cell G rv v hU w hS h hN hm e
    · rw [e]; exact whole_fun G rv v hU w hS h hN hm e
    · rw [e]; exact whole_cplx G rv v hU w hS h hN hm e
    · rw [e]; exact whole_mon G rv v hU w hS h hN hm e
    · rw [e]; exact whole_box G rv v hU w hS h hN hm e
    · rw [e]; exact whole_thr G rv v hU w hS h hN hm e

set_option maxRecDepth 100000 in
set_option maxHeartbeats 16000000 in
theorem asks_any (G G' : Nat → Prop) (rv : Value) {b0 : Nat} {H : AHeap} {bs : List Nat} (a : AAct) (x : Value × Value × Value) (w : World) (hS : HS w b0 H bs) (h : RdH w G rv H) (ha : AOK w G' a x) (hN : NeatH H) (hm : H.2.length ≤ 1000000) :
    Calls Try.prog 44 #[.pointer (some ⟨b0, 0, none⟩), rv, actV a x] w fun e w' => e = .returned (.bool true) ∧ Bw w w' := by
  have HSS := hid hS
  have HR := hid h
  have HN := hid hN
  have HOK := hid hS.ok
  have HU := hid ha.v
  obtain ⟨va, t, rfl, ht, hs, ho⟩ := h
  obtain ⟨ah, ch, rfl⟩ := hs.form
  obtain ⟨vb, vl, vk⟩ := x
  obtain ⟨p1, c1, e1⟩ := ha.b.form
  obtain ⟨p2, c2, e2⟩ := ha.l.form
  obtain ⟨p3, c3, e3⟩ := ha.k.form
  simp only at e1 e2 e3
  subst e1 e2 e3
  clear hS hN ha ht hs ho
  go_enter Try.func44, Try.ntmps44
  go_wp2_with (first
    | (go_at_call 61; refine (rkindH_any G _ H _ HU.out _ (RdH.below HR.out (Ly.bw (by repeat (first | exact Ly.refl _ | apply Ly.lay | apply Ly.alloc | apply Ly.drewN | apply Ly.drew)))) (by omega)).mono ?_; rintro e w' ⟨rfl, os, m, rfl⟩))
  go_region_held3 (fun w' => w'.cell? ⟨w.heap.size + 1, 1, none⟩ = some (.int .u64 a.V) ∧ w'.cell? ⟨w.heap.size, 0, none⟩ = some (.int .i64 H.1) ∧ w'.cell? ⟨w.heap.size, 1, none⟩ = some (.slice ah H.2.length ch)) (simp [go_sem])
    (first
      | (go_at_call 30; refine (kind_hs _ HU.out _ (HSS.out.bw (Ly.bw (by repeat (first | exact Ly.refl _ | apply Ly.lay | apply Ly.alloc | apply Ly.drewN | apply Ly.drew))))).mono ?_; rintro e wq ⟨rfl, hwq⟩; subst wq)
      | (go_at_call 31; refine (good_hs _ HU.out _ (HSS.out.bw (Ly.bw (by repeat (first | exact Ly.refl _ | apply Ly.lay | apply Ly.alloc | apply Ly.drewN | apply Ly.drew))))).mono ?_; rintro e wq ⟨rfl, hwq⟩; subst wq)
      | (go_at_call 63; refine (rgood_any G _ H _ HU.out _ (RdH.below HR.out (Ly.bw (by repeat (first | exact Ly.refl _ | apply Ly.lay | apply Ly.alloc | apply Ly.drewN | apply Ly.drew)))) (by omega)).mono ?_; rintro e w' ⟨rfl, os1, m1, rfl⟩)
      | (go_at_call 29; refine (count_hs _ (HSS.out.bw (Ly.bw (by repeat (first | exact Ly.refl _ | apply Ly.lay | apply Ly.alloc | apply Ly.drewN | apply Ly.drew))))).mono ?_; rintro e wq ⟨rfl, hwq⟩; subst wq)
      | fail)
  go_wp2_with (first
    | (go_at_call 18; refine (at_any _ _ HU.out _ (HSS.out.bw (Ly.bw (by repeat (first | exact Ly.refl _ | apply Ly.lay | apply Ly.alloc | apply Ly.drewN | apply Ly.drew))))).mono ?_; rintro e w' ⟨rfl, os2, m2, rfl⟩)
    | (go_at_call 66; refine (rat_any G _ H _ _ HU.out _ (RdH.below HR.out (Ly.bw (by repeat (first | exact Ly.refl _ | apply Ly.lay | apply Ly.alloc | apply Ly.drewN | apply Ly.drew)))) HOK.out hm).mono ?_; rintro e w' ⟨rfl, os3, m3, rfl⟩)
    | (go_at_call 20; refine (field_any _ _ HU.out _ (HSS.out.bw (Ly.bw (by repeat (first | exact Ly.refl _ | apply Ly.lay | apply Ly.alloc | apply Ly.drewN | apply Ly.drew))))).mono ?_; rintro e w' ⟨rfl, os4, m4, rfl⟩)
    | (go_at_call 67; refine (rfield_any G _ H _ _ HU.out _ (RdH.below HR.out (Ly.bw (by repeat (first | exact Ly.refl _ | apply Ly.lay | apply Ly.alloc | apply Ly.drewN | apply Ly.drew)))) HOK.out hm).mono ?_; rintro e w' ⟨rfl, os5, m5, rfl⟩)
    | (go_at_call 45; refine (whole_any G _ _ HU.out _ (HSS.out.bw (Ly.bw (by repeat (first | exact Ly.refl _ | apply Ly.lay | apply Ly.alloc | apply Ly.drewN | apply Ly.drew)))) (RdH.below HR.out (Ly.bw (by repeat (first | exact Ly.refl _ | apply Ly.lay | apply Ly.alloc | apply Ly.drewN | apply Ly.drew)))) HN.out hm).mono ?_; rintro e w6 ⟨rfl, hb6⟩; have HB6 := hid (Bw.trans (show Bw w _ from Ly.bw (by repeat (first | exact Ly.refl _ | apply Ly.lay | apply Ly.alloc | apply Ly.drewN | apply Ly.drew))) hb6); clear hb6)
    | (go_at_call 13; refine (num_any _ _).mono ?_; rintro e wq ⟨rfl, hwq⟩; subst wq))
  all_goals go_ret
  all_goals exact ⟨rfl, HB6.out⟩

end Go.Proofs.Ytolfgkpmcfneiaa
