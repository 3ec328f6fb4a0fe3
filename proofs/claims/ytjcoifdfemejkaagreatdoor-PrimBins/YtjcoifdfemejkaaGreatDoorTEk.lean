/- Whether two words are the same: the document's Equal. -/
import Derived.Test.YtjcoifdfemejkaaGreatDoorM12
import Derived.Test.YtjcoifdfemejkaaGreatDoorM8
set_option linter.unusedSimpArgs false
set_option linter.unusedVariables false
namespace Go.Proofs.YtjcoifdfemejkaaGreatDoor
open Go Go.RowKit

theorem Blk.newAt {w : World} {cur : Array Value} {e : TypeId} {g : Nat} (hg : w.heap.size = g) : Blk (w.alloc (.cells cur e)) g cur e := by
  rw [← hg]
  exact Blk.new w cur e
theorem Blk.layAt {w : World} {cur : Array Value} {e : TypeId} {g : Nat} (h : Blk w g cur e) (os : List Obj) (n : Nat) : Blk (Proofs.YtjcoifdfemejkaaGreatDoor.lay w os n) g cur e := h.bw (bw_lay w os n)
theorem Blk.drw {w : World} {cur : Array Value} {e : TypeId} {g : Nat} (h : Blk w g cur e) : Blk w.drew g cur e := h

/-- Numbers' bits stand in complex numbers alone. -/
def Bare (H : AHeap) : Prop := ∀ o ∈ H.2, o.kind ≠ 6 → o.re = 0 ∧ o.im = 0

theorem ob_mem {H : AHeap} {v : Int} (hU : U v) (hk : kk H v ≠ 0) : ob H v ∈ H.2 ∧ (ob H v).kind = kk H v ∧ ∃ k : Nat, idxV v = k ∧ H.2[k]? = some (ob H v) := by
  have hr := kk_ref hk
  obtain ⟨hg, _⟩ := ob_get (H := H) hU hr.2.1
  have h0 := idx_bd v hU
  exact ⟨List.mem_of_getElem? hg, hr.2.2.symm, (idxV v).toNat, by omega, hg⟩

/-- What the document compares. -/
def eqR (x y : AObj) : Bool := decide (x.bytes = y.bytes) && (decide (x.re = y.re) && decide (x.im = y.im))

theorem eqR_eqW {H : AHeap} (hok : HOK H) (hb : Bare H) {a b : Int} (ha : U a) (hb2 : U b) (hab : ¬ a = b) (hk : kk H a = kk H b) (h16 : kk H a = 1 ∨ kk H a = 6) : eqR (ob H a) (ob H b) = eqW H a b := by
  obtain ⟨ma, ka, _⟩ := ob_mem (H := H) ha (by omega)
  obtain ⟨mb, kb, _⟩ := ob_mem (H := H) hb2 (by omega)
  unfold eqR eqW
  rw [decide_eq_false hab, decide_eq_true hk]
  rcases h16 with h | h
  · have r1 := hb _ ma (by omega)
    have r2 := hb _ mb (by omega)
    rw [decide_eq_true h, decide_eq_false (show ¬ kk H a = 6 by omega), r1.1, r1.2, r2.1, r2.2]
    simp
  · have b1 := (hok _ ma).2.1 (by omega)
    have b2 := (hok _ mb).2.1 (by omega)
    rw [decide_eq_true h, decide_eq_false (show ¬ kk H a = 1 by omega), b1, b2]
    simp

set_option maxRecDepth 100000 in
set_option maxHeartbeats 16000000 in
theorem requal_obj (G : Nat → Prop) (k0 : Int) (ah : Option Addr) (ch : Nat) (H : AHeap) (a b : Int) (ha : U a) (hb : U b) (w : World) (h : RdH w G (.agg #[.int .i64 k0, .slice ah H.2.length ch]) H) (hok : HOK H) (hm : H.2.length ≤ 1000000)
    (hab : ¬ a = b) (hk : kk H a = kk H b) (h16 : kk H a = 1 ∨ kk H a = 6) :
    Calls Tryz.prog 34 #[.agg #[.int .i64 k0, .slice ah H.2.length ch], .int .u64 a, .int .u64 b] w fun e w' => e = .returned (.bool (eqR (ob H a) (ob H b))) ∧ Bw w w' := by
  obtain ⟨ma, ka, ia, hia, hga⟩ := ob_mem (H := H) ha (by omega)
  obtain ⟨mb, kb, ib, hib, hgb⟩ := ob_mem (H := H) hb (by omega)
  have HA := hid ha
  have HB := hid hb
  have HR := hid h
  have HM := hid hm
  have hab1 : (a == b) = false := by rw [beq_eq_false_iff_ne]; exact hab
  have hk1 : (kk H a != kk H b) = false := by rw [bne_eq_false_iff_eq]; exact hk
  have BA := hid (hok _ ma).2.2.2.2.1
  have BB := hid (hok _ mb).2.2.2.2.1
  have LA := hid (hok _ ma).2.2.2.2.2.1
  have LB := hid (hok _ mb).2.2.2.2.2.1
  have HIA := hid hia
  have HGA := hid hga
  have HIB := hid hib
  have HGB := hid hgb
  have hcs : (decide (kk H a = 1) = true ∧ (kk H a != 1) = false) ∨ ((kk H a != 1) = true ∧ (kk H a != 6) = false) := by
    rcases h16 with h | h
    · exact .inl ⟨decide_eq_true h, by rw [h]; rfl⟩
    · exact .inr ⟨by rw [h]; rfl, by rw [h]; rfl⟩
  generalize ob H a = x at ma ka BA LA HGA
  generalize ob H b = y at mb kb BB LB HGB
  clear ha hb h hm hab hk h16 hia hga hib hgb ma ka mb kb hok
  rcases hcs with ⟨_, t1⟩ | ⟨t1, t6⟩
  all_goals
    go_enter Tryz.func34, Tryz.ntmps34
    go_wp2_with (first
      | (go_at_call_of 39 (Value.int .u64 a); refine (rkindH_any G _ H _ HA.out _ (HR.out.below (by repeat (first | exact Bw.refl _ | apply Bw.lay | apply Bw.alloc | apply Bw.drewN | apply Bw.drew))) (by have := HM.out; omega)).mono ?_; rintro e w1 ⟨rfl, os1, m1, rfl⟩)
      | (go_at_call_of 39 (Value.int .u64 b); refine (rkindH_any G _ H _ HB.out _ (HR.out.below (by repeat (first | exact Bw.refl _ | apply Bw.lay | apply Bw.alloc | apply Bw.drewN | apply Bw.drew))) (by have := HM.out; omega)).mono ?_; rintro e w2 ⟨rfl, os2, m2, rfl⟩)
      | fail)
    go_cut [8, 9] (fun s8 s9 wc => ∃ g8 g9 a3 c3 a4 c4 v3 v4 k3 k4, s8 = .pointer (some ⟨g8, 0, none⟩) ∧ s9 = .pointer (some ⟨g9, 0, none⟩) ∧ Blk wc g8 #[.int .i64 x.kind, .slice a3 x.bytes.length c3, v3, k3, .int .i64 x.num, .int .u64 x.re, .int .u64 x.im] 50 ∧ Blk wc g9 #[.int .i64 y.kind, .slice a4 y.bytes.length c4, v4, k4, .int .i64 y.num, .int .u64 y.re, .int .u64 y.im] 50 ∧ Sl w G (.slice a3 x.bytes.length c3) x.bytes.length 1 (x.bytes.map (Value.int .u8)) ∧ Sl w G (.slice a4 y.bytes.length c4) y.bytes.length 1 (y.bytes.map (Value.int .u8)) ∧ Bw w wc)
    case first =>
      go_region_held3 (fun w' => w'.cell? ⟨w.heap.size, 0, none⟩ = some (.int .i64 k0) ∧ w'.cell? ⟨w.heap.size, 1, none⟩ = some (.slice ah H.2.length ch)) (first | (simp [go_sem, *]; done)) (first
        | (go_at_call_of 40 (Value.int .u64 a); refine (rof_any G _ H _ HA.out _ HIA.out _ HGA.out w _ (by repeat (first | exact Bw.refl _ | apply Bw.lay | apply Bw.alloc | apply Bw.drewN | apply Bw.drew)) HR.out (by have := HM.out; omega)).mono ?_; rintro e w3 ⟨vb3, vv3, vk3, he3, hol3, os3, m3, hw3⟩; obtain ⟨ab3, cb3, eb3⟩ := hol3.1.form; obtain ⟨av3, cv3, ev3⟩ := hol3.2.1.form; obtain ⟨ak3, ck3, ek3⟩ := hol3.2.2.form; subst eb3 ev3 ek3; simp only [objV] at he3; subst he3 hw3; have OL3 := hid hol3; clear hol3)
        | (go_at_call_of 40 (Value.int .u64 b); refine (rof_any G _ H _ HB.out _ HIB.out _ HGB.out w _ (by repeat (first | exact Bw.refl _ | apply Bw.lay | apply Bw.alloc | apply Bw.drewN | apply Bw.drew)) HR.out (by have := HM.out; omega)).mono ?_; rintro e w4 ⟨vb4, vv4, vk4, he4, hol4, os4, m4, hw4⟩; obtain ⟨ab4, cb4, eb4⟩ := hol4.1.form; obtain ⟨av4, cv4, ev4⟩ := hol4.2.1.form; obtain ⟨ak4, ck4, ek4⟩ := hol4.2.2.form; subst eb4 ev4 ek4; simp only [objV] at he4; subst he4 hw4; have OL4 := hid hol4; clear hol4)
        | fail)
      all_goals go_wp2
      all_goals go_meet
      all_goals exact ⟨_, _, _, _, _, _, _, _, _, _, rfl, rfl, by repeat (first | exact Blk.newAt (by simp) | apply Blk.alloc | apply Blk.layAt | apply Blk.drw), by repeat (first | exact Blk.newAt (by simp) | apply Blk.alloc | apply Blk.layAt | apply Blk.drw), OL3.out.1, OL4.out.1, by repeat (first | exact Bw.refl _ | apply Bw.lay | apply Bw.alloc | apply Bw.drewN | apply Bw.drew)⟩
    case rest =>
      obtain ⟨g8, g9, a3, c3, a4, c4, v3, v4, k3, k4, rfl, rfl, h8, h9, hs3, hs4, hbw⟩ := hcut
      have z1 : wc.cell? ⟨g8, 1, none⟩ = some (.slice a3 x.bytes.length c3) := h8.cell 1
      have z5 : wc.cell? ⟨g8, 5, none⟩ = some (.int .u64 x.re) := h8.cell 5
      have z6 : wc.cell? ⟨g8, 6, none⟩ = some (.int .u64 x.im) := h8.cell 6
      have y1 : wc.cell? ⟨g9, 1, none⟩ = some (.slice a4 y.bytes.length c4) := h9.cell 1
      have y5 : wc.cell? ⟨g9, 5, none⟩ = some (.int .u64 y.re) := h9.cell 5
      have y6 : wc.cell? ⟨g9, 6, none⟩ = some (.int .u64 y.im) := h9.cell 6
      have q3 : (convert 46 9 (.slice a3 x.bytes.length c3)).run Tryz.prog wc = .ok (.string (strOfNums x.bytes)) wc := By.conv0 ⟨(hs3.any).below hbw, BA.out, by have := LA.out; omega⟩
      have q4 : (convert 46 9 (.slice a4 y.bytes.length c4)).run Tryz.prog wc = .ok (.string (strOfNums y.bytes)) wc := By.conv0 ⟨(hs4.any).below hbw, BB.out, by have := LB.out; omega⟩
      have HBW := hid hbw
      clear h8 h9 hs3 hs4 hbw
      by_cases e1 : x.bytes = y.bytes
      · have HE1 : Hid (eqR x y = (decide (x.re = y.re) && decide (x.im = y.im))) := by show eqR x y = _; unfold eqR; rw [decide_eq_true e1, Bool.true_and]
        rw [← e1] at q4 y1
        generalize strOfNums x.bytes = s at q3 q4
        generalize x.bytes.length = n at z1 y1 q3 q4
        by_cases e2 : x.re = y.re
        · have t2 : (x.re == y.re) = true := by simpa using e2
          by_cases e3 : x.im = y.im
          · have t3 : (x.im == y.im) = true := by simpa using e3
            have HE : Hid (eqR x y = true) := by show eqR x y = true; rw [HE1.out, decide_eq_true e2, decide_eq_true e3]; rfl
            clear e1 e2 e3 HE1
            go_wp2
            all_goals go_ret
            all_goals exact ⟨ret_bool HE.out.symm, HBW.out⟩
          · have t3 : (x.im == y.im) = false := by simpa using e3
            have HE : Hid (eqR x y = false) := by show eqR x y = false; rw [HE1.out, decide_eq_true e2, decide_eq_false e3]; rfl
            clear e1 e2 e3 HE1
            go_wp2
            all_goals go_ret
            all_goals exact ⟨ret_bool HE.out.symm, HBW.out⟩
        · have t2 : (x.re == y.re) = false := by simpa using e2
          have HE : Hid (eqR x y = false) := by show eqR x y = false; rw [HE1.out, decide_eq_false e2]; rfl
          clear e1 e2 HE1
          go_wp2
          all_goals go_ret
          all_goals exact ⟨ret_bool HE.out.symm, HBW.out⟩
      · have hne := str_ne (fun k => e1 (nums_inj BA.out BB.out k))
        have HE : Hid (eqR x y = false) := by show eqR x y = false; unfold eqR; rw [decide_eq_false e1]; rfl
        clear e1
        go_wp2
        all_goals go_ret
        all_goals exact ⟨ret_bool HE.out.symm, HBW.out⟩

set_option maxRecDepth 100000 in
set_option maxHeartbeats 16000000 in
theorem requal_no (G : Nat → Prop) (k0 : Int) (ah : Option Addr) (ch : Nat) (H : AHeap) (a b : Int) (ha : U a) (hb : U b) (w : World) (h : RdH w G (.agg #[.int .i64 k0, .slice ah H.2.length ch]) H) (hm : H.2.length ≤ 1000000)
    (hab : ¬ a = b) (hk : ¬ (kk H a = kk H b ∧ (kk H a = 1 ∨ kk H a = 6))) :
    Calls Tryz.prog 34 #[.agg #[.int .i64 k0, .slice ah H.2.length ch], .int .u64 a, .int .u64 b] w fun e w' => e = .returned (.bool false) ∧ Bw w w' := by
  have HA := hid ha
  have HB := hid hb
  have HR := hid h
  have HM := hid hm
  have hab1 : (a == b) = false := by rw [beq_eq_false_iff_ne]; exact hab
  have hcs : ((kk H a != kk H b) = true) ∨ ((kk H a != kk H b) = false ∧ (kk H a != 1) = true ∧ (kk H a != 6) = true) := by
    by_cases e : kk H a = kk H b
    · exact .inr ⟨by rw [bne_eq_false_iff_eq]; exact e, by rw [bne_iff_ne]; exact fun k => hk ⟨e, .inl k⟩, by rw [bne_iff_ne]; exact fun k => hk ⟨e, .inr k⟩⟩
    · exact .inl (by rw [bne_iff_ne]; exact e)
  clear ha hb h hm hab hk
  rcases hcs with t1 | ⟨t1, t2, t3⟩
  all_goals
    go_enter Tryz.func34, Tryz.ntmps34
    go_wp2_with (first
      | (go_at_call_of 39 (Value.int .u64 a); refine (rkindH_any G _ H _ HA.out _ (HR.out.below (by repeat (first | exact Bw.refl _ | apply Bw.lay | apply Bw.alloc | apply Bw.drewN | apply Bw.drew))) (by have := HM.out; omega)).mono ?_; rintro e w1 ⟨rfl, os1, m1, rfl⟩)
      | (go_at_call_of 39 (Value.int .u64 b); refine (rkindH_any G _ H _ HB.out _ (HR.out.below (by repeat (first | exact Bw.refl _ | apply Bw.lay | apply Bw.alloc | apply Bw.drewN | apply Bw.drew))) (by have := HM.out; omega)).mono ?_; rintro e w2 ⟨rfl, os2, m2, rfl⟩)
      | fail)
    all_goals go_ret
    all_goals exact ⟨rfl, by repeat (first | exact Bw.refl _ | apply Bw.lay | apply Bw.alloc | apply Bw.drewN | apply Bw.drew)⟩

set_option maxHeartbeats 4000000 in
theorem requal_self (hv : Value) (k0 : Int) (ah : Option Addr) (n ch : Nat) (a : Int) (w : World) :
    Calls Tryz.prog 34 #[.agg #[.int .i64 k0, .slice ah n ch], .int .u64 a, .int .u64 a] w fun e w' => e = .returned (.bool true) ∧ Bw w w' := by
  go_enter Tryz.func34, Tryz.ntmps34
  go_wp2
  all_goals go_ret
  all_goals exact ⟨rfl, by repeat (first | exact Bw.refl _ | apply Bw.lay | apply Bw.alloc | apply Bw.drewN | apply Bw.drew)⟩

/-- The document's Equal says what the program's says. -/
theorem requal_any (G : Nat → Prop) (k0 : Int) (ah : Option Addr) (ch : Nat) (H : AHeap) (a b : Int) (ha : U a) (hb : U b) (w : World) (h : RdH w G (.agg #[.int .i64 k0, .slice ah H.2.length ch]) H) (hok : HOK H) (hbr : Bare H) (hm : H.2.length ≤ 1000000) :
    Calls Tryz.prog 34 #[.agg #[.int .i64 k0, .slice ah H.2.length ch], .int .u64 a, .int .u64 b] w fun e w' => e = .returned (.bool (eqW H a b)) ∧ Bw w w' := by
  by_cases hab : a = b
  · subst hab
    have : eqW H a a = true := by unfold eqW; simp
    rw [this]
    exact requal_self (.bool true) k0 ah _ ch a w
  · by_cases hk : kk H a = kk H b ∧ (kk H a = 1 ∨ kk H a = 6)
    · rw [← eqR_eqW hok hbr ha hb hab hk.1 hk.2]
      exact requal_obj G k0 ah ch H a b ha hb w h hok hm hab hk.1 hk.2
    · have : eqW H a b = false := by
        unfold eqW
        rw [decide_eq_false hab]
        by_cases e : kk H a = kk H b
        · rw [decide_eq_true e, decide_eq_false (fun k => hk ⟨e, .inl k⟩), decide_eq_false (fun k => hk ⟨e, .inr k⟩)]; rfl
        · rw [decide_eq_false e]; rfl
      rw [this]
      exact requal_no G k0 ah ch H a b ha hb w h hm hab hk

end Go.Proofs.YtjcoifdfemejkaaGreatDoor

