/- For every image and instruction: its name, whether it is safe, what it takes and puts are the document's (P10.1): the statement CodeTables returns true, and its arguments read as before. -/
import Derived.Test.YtmhjfkhcpfihfaaDoorTe
set_option linter.unusedVariables false
set_option linter.unusedSimpArgs false
namespace Go.Proofs.YtmhjfkhcpfihfaaDoor.codeTables
open Go.ChangeShapes Go.WideShapes Go.ChangeAt Go.RowKit

set_option maxRecDepth 100000 in
set_option maxHeartbeats 1000000 in
theorem walk (vf0 vs0 vk0 : Value) (m0 : AIm) (p1 : Int × Int × Int) (w1 : I64 p1.1 ∧ I64 p1.2.1 ∧ I64 p1.2.2) (w : World) (hs : Og w) (w0 : RIm w (fun _ => True) vf0 vs0 vk0 m0) :
    Calls Tryd.prog 3 #[imV vf0 vs0 vk0 m0, .agg #[.int .i64 p1.1, .int .i64 p1.2.1, .int .i64 p1.2.2]] w fun e w' => e = .returned (.bool true) ∧ Bw w w' := by
  obtain ⟨op, av, bv⟩ := p1
  simp only at w1 ⊢
  obtain ⟨vq1, vq2, ⟨mk, ekk, hyk⟩, vq4⟩ := id w0
  obtain ⟨ia3, ic3, ie3⟩ := hyk.form
  obtain ⟨in1, ia1, ic1, ie1⟩ := w0.f1
  obtain ⟨in2, ia2, ic2, ie2⟩ := w0.f2
  subst ie1 ie2 ie3
  unfold imV
  have HM := hid w0
  have HKK := hid hyk
  have HAV := hid w1.2.1
  have HO := hid hs
  have HP := hid (show Blk ((w.alloc (.cells #[.slice ia1 in1 ic1, .slice ia2 in2 ic2, .slice ia3 mk.length ic3, .int .i64 m0.globals] 26)).alloc (.cells #[.int .i64 op, .int .i64 av, .int .i64 bv] 28)) w.heap.size #[.slice ia1 in1 ic1, .slice ia2 in2 ic2, .slice ia3 mk.length ic3, .int .i64 m0.globals] 26 from (Blk.new w #[.slice ia1 in1 ic1, .slice ia2 in2 ic2, .slice ia3 mk.length ic3, .int .i64 m0.globals] 26).alloc _)
  have HPN := hid (show Blk ((w.alloc (.cells #[.slice ia1 in1 ic1, .slice ia2 in2 ic2, .slice ia3 mk.length ic3, .int .i64 m0.globals] 26)).alloc (.cells #[.int .i64 op, .int .i64 av, .int .i64 bv] 28)) (w.heap.size + 1) #[.int .i64 op, .int .i64 av, .int .i64 bv] 28 from by have := Blk.new (w.alloc (.cells #[.slice ia1 in1 ic1, .slice ia2 in2 ic2, .slice ia3 mk.length ic3, .int .i64 m0.globals] 26)) #[.int .i64 op, .int .i64 av, .int .i64 bv] 28; simpa only [World.size_alloc] using this)
  have HW0 := hid (show Bw w ((w.alloc (.cells #[.slice ia1 in1 ic1, .slice ia2 in2 ic2, .slice ia3 mk.length ic3, .int .i64 m0.globals] 26)).alloc (.cells #[.int .i64 op, .int .i64 av, .int .i64 bv] 28)) from Bw.alloc (Bw.alloc (Bw.refl w) _) _)
  have HB := hid (Bw.refl ((w.alloc (.cells #[.slice ia1 in1 ic1, .slice ia2 in2 ic2, .slice ia3 mk.length ic3, .int .i64 m0.globals] 26)).alloc (.cells #[.int .i64 op, .int .i64 av, .int .i64 bv] 28)))
  have HKL := hid (show SmallI m0 → ∀ m ∈ mk, m.1.length ≤ 1000000 from fun h m hm => Nat.le_trans (h.2.2.2.2.1 m.1 (by rw [← ekk]; exact List.mem_map.2 ⟨m, hm, rfl⟩)) (by decide))
  obtain ⟨⟨f1, f2, f3⟩, hef⟩ : ∃ x, effM (mk.map (·.1)) op av = x := ⟨_, rfl⟩
  have HEF := hid hef
  have z1 : (f1 == f1) = true := by simp
  have z2 : (f2 == f2) = true := by simp
  have z3 : (f3 == f3) = true := by simp
  obtain ⟨sf, hsf⟩ : ∃ x, safeM op = x := ⟨_, rfl⟩
  have HSF := hid hsf
  have z4 : (sf == sf) = true := by simp
  clear vq1 vq2 vq4 hyk w0 hs w1 hef hsf ekk
  cases hq : isOp op
  · have HNM := hid (show strOfNums (nameM op) = ⟨#[]⟩ by unfold nameM; rw [hq]; rfl)
    have hni : op < 0 ∨ 33 ≤ op := by unfold isOp at hq; rw [decide_eq_false_iff_not] at hq; omega
    clear hq
    by_cases h0 : op < 0
    · have h0b : decide (0 ≤ op) = false := decide_eq_false (by omega)
      clear hni
      go_enter Tryd.func3, Tryd.ntmps3
      go_wp2_with (first
        | (go_at_call 9; refine (big_any _ _ _ m0 (fun _ => True) (HM.out.bw (HW0.out.trans (HB.out.trans (by repeat (first | exact Bw.refl _ | apply Bw.alloc | apply Bw.drewN | apply Bw.drew)))))).mono ?_; rintro e wq ⟨q, rfl, hq9, hb1⟩; have hbq1 := (show ∀ {p : World}, Bw ((w.alloc (.cells #[.slice ia1 in1 ic1, .slice ia2 in2 ic2, .slice ia3 mk.length ic3, .int .i64 m0.globals] 26)).alloc (.cells #[.int .i64 op, .int .i64 av, .int .i64 bv] 28)) p → Bw p wq → Bw p wq from fun _ k => k) HB.out (Bw.trans (by repeat (first | exact Bw.refl _ | apply Bw.alloc | apply Bw.drewN | apply Bw.drew)) hb1); replace HB := hid (HB.out.trans hbq1); have u1 := (HP.out.bw HB.out).cell; have ul1 := (HP.out.bw HB.out).lt; have v1 := (HPN.out.bw HB.out).cell; have vl1 := (HPN.out.bw HB.out).lt; clear hb1 hbq1; have HQ := hid hq9; clear hq9; cases q)
        | (go_at_call 10; refine (live_any (HO.out.bw (HW0.out.trans (HB.out.trans (by repeat (first | exact Bw.refl _ | apply Bw.alloc | apply Bw.drewN | apply Bw.drew)))))).mono ?_; rintro e wq ⟨rfl, hb1⟩; have hbq2 := (show ∀ {p : World}, Bw ((w.alloc (.cells #[.slice ia1 in1 ic1, .slice ia2 in2 ic2, .slice ia3 mk.length ic3, .int .i64 m0.globals] 26)).alloc (.cells #[.int .i64 op, .int .i64 av, .int .i64 bv] 28)) p → Bw p wq → Bw p wq from fun _ k => k) HB.out (Bw.trans (by repeat (first | exact Bw.refl _ | apply Bw.alloc | apply Bw.drewN | apply Bw.drew)) hb1); replace HB := hid (HB.out.trans hbq2); have u2 := (HP.out.bw HB.out).cell; have ul2 := (HP.out.bw HB.out).lt; have v2 := (HPN.out.bw HB.out).cell; have vl2 := (HPN.out.bw HB.out).lt; clear hb1 hbq2)
        | (go_at_call 11; refine (rTable_any _).mono ?_; rintro e wq ⟨rfl, hw1⟩; have hb1 := (show ∀ {p q : World}, Bw p q → wq = q.alloc (.cells tabA 34) → Bw q wq from fun _ h => h ▸ Bw.alloc (Bw.refl _) _) HB.out hw1; have ht1 := (show ∀ {p : World}, wq = p.alloc (.cells tabA 34) → Blk wq p.heap.size tabA 34 from fun h => h ▸ Blk.new _ _ _) hw1; have tl := ht1.lt; have hbq5 := (show ∀ {p : World}, Bw ((w.alloc (.cells #[.slice ia1 in1 ic1, .slice ia2 in2 ic2, .slice ia3 mk.length ic3, .int .i64 m0.globals] 26)).alloc (.cells #[.int .i64 op, .int .i64 av, .int .i64 bv] 28)) p → Bw p wq → Bw p wq from fun _ k => k) HB.out (Bw.trans (by repeat (first | exact Bw.refl _ | apply Bw.alloc | apply Bw.drewN | apply Bw.drew)) hb1); replace HB := hid (HB.out.trans hbq5); have u5 := (HP.out.bw HB.out).cell; have ul5 := (HP.out.bw HB.out).lt; have v5 := (HPN.out.bw HB.out).cell; have vl5 := (HPN.out.bw HB.out).lt; clear hb1 hbq5; clear hw1 ht1)
        | (go_at_call 12; refine (effect_any in1 in2 ic1 ic2 ic3 ia1 ia2 ia3 m0.globals op av bv mk (fun _ => True) (HO.out.bw (HW0.out.trans HB.out)) (RKs.bw HKK.out (HW0.out.trans HB.out)) HAV.out (HKL.out (HQ.out (by simp)))).mono ?_; rw [HEF.out]; rintro e wq ⟨rfl, hb1⟩; have hbq3 := (show ∀ {p : World}, Bw ((w.alloc (.cells #[.slice ia1 in1 ic1, .slice ia2 in2 ic2, .slice ia3 mk.length ic3, .int .i64 m0.globals] 26)).alloc (.cells #[.int .i64 op, .int .i64 av, .int .i64 bv] 28)) p → Bw p wq → Bw p wq from fun _ k => k) HB.out (Bw.trans (by repeat (first | exact Bw.refl _ | apply Bw.alloc | apply Bw.drewN | apply Bw.drew)) hb1); replace HB := hid (HB.out.trans hbq3); have u3 := (HP.out.bw HB.out).cell; have ul3 := (HP.out.bw HB.out).lt; have v3 := (HPN.out.bw HB.out).cell; have vl3 := (HPN.out.bw HB.out).lt; clear hb1 hbq3; have HE1 := hid trivial)
        | (go_at_call 13; refine (rEffect_any in1 in2 ic1 ic2 ic3 ia1 ia2 ia3 m0.globals op av bv mk (fun _ => True) (RKs.bw HKK.out (HW0.out.trans HB.out)) HAV.out).mono ?_; rw [HEF.out]; rintro e wq ⟨rfl, hb1⟩; have hbq4 := (show ∀ {p : World}, Bw ((w.alloc (.cells #[.slice ia1 in1 ic1, .slice ia2 in2 ic2, .slice ia3 mk.length ic3, .int .i64 m0.globals] 26)).alloc (.cells #[.int .i64 op, .int .i64 av, .int .i64 bv] 28)) p → Bw p wq → Bw p wq from fun _ k => k) HB.out (Bw.trans (by repeat (first | exact Bw.refl _ | apply Bw.alloc | apply Bw.drewN | apply Bw.drew)) hb1); replace HB := hid (HB.out.trans hbq4); have u4 := (HP.out.bw HB.out).cell; have ul4 := (HP.out.bw HB.out).lt; have v4 := (HPN.out.bw HB.out).cell; have vl4 := (HPN.out.bw HB.out).lt; clear hb1 hbq4; have HE2 := hid trivial)
        | fail)
      · go_region_held3 (fun w' => ∀ b j, b < wq.heap.size → w'.cell? ⟨b, j, none⟩ = wq.cell? ⟨b, j, none⟩) (first | exact hS1 | (intro b j hb; rfl) | assumption) (first
          | (go_at_call 14; refine (name_any op (HO.out.bw (HW0.out.trans (HB.out.trans (by repeat (first | exact Bw.refl _ | apply Bw.alloc | apply Bw.drewN | apply Bw.drew)))))).mono ?_; rw [HNM.out]; rintro e wn ⟨rfl, hwn⟩; subst wn)
          | (go_at_call 15; refine (safe_any op (HO.out.bw (HW0.out.trans (HB.out.trans (by repeat (first | exact Bw.refl _ | apply Bw.alloc | apply Bw.drewN | apply Bw.drew)))))).mono ?_; rw [HSF.out]; rintro e wn ⟨rfl, hwn⟩; subst wn)
          | (go_at_call 16; refine (rSafe_any op _).mono ?_; rw [HSF.out]; rintro e wn ⟨rfl, hwn⟩; subst wn)
          | (go_at_call 17; refine (num_any _ _).mono ?_; rintro e wn ⟨rfl, hwn⟩; subst wn)
          | (go_at_call 10; (have _q := HE2; clear _q); refine (live_any (HO.out.bw (HW0.out.trans (HB.out.trans (by repeat (first | exact Bw.refl _ | apply Bw.alloc | apply Bw.drewN | apply Bw.drew)))))).mono ?_; rintro e wz ⟨rfl, hb1⟩; have hbz := (show ∀ {p : World}, Bw ((w.alloc (.cells #[.slice ia1 in1 ic1, .slice ia2 in2 ic2, .slice ia3 mk.length ic3, .int .i64 m0.globals] 26)).alloc (.cells #[.int .i64 op, .int .i64 av, .int .i64 bv] 28)) p → Bw p wz → Bw p wz from fun _ k => k) HB.out (Bw.trans (by repeat (first | exact Bw.refl _ | apply Bw.alloc | apply Bw.drewN | apply Bw.drew)) hb1); have hS1 := (fun b j hb => World.cell?_of_block (w' := wz) (a := ⟨b, j, none⟩) (hbz.block b hb)); have HBZ := hid (HB.out.trans hbz); clear hb1 hbz)
          | fail)
        go_wp2
        all_goals go_ret
        all_goals first | exact ⟨rfl, HW0.out.trans HBZ.out⟩ | exact ⟨rfl, HW0.out.trans HB.out⟩
      · go_ret
        exact ⟨rfl, HW0.out.trans HB.out⟩
    · have h0b : 0 ≤ op := by omega
      have h33 : decide (op < 33) = false := decide_eq_false (by omega)
      clear hni h0
      go_enter Tryd.func3, Tryd.ntmps3
      go_wp2_with (first
        | (go_at_call 9; refine (big_any _ _ _ m0 (fun _ => True) (HM.out.bw (HW0.out.trans (HB.out.trans (by repeat (first | exact Bw.refl _ | apply Bw.alloc | apply Bw.drewN | apply Bw.drew)))))).mono ?_; rintro e wq ⟨q, rfl, hq9, hb1⟩; have hbq1 := (show ∀ {p : World}, Bw ((w.alloc (.cells #[.slice ia1 in1 ic1, .slice ia2 in2 ic2, .slice ia3 mk.length ic3, .int .i64 m0.globals] 26)).alloc (.cells #[.int .i64 op, .int .i64 av, .int .i64 bv] 28)) p → Bw p wq → Bw p wq from fun _ k => k) HB.out (Bw.trans (by repeat (first | exact Bw.refl _ | apply Bw.alloc | apply Bw.drewN | apply Bw.drew)) hb1); replace HB := hid (HB.out.trans hbq1); have u1 := (HP.out.bw HB.out).cell; have ul1 := (HP.out.bw HB.out).lt; have v1 := (HPN.out.bw HB.out).cell; have vl1 := (HPN.out.bw HB.out).lt; clear hb1 hbq1; have HQ := hid hq9; clear hq9; cases q)
        | (go_at_call 10; refine (live_any (HO.out.bw (HW0.out.trans (HB.out.trans (by repeat (first | exact Bw.refl _ | apply Bw.alloc | apply Bw.drewN | apply Bw.drew)))))).mono ?_; rintro e wq ⟨rfl, hb1⟩; have hbq2 := (show ∀ {p : World}, Bw ((w.alloc (.cells #[.slice ia1 in1 ic1, .slice ia2 in2 ic2, .slice ia3 mk.length ic3, .int .i64 m0.globals] 26)).alloc (.cells #[.int .i64 op, .int .i64 av, .int .i64 bv] 28)) p → Bw p wq → Bw p wq from fun _ k => k) HB.out (Bw.trans (by repeat (first | exact Bw.refl _ | apply Bw.alloc | apply Bw.drewN | apply Bw.drew)) hb1); replace HB := hid (HB.out.trans hbq2); have u2 := (HP.out.bw HB.out).cell; have ul2 := (HP.out.bw HB.out).lt; have v2 := (HPN.out.bw HB.out).cell; have vl2 := (HPN.out.bw HB.out).lt; clear hb1 hbq2)
        | (go_at_call 11; refine (rTable_any _).mono ?_; rintro e wq ⟨rfl, hw1⟩; have hb1 := (show ∀ {p q : World}, Bw p q → wq = q.alloc (.cells tabA 34) → Bw q wq from fun _ h => h ▸ Bw.alloc (Bw.refl _) _) HB.out hw1; have ht1 := (show ∀ {p : World}, wq = p.alloc (.cells tabA 34) → Blk wq p.heap.size tabA 34 from fun h => h ▸ Blk.new _ _ _) hw1; have tl := ht1.lt; have hbq6 := (show ∀ {p : World}, Bw ((w.alloc (.cells #[.slice ia1 in1 ic1, .slice ia2 in2 ic2, .slice ia3 mk.length ic3, .int .i64 m0.globals] 26)).alloc (.cells #[.int .i64 op, .int .i64 av, .int .i64 bv] 28)) p → Bw p wq → Bw p wq from fun _ k => k) HB.out (Bw.trans (by repeat (first | exact Bw.refl _ | apply Bw.alloc | apply Bw.drewN | apply Bw.drew)) hb1); replace HB := hid (HB.out.trans hbq6); have u6 := (HP.out.bw HB.out).cell; have ul6 := (HP.out.bw HB.out).lt; have v6 := (HPN.out.bw HB.out).cell; have vl6 := (HPN.out.bw HB.out).lt; clear hb1 hbq6; clear hw1 ht1)
        | (go_at_call 12; refine (effect_any in1 in2 ic1 ic2 ic3 ia1 ia2 ia3 m0.globals op av bv mk (fun _ => True) (HO.out.bw (HW0.out.trans HB.out)) (RKs.bw HKK.out (HW0.out.trans HB.out)) HAV.out (HKL.out (HQ.out (by simp)))).mono ?_; rw [HEF.out]; rintro e wq ⟨rfl, hb1⟩; have hbq3 := (show ∀ {p : World}, Bw ((w.alloc (.cells #[.slice ia1 in1 ic1, .slice ia2 in2 ic2, .slice ia3 mk.length ic3, .int .i64 m0.globals] 26)).alloc (.cells #[.int .i64 op, .int .i64 av, .int .i64 bv] 28)) p → Bw p wq → Bw p wq from fun _ k => k) HB.out (Bw.trans (by repeat (first | exact Bw.refl _ | apply Bw.alloc | apply Bw.drewN | apply Bw.drew)) hb1); replace HB := hid (HB.out.trans hbq3); have u3 := (HP.out.bw HB.out).cell; have ul3 := (HP.out.bw HB.out).lt; have v3 := (HPN.out.bw HB.out).cell; have vl3 := (HPN.out.bw HB.out).lt; clear hb1 hbq3; have HE1 := hid trivial)
        | (go_at_call 13; refine (rEffect_any in1 in2 ic1 ic2 ic3 ia1 ia2 ia3 m0.globals op av bv mk (fun _ => True) (RKs.bw HKK.out (HW0.out.trans HB.out)) HAV.out).mono ?_; rw [HEF.out]; rintro e wq ⟨rfl, hb1⟩; have hbq4 := (show ∀ {p : World}, Bw ((w.alloc (.cells #[.slice ia1 in1 ic1, .slice ia2 in2 ic2, .slice ia3 mk.length ic3, .int .i64 m0.globals] 26)).alloc (.cells #[.int .i64 op, .int .i64 av, .int .i64 bv] 28)) p → Bw p wq → Bw p wq from fun _ k => k) HB.out (Bw.trans (by repeat (first | exact Bw.refl _ | apply Bw.alloc | apply Bw.drewN | apply Bw.drew)) hb1); replace HB := hid (HB.out.trans hbq4); have u4 := (HP.out.bw HB.out).cell; have ul4 := (HP.out.bw HB.out).lt; have v4 := (HPN.out.bw HB.out).cell; have vl4 := (HPN.out.bw HB.out).lt; clear hb1 hbq4; have HE2 := hid trivial)
        | fail)
      · go_region_held3 (fun w' => ∀ b j, b < wq.heap.size → w'.cell? ⟨b, j, none⟩ = wq.cell? ⟨b, j, none⟩) (first | exact hS1 | (intro b j hb; rfl) | assumption) (first
          | (go_at_call 14; refine (name_any op (HO.out.bw (HW0.out.trans (HB.out.trans (by repeat (first | exact Bw.refl _ | apply Bw.alloc | apply Bw.drewN | apply Bw.drew)))))).mono ?_; rw [HNM.out]; rintro e wn ⟨rfl, hwn⟩; subst wn)
          | (go_at_call 15; refine (safe_any op (HO.out.bw (HW0.out.trans (HB.out.trans (by repeat (first | exact Bw.refl _ | apply Bw.alloc | apply Bw.drewN | apply Bw.drew)))))).mono ?_; rw [HSF.out]; rintro e wn ⟨rfl, hwn⟩; subst wn)
          | (go_at_call 16; refine (rSafe_any op _).mono ?_; rw [HSF.out]; rintro e wn ⟨rfl, hwn⟩; subst wn)
          | (go_at_call 17; refine (num_any _ _).mono ?_; rintro e wn ⟨rfl, hwn⟩; subst wn)
          | (go_at_call 10; (have _q := HE2; clear _q); refine (live_any (HO.out.bw (HW0.out.trans (HB.out.trans (by repeat (first | exact Bw.refl _ | apply Bw.alloc | apply Bw.drewN | apply Bw.drew)))))).mono ?_; rintro e wz ⟨rfl, hb1⟩; have hbz := (show ∀ {p : World}, Bw ((w.alloc (.cells #[.slice ia1 in1 ic1, .slice ia2 in2 ic2, .slice ia3 mk.length ic3, .int .i64 m0.globals] 26)).alloc (.cells #[.int .i64 op, .int .i64 av, .int .i64 bv] 28)) p → Bw p wz → Bw p wz from fun _ k => k) HB.out (Bw.trans (by repeat (first | exact Bw.refl _ | apply Bw.alloc | apply Bw.drewN | apply Bw.drew)) hb1); have hS1 := (fun b j hb => World.cell?_of_block (w' := wz) (a := ⟨b, j, none⟩) (hbz.block b hb)); have HBZ := hid (HB.out.trans hbz); clear hb1 hbz)
          | fail)
        go_wp2
        all_goals go_ret
        all_goals first | exact ⟨rfl, HW0.out.trans HBZ.out⟩ | exact ⟨rfl, HW0.out.trans HB.out⟩
      · go_ret
        exact ⟨rfl, HW0.out.trans HB.out⟩
  · obtain ⟨k, hko, hk33, _⟩ := opAt_get hq
    obtain ⟨oa, hoa⟩ : ∃ x, opAt op = x := ⟨_, rfl⟩
    have HOA := hid (show opAt (k : Int) = oa by rw [← hko]; exact hoa)
    obtain ⟨s0, hs0⟩ : ∃ x, strOfNums oa.1 = x := ⟨_, rfl⟩
    have HNM := hid (show strOfNums (nameM op) = s0 by unfold nameM; rw [hq, if_pos rfl, hoa]; exact hs0)
    have HS0 := hid hs0
    have z5 : (s0.toList == s0.toList) = true := by simp
    subst hko
    have h0b : (0 : Int) ≤ (k : Int) := by omega
    have hk33i : (k : Int) < 33 := by omega
    clear hq hoa hs0
    go_enter Tryd.func3, Tryd.ntmps3
    go_wp2_with (first
      | (go_at_call 9; refine (big_any _ _ _ m0 (fun _ => True) (HM.out.bw (HW0.out.trans (HB.out.trans (by repeat (first | exact Bw.refl _ | apply Bw.alloc | apply Bw.drewN | apply Bw.drew)))))).mono ?_; rintro e wq ⟨q, rfl, hq9, hb1⟩; have hbq1 := (show ∀ {p : World}, Bw ((w.alloc (.cells #[.slice ia1 in1 ic1, .slice ia2 in2 ic2, .slice ia3 mk.length ic3, .int .i64 m0.globals] 26)).alloc (.cells #[.int .i64 (k : Int), .int .i64 av, .int .i64 bv] 28)) p → Bw p wq → Bw p wq from fun _ k => k) HB.out (Bw.trans (by repeat (first | exact Bw.refl _ | apply Bw.alloc | apply Bw.drewN | apply Bw.drew)) hb1); replace HB := hid (HB.out.trans hbq1); have u1 := (HP.out.bw HB.out).cell; have ul1 := (HP.out.bw HB.out).lt; have v1 := (HPN.out.bw HB.out).cell; have vl1 := (HPN.out.bw HB.out).lt; clear hb1 hbq1; have HQ := hid hq9; clear hq9; cases q)
      | (go_at_call 10; refine (live_any (HO.out.bw (HW0.out.trans (HB.out.trans (by repeat (first | exact Bw.refl _ | apply Bw.alloc | apply Bw.drewN | apply Bw.drew)))))).mono ?_; rintro e wq ⟨rfl, hb1⟩; have hbq2 := (show ∀ {p : World}, Bw ((w.alloc (.cells #[.slice ia1 in1 ic1, .slice ia2 in2 ic2, .slice ia3 mk.length ic3, .int .i64 m0.globals] 26)).alloc (.cells #[.int .i64 (k : Int), .int .i64 av, .int .i64 bv] 28)) p → Bw p wq → Bw p wq from fun _ k => k) HB.out (Bw.trans (by repeat (first | exact Bw.refl _ | apply Bw.alloc | apply Bw.drewN | apply Bw.drew)) hb1); replace HB := hid (HB.out.trans hbq2); have u2 := (HP.out.bw HB.out).cell; have ul2 := (HP.out.bw HB.out).lt; have v2 := (HPN.out.bw HB.out).cell; have vl2 := (HPN.out.bw HB.out).lt; clear hb1 hbq2)
      | (go_at_call 11; refine (rTable_any _).mono ?_; rintro e wq ⟨rfl, hw1⟩; have hb1 := (show ∀ {p q : World}, Bw p q → wq = q.alloc (.cells tabA 34) → Bw q wq from fun _ h => h ▸ Bw.alloc (Bw.refl _) _) HB.out hw1; have ht1 := (show ∀ {p : World}, wq = p.alloc (.cells tabA 34) → Blk wq p.heap.size tabA 34 from fun h => h ▸ Blk.new _ _ _) hw1; have tl := ht1.lt; obtain ⟨c0, c1, c2⟩ := tab_cells ht1 hk33 HOA.out; rw [HS0.out] at c0; have hbq7 := (show ∀ {p : World}, Bw ((w.alloc (.cells #[.slice ia1 in1 ic1, .slice ia2 in2 ic2, .slice ia3 mk.length ic3, .int .i64 m0.globals] 26)).alloc (.cells #[.int .i64 (k : Int), .int .i64 av, .int .i64 bv] 28)) p → Bw p wq → Bw p wq from fun _ k => k) HB.out (Bw.trans (by repeat (first | exact Bw.refl _ | apply Bw.alloc | apply Bw.drewN | apply Bw.drew)) hb1); replace HB := hid (HB.out.trans hbq7); have u7 := (HP.out.bw HB.out).cell; have ul7 := (HP.out.bw HB.out).lt; have v7 := (HPN.out.bw HB.out).cell; have vl7 := (HPN.out.bw HB.out).lt; clear hb1 hbq7; clear hw1 ht1)
      | (go_at_call 12; refine (effect_any in1 in2 ic1 ic2 ic3 ia1 ia2 ia3 m0.globals (k : Int) av bv mk (fun _ => True) (HO.out.bw (HW0.out.trans HB.out)) (RKs.bw HKK.out (HW0.out.trans HB.out)) HAV.out (HKL.out (HQ.out (by simp)))).mono ?_; rw [HEF.out]; rintro e wq ⟨rfl, hb1⟩; have hbq3 := (show ∀ {p : World}, Bw ((w.alloc (.cells #[.slice ia1 in1 ic1, .slice ia2 in2 ic2, .slice ia3 mk.length ic3, .int .i64 m0.globals] 26)).alloc (.cells #[.int .i64 (k : Int), .int .i64 av, .int .i64 bv] 28)) p → Bw p wq → Bw p wq from fun _ k => k) HB.out (Bw.trans (by repeat (first | exact Bw.refl _ | apply Bw.alloc | apply Bw.drewN | apply Bw.drew)) hb1); replace HB := hid (HB.out.trans hbq3); have u3 := (HP.out.bw HB.out).cell; have ul3 := (HP.out.bw HB.out).lt; have v3 := (HPN.out.bw HB.out).cell; have vl3 := (HPN.out.bw HB.out).lt; clear hb1 hbq3; have HE1 := hid trivial)
      | (go_at_call 13; refine (rEffect_any in1 in2 ic1 ic2 ic3 ia1 ia2 ia3 m0.globals (k : Int) av bv mk (fun _ => True) (RKs.bw HKK.out (HW0.out.trans HB.out)) HAV.out).mono ?_; rw [HEF.out]; rintro e wq ⟨rfl, hb1⟩; have hbq4 := (show ∀ {p : World}, Bw ((w.alloc (.cells #[.slice ia1 in1 ic1, .slice ia2 in2 ic2, .slice ia3 mk.length ic3, .int .i64 m0.globals] 26)).alloc (.cells #[.int .i64 (k : Int), .int .i64 av, .int .i64 bv] 28)) p → Bw p wq → Bw p wq from fun _ k => k) HB.out (Bw.trans (by repeat (first | exact Bw.refl _ | apply Bw.alloc | apply Bw.drewN | apply Bw.drew)) hb1); replace HB := hid (HB.out.trans hbq4); have u4 := (HP.out.bw HB.out).cell; have ul4 := (HP.out.bw HB.out).lt; have v4 := (HPN.out.bw HB.out).cell; have vl4 := (HPN.out.bw HB.out).lt; clear hb1 hbq4; have HE2 := hid trivial)
      | fail)
    · go_region_held3 (fun w' => ∀ b j, b < wq.heap.size → w'.cell? ⟨b, j, none⟩ = wq.cell? ⟨b, j, none⟩) (first | exact hS1 | (intro b j hb; rfl) | assumption) (first
        | (go_at_call 14; refine (name_any (k : Int) (HO.out.bw (HW0.out.trans (HB.out.trans (by repeat (first | exact Bw.refl _ | apply Bw.alloc | apply Bw.drewN | apply Bw.drew)))))).mono ?_; rw [HNM.out]; rintro e wn ⟨rfl, hwn⟩; subst wn)
        | (go_at_call 15; refine (safe_any (k : Int) (HO.out.bw (HW0.out.trans (HB.out.trans (by repeat (first | exact Bw.refl _ | apply Bw.alloc | apply Bw.drewN | apply Bw.drew)))))).mono ?_; rw [HSF.out]; rintro e wn ⟨rfl, hwn⟩; subst wn)
        | (go_at_call 16; refine (rSafe_any (k : Int) _).mono ?_; rw [HSF.out]; rintro e wn ⟨rfl, hwn⟩; subst wn)
        | (go_at_call 17; refine (num_any _ _).mono ?_; rintro e wn ⟨rfl, hwn⟩; subst wn)
        | (go_at_call 10; (have _q := HE2; clear _q); refine (live_any (HO.out.bw (HW0.out.trans (HB.out.trans (by repeat (first | exact Bw.refl _ | apply Bw.alloc | apply Bw.drewN | apply Bw.drew)))))).mono ?_; rintro e wz ⟨rfl, hb1⟩; have hbz := (show ∀ {p : World}, Bw ((w.alloc (.cells #[.slice ia1 in1 ic1, .slice ia2 in2 ic2, .slice ia3 mk.length ic3, .int .i64 m0.globals] 26)).alloc (.cells #[.int .i64 (k : Int), .int .i64 av, .int .i64 bv] 28)) p → Bw p wz → Bw p wz from fun _ k => k) HB.out (Bw.trans (by repeat (first | exact Bw.refl _ | apply Bw.alloc | apply Bw.drewN | apply Bw.drew)) hb1); have hS1 := (fun b j hb => World.cell?_of_block (w' := wz) (a := ⟨b, j, none⟩) (hbz.block b hb)); have HBZ := hid (HB.out.trans hbz); clear hb1 hbz)
        | fail)
      go_wp2
      all_goals go_ret
      all_goals first | exact ⟨rfl, HW0.out.trans HBZ.out⟩ | exact ⟨rfl, HW0.out.trans HB.out⟩
    · go_ret
      exact ⟨rfl, HW0.out.trans HB.out⟩

set_option maxRecDepth 100000 in
theorem lifted (os : Os) (started : os.Started) (H : Type) (enc : TypeId × Value → H) :
    ReturnsInHanded {} Tryd.checked os 3 .any (fun w args => (Rows.codeTablesSpec.pre enc Tryd.prog Tryd.f3 [] false w args ∧ laidMetH Tryd.prog laidS w) ∧ sizedMet enc Tryd.prog Tryd.f3 (OpenSpec.ofChange Rows.codeTablesSpec) false w args)
      (Rows.codeTablesSpec.post enc Tryd.prog Tryd.f3 false true false false) := by
  refine returnsInHanded_of_change_and (C := Tryd.checked) (X := fun w _ => laidMetH Tryd.prog laidS w) (fun _ _ _ hh h => h.of_heap hh) ownK started (by kernel_rfl) Tryd.func3
    (ChangeSpec.witness_shaped (enc := enc) (C := Tryd.checked) (os := os) (X := fun w _ => laidMetH Tryd.prog laidS w) false (World.doorLaid Tryd.prog 400 os) #[.agg #[.slice none 0 0, .slice none 0 0, .slice none 0 0, .int .i64 0], .agg #[.int .i64 0, .int .i64 0, .int .i64 0]] 8 rfl (World.shaped_of_RefB (by kernel_rfl) (by kernel_rfl)) (by kernel_rfl) (by kernel_rfl) (by kernel_rfl) (door_met os _)) ?_
  intro W base args ds gs before hval0 hW _ _ hL _
  have hval : ∀ (j : Nat) t v, Tryd.f3.params[j]? = some t → args[j]? = some v → Value.okWide Tryd.prog W .any base t v := hval0
  have hW' := hW
  obtain ⟨p, q, hA0, hV, rfl, hfz, hnd⟩ := hW
  have hA : DataW.TrodAll enc Tryd.prog W 0 (fun _ => true) true Tryd.f3.params.toList args.toList ds p := hA0
  rw [Tryd.params3] at hA hval
  obtain ⟨v0, vs0, d0, ds0, p0, q0, hargs, rfl, rfl, h0, r0⟩ := trodAll_cons hA
  obtain ⟨v1, vs1, d1, ds1, p1, q1, rfl, rfl, rfl, h1, r1⟩ := trodAll_cons r0
  obtain ⟨rfl, rfl, rfl⟩ := trodAll_nil r1
  obtain rfl : args = #[v0, v1] := by cases args; simp_all
  obtain ⟨rfl, rfl⟩ := trodVars_none hV
  have k0 := h0
  have lt0 : ∀ x ∈ p0, x.block < W.heap.size := by obtain ⟨m, hm⟩ := k0; exact DataW.trod_lt m _ _ _ hm
  have k1 := h1
  have lt1 : ∀ x ∈ p1, x.block < W.heap.size := by obtain ⟨m, hm⟩ := k1; exact DataW.trod_lt m _ _ _ hm
  obtain ⟨vf0, vs0, vk0, m0, e0, w0⟩ := open_image (hval 0 26 v0 rfl rfl) h0
  subst e0
  obtain ⟨p1, e1, w1⟩ := open_ins (hval 1 28 v1 rfl rfl) h1
  subst e1
  have hs := og_of_laid hL
  clear hA0 hval0
  refine (walk vf0 vs0 vk0 m0 p1 w1 W hs w0).mono fun e W' ⟨he, bel⟩ => ?_
  subst he
  exact ⟨_, rfl, _, _, _, [], _, [], hW', trodAll_mk1 (shut_bool Tryd.underlying4 _), (trodAll_cons_mk (Below.trod laidOut (by kernel_rfl) (of_decide_eq_true (by kernel_rfl)) k0 bel lt0) (trodAll_cons_mk (Below.trod laidOut (by kernel_rfl) (of_decide_eq_true (by kernel_rfl)) k1 bel lt1) trodAll_mk0)), rfl, Below.frame bel _, fun h => by cases h⟩

theorem over : Rows.codeTablesRow.holds Tryd.pinned (OpenSpec.ofChange Rows.codeTablesSpec) :=
  OpenClaim.holds_of_wide 3 Tryd.f3 rfl rfl rfl rfl rfl rfl rfl ⟨rfl, rfl, rfl, rfl, rfl⟩ rfl rfl rfl rfl rfl (by kernel_rfl) Tryd.func3 (by kernel_rfl)
    (of_decide_eq_true (by kernel_rfl)) (by unfold Func.isWrapper; first | (rw [if_pos (by decide +kernel)]; kernel_rfl) | (rw [if_neg (by decide +kernel)]; exact ⟨rfl, rfl⟩))
    (fun os started H enc _ => lifted os started H enc)

theorem card : Rows.CodeTablesCardSaid :=
  Claim7.holds_tied_plain_at .later [] [.data] true (true, "cac749f79879078034011fce91b11fca52ecc96e699a6bc9fa88c96545969f9c") false
    over (fun _ h => by cases h) (by kernel_rfl) (fun _ h => by cases h) codeTables_row_tie rfl ⟨rfl, rfl⟩ (by kernel_rfl) rfl
    (fun f fn hf hfn => by
      obtain rfl : f = 3 := Option.some.inj ((show Tryd.prog.funcNamed "jacquard/jacquardlaw10.CodeTables" = some 3 by kernel_rfl).symm.trans hf) |>.symm
      obtain rfl : fn = Tryd.f3 := (Option.some.inj (Tryd.func3.symm.trans hfn)).symm
      exact ⟨by kernel_rfl, fun j t ht => by
        rw [Tryd.params3] at ht
        have hm : t ∈ [26, 28] := by have h9 := Array.mem_of_getElem? ht; simp at h9 ⊢; first | exact h9 | (rcases h9 with h9 | h9 <;> simp [h9]; done) | (rcases h9 with h9 | h9 | h9 <;> simp [h9]; done) | (rcases h9 with h9 | h9 | h9 | h9 <;> simp [h9]; done)
        have hall : ([26, 28].all fun u => !Tryd.prog.wantsStandIn u) = true := by kernel_rfl
        exact (show Tryd.prog.wantsStandIn t = false by simpa using List.all_eq_true.1 hall t hm)⟩)
    (by kernel_rfl)
end Go.Proofs.YtmhjfkhcpfihfaaDoor.codeTables
namespace Go.Proofs.YtmhjfkhcpfihfaaDoor
theorem codeTables_holds : Rows.CodeTablesCardSaid := codeTables.card
#print axioms codeTables_holds
end Go.Proofs.YtmhjfkhcpfihfaaDoor
