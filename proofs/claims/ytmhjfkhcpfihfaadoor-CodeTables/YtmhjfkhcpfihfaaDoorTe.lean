/- The document's Effect: the contract. -/
import Derived.Test.YtmhjfkhcpfihfaaDoorTd
set_option linter.unusedSimpArgs false
set_option linter.unusedVariables false
namespace Go.Proofs.YtmhjfkhcpfihfaaDoor
open Go Go.RowKit

theorem tab_cells {w : World} {g : Nat} {k : Nat} {oa : List Int × Int × Int × Bool} (h : Blk w g tabA 34) (hk : k < 33) (ho : opAt (k : Int) = oa) :
    w.cell? ⟨g, k * 3, none⟩ = some (.string (strOfNums oa.1)) ∧ w.cell? ⟨g, k * 3 + 1, none⟩ = some (.int .i64 oa.2.1) ∧ w.cell? ⟨g, k * 3 + 2, none⟩ = some (.int .i64 oa.2.2.1) := by
  subst ho
  refine ⟨?_, ?_, ?_⟩
  · rw [h.cell]; exact tab_at (j := 0) hk (by decide)
  · rw [h.cell]; exact tab_at (j := 1) hk (by decide)
  · rw [h.cell]; exact tab_at (j := 2) hk (by decide)

section
variable {w w' : World}

set_option maxRecDepth 100000 in
set_option maxHeartbeats 4000000 in
theorem rEffect_any (nf ns kf ks kk : Nat) (af az ak : Option Addr) (gl op a bb : Int) (mk : List (List Int × Value)) (G : Nat → Prop) (hk : RKs w G (.slice ak mk.length kk) mk) (ha : I64 a) :
    Calls Tryd.prog 13 #[.agg #[.slice af nf kf, .slice az ns ks, .slice ak mk.length kk, .int .i64 gl], .agg #[.int .i64 op, .int .i64 a, .int .i64 bb]] w fun e w' => e = .returned (.tuple #[.int .i64 (effM (mk.map (·.1)) op a).1, .int .i64 (effM (mk.map (·.1)) op a).2.1, .int .i64 (effM (mk.map (·.1)) op a).2.2]) ∧ Bw w w' := by
  have HK := hid hk
  have HA := hid ha
  have HPI := hid (show Blk ((w.alloc (.cells #[.slice af nf kf, .slice az ns ks, .slice ak mk.length kk, .int .i64 gl] 26)).alloc (.cells #[.int .i64 op, .int .i64 a, .int .i64 bb] 28)) w.heap.size #[.slice af nf kf, .slice az ns ks, .slice ak mk.length kk, .int .i64 gl] 26 from (Blk.new w #[.slice af nf kf, .slice az ns ks, .slice ak mk.length kk, .int .i64 gl] 26).alloc _)
  have HPN := hid (show Blk ((w.alloc (.cells #[.slice af nf kf, .slice az ns ks, .slice ak mk.length kk, .int .i64 gl] 26)).alloc (.cells #[.int .i64 op, .int .i64 a, .int .i64 bb] 28)) (w.heap.size + 1) #[.int .i64 op, .int .i64 a, .int .i64 bb] 28 from by have := Blk.new (w.alloc (.cells #[.slice af nf kf, .slice az ns ks, .slice ak mk.length kk, .int .i64 gl] 26)) #[.int .i64 op, .int .i64 a, .int .i64 bb] 28; simpa only [World.size_alloc] using this)
  clear hk ha
  cases hq : isOp op
  · have HE := hid (show effM (mk.map (·.1)) op a = (0, 0, 8) by unfold effM; rw [hq]; rfl)
    have hni : op < 0 ∨ 33 ≤ op := by unfold isOp at hq; rw [decide_eq_false_iff_not] at hq; omega
    rw [HE.out]
    clear hq
    by_cases h0 : op < 0
    · clear hni
      go_enter Tryd.func13, Tryd.ntmps13
      go_wp2_with (first
        | (go_at_call 11; refine (rTable_any _).mono ?_; rintro e w1 ⟨rfl, hw1⟩; have hb1 := (show ∀ {p : World} {c : Array Value} {g : Nat} {e : TypeId}, Blk p g c e → w1 = p.alloc (.cells tabA 34) → Bw p w1 from fun _ h => h ▸ Bw.alloc (Bw.refl _) _) HPI.out hw1; have ht1 := (show ∀ {p : World}, w1 = p.alloc (.cells tabA 34) → Blk w1 p.heap.size tabA 34 from fun h => h ▸ Blk.new _ _ _) hw1; simp only [World.size_alloc] at ht1; have HB1 := hid (show Bw w w1 from Bw.trans (Bw.alloc (Bw.alloc (Bw.refl w) _) _) hb1); have u1 := (HPI.out.bw hb1).cell; have u2 := (HPN.out.bw hb1).cell; have ul1 := (HPI.out.bw hb1).lt; have ul2 := (HPN.out.bw hb1).lt; have vl := ht1.lt; skip; clear hw1 hb1 ht1)
        | fail)
      all_goals
        refine bodyPost_ret (v := .tuple #[.int .i64 0, .int .i64 0, .int .i64 8]) (by simp [results, Tryd.results13, go_sem]) rfl ?_
        exact ⟨rfl, Bw.trans HB1.out (by repeat (first | exact Bw.refl _ | apply Bw.alloc | apply Bw.drewN | apply Bw.drew))⟩
    · have h33 : decide (33 ≤ op) = true := decide_eq_true (by omega)
      clear hni
      go_enter Tryd.func13, Tryd.ntmps13
      go_wp2_with (first
        | (go_at_call 11; refine (rTable_any _).mono ?_; rintro e w1 ⟨rfl, hw1⟩; have hb1 := (show ∀ {p : World} {c : Array Value} {g : Nat} {e : TypeId}, Blk p g c e → w1 = p.alloc (.cells tabA 34) → Bw p w1 from fun _ h => h ▸ Bw.alloc (Bw.refl _) _) HPI.out hw1; have ht1 := (show ∀ {p : World}, w1 = p.alloc (.cells tabA 34) → Blk w1 p.heap.size tabA 34 from fun h => h ▸ Blk.new _ _ _) hw1; simp only [World.size_alloc] at ht1; have HB1 := hid (show Bw w w1 from Bw.trans (Bw.alloc (Bw.alloc (Bw.refl w) _) _) hb1); have u1 := (HPI.out.bw hb1).cell; have u2 := (HPN.out.bw hb1).cell; have ul1 := (HPI.out.bw hb1).lt; have ul2 := (HPN.out.bw hb1).lt; have vl := ht1.lt; skip; clear hw1 hb1 ht1)
        | fail)
      all_goals
        refine bodyPost_ret (v := .tuple #[.int .i64 0, .int .i64 0, .int .i64 8]) (by simp [results, Tryd.results13, go_sem]) rfl ?_
        exact ⟨rfl, Bw.trans HB1.out (by repeat (first | exact Bw.refl _ | apply Bw.alloc | apply Bw.drewN | apply Bw.drew))⟩
  · obtain ⟨k, hko, hk33, _⟩ := opAt_get hq
    have hbo := opAt_bd op
    obtain ⟨oa, hoa⟩ : ∃ x, opAt op = x := ⟨_, rfl⟩
    have HEM := hid (show ∀ m, takenM (mk.map (·.1)) op a = some m → effM (mk.map (·.1)) op a = (oa.2.1 + m, oa.2.2.1, 0) from fun m h => by unfold effM; rw [hq, h, hoa]; rfl)
    have HEN := hid (show takenM (mk.map (·.1)) op a = none → effM (mk.map (·.1)) op a = (0, 0, 1) from fun h => by unfold effM; rw [hq, h]; rfl)
    have HOA := hid (show opAt (k : Int) = oa by rw [← hko]; exact hoa)
    rw [hoa] at hbo
    subst hko
    have h0 : ¬ (k : Int) < 0 := by omega
    have h33 : decide ((33 : Int) ≤ (k : Int)) = false := decide_eq_false (by omega)
    clear hq hoa
    by_cases h14 : (k : Int) = 14 ∨ (k : Int) = 25 ∨ (k : Int) = 26
    · have HT := hid (show takenM (mk.map (·.1)) (k : Int) a = if 0 ≤ a ∧ a ≤ 255 then some a else none by unfold takenM; rw [if_pos h14])
      by_cases hin : 0 ≤ a ∧ a ≤ 255
      · have HV := hid (HEM.out a (by rw [HT.out, if_pos hin]))
        rw [HV.out]
        have ha0 : ¬ a < 0 := by omega
        have ha2 : decide (255 < a) = false := decide_eq_false (by omega)
        have hs : -9223372036854775808 ≤ oa.2.1 + a ∧ oa.2.1 + a ≤ 9223372036854775807 := by omega
        clear hin hbo
        rcases h14 with h14 | h14 | h14
        · have t14 : ((k : Int) == 14) = true := by simp; omega
          clear h14
          go_enter Tryd.func13, Tryd.ntmps13
          go_wp2_with (first
            | (go_at_call 11; refine (rTable_any _).mono ?_; rintro e w1 ⟨rfl, hw1⟩; have hb1 := (show ∀ {p : World} {c : Array Value} {g : Nat} {e : TypeId}, Blk p g c e → w1 = p.alloc (.cells tabA 34) → Bw p w1 from fun _ h => h ▸ Bw.alloc (Bw.refl _) _) HPI.out hw1; have ht1 := (show ∀ {p : World}, w1 = p.alloc (.cells tabA 34) → Blk w1 p.heap.size tabA 34 from fun h => h ▸ Blk.new _ _ _) hw1; simp only [World.size_alloc] at ht1; have HB1 := hid (show Bw w w1 from Bw.trans (Bw.alloc (Bw.alloc (Bw.refl w) _) _) hb1); have u1 := (HPI.out.bw hb1).cell; have u2 := (HPN.out.bw hb1).cell; have ul1 := (HPI.out.bw hb1).lt; have ul2 := (HPN.out.bw hb1).lt; have vl := ht1.lt; obtain ⟨c0, c1, c2⟩ := tab_cells ht1 hk33 HOA.out; clear hw1 hb1 ht1)
            | fail)
          go_quiet (fail)
          go_wp2
          all_goals
            refine bodyPost_ret (v := .tuple #[.int .i64 (oa.2.1 + a), .int .i64 oa.2.2.1, .int .i64 0]) (by simp [results, Tryd.results13, go_sem]) rfl ?_
            exact ⟨rfl, Bw.trans HB1.out (by repeat (first | exact Bw.refl _ | apply Bw.alloc | apply Bw.drewN | apply Bw.drew))⟩
        · have t14 : ((k : Int) == 14) = false := by simp; omega
          have t25 : ((k : Int) == 25) = true := by simp; omega
          clear h14
          go_enter Tryd.func13, Tryd.ntmps13
          go_wp2_with (first
            | (go_at_call 11; refine (rTable_any _).mono ?_; rintro e w1 ⟨rfl, hw1⟩; have hb1 := (show ∀ {p : World} {c : Array Value} {g : Nat} {e : TypeId}, Blk p g c e → w1 = p.alloc (.cells tabA 34) → Bw p w1 from fun _ h => h ▸ Bw.alloc (Bw.refl _) _) HPI.out hw1; have ht1 := (show ∀ {p : World}, w1 = p.alloc (.cells tabA 34) → Blk w1 p.heap.size tabA 34 from fun h => h ▸ Blk.new _ _ _) hw1; simp only [World.size_alloc] at ht1; have HB1 := hid (show Bw w w1 from Bw.trans (Bw.alloc (Bw.alloc (Bw.refl w) _) _) hb1); have u1 := (HPI.out.bw hb1).cell; have u2 := (HPN.out.bw hb1).cell; have ul1 := (HPI.out.bw hb1).lt; have ul2 := (HPN.out.bw hb1).lt; have vl := ht1.lt; obtain ⟨c0, c1, c2⟩ := tab_cells ht1 hk33 HOA.out; clear hw1 hb1 ht1)
            | fail)
          go_quiet (fail)
          go_wp2
          all_goals
            refine bodyPost_ret (v := .tuple #[.int .i64 (oa.2.1 + a), .int .i64 oa.2.2.1, .int .i64 0]) (by simp [results, Tryd.results13, go_sem]) rfl ?_
            exact ⟨rfl, Bw.trans HB1.out (by repeat (first | exact Bw.refl _ | apply Bw.alloc | apply Bw.drewN | apply Bw.drew))⟩
        · have t14 : ((k : Int) == 14) = false := by simp; omega
          have t25 : ((k : Int) == 25) = false := by simp; omega
          have t26 : ((k : Int) == 26) = true := by simp; omega
          clear h14
          go_enter Tryd.func13, Tryd.ntmps13
          go_wp2_with (first
            | (go_at_call 11; refine (rTable_any _).mono ?_; rintro e w1 ⟨rfl, hw1⟩; have hb1 := (show ∀ {p : World} {c : Array Value} {g : Nat} {e : TypeId}, Blk p g c e → w1 = p.alloc (.cells tabA 34) → Bw p w1 from fun _ h => h ▸ Bw.alloc (Bw.refl _) _) HPI.out hw1; have ht1 := (show ∀ {p : World}, w1 = p.alloc (.cells tabA 34) → Blk w1 p.heap.size tabA 34 from fun h => h ▸ Blk.new _ _ _) hw1; simp only [World.size_alloc] at ht1; have HB1 := hid (show Bw w w1 from Bw.trans (Bw.alloc (Bw.alloc (Bw.refl w) _) _) hb1); have u1 := (HPI.out.bw hb1).cell; have u2 := (HPN.out.bw hb1).cell; have ul1 := (HPI.out.bw hb1).lt; have ul2 := (HPN.out.bw hb1).lt; have vl := ht1.lt; obtain ⟨c0, c1, c2⟩ := tab_cells ht1 hk33 HOA.out; clear hw1 hb1 ht1)
            | fail)
          go_quiet (fail)
          go_wp2
          all_goals
            refine bodyPost_ret (v := .tuple #[.int .i64 (oa.2.1 + a), .int .i64 oa.2.2.1, .int .i64 0]) (by simp [results, Tryd.results13, go_sem]) rfl ?_
            exact ⟨rfl, Bw.trans HB1.out (by repeat (first | exact Bw.refl _ | apply Bw.alloc | apply Bw.drewN | apply Bw.drew))⟩
      · have HV := hid (HEN.out (by rw [HT.out, if_neg hin]))
        rw [HV.out]
        clear hbo
        by_cases ha0 : a < 0
        · clear hin
          rcases h14 with h14 | h14 | h14
          · have t14 : ((k : Int) == 14) = true := by simp; omega
            clear h14
            go_enter Tryd.func13, Tryd.ntmps13
            go_wp2_with (first
              | (go_at_call 11; refine (rTable_any _).mono ?_; rintro e w1 ⟨rfl, hw1⟩; have hb1 := (show ∀ {p : World} {c : Array Value} {g : Nat} {e : TypeId}, Blk p g c e → w1 = p.alloc (.cells tabA 34) → Bw p w1 from fun _ h => h ▸ Bw.alloc (Bw.refl _) _) HPI.out hw1; have ht1 := (show ∀ {p : World}, w1 = p.alloc (.cells tabA 34) → Blk w1 p.heap.size tabA 34 from fun h => h ▸ Blk.new _ _ _) hw1; simp only [World.size_alloc] at ht1; have HB1 := hid (show Bw w w1 from Bw.trans (Bw.alloc (Bw.alloc (Bw.refl w) _) _) hb1); have u1 := (HPI.out.bw hb1).cell; have u2 := (HPN.out.bw hb1).cell; have ul1 := (HPI.out.bw hb1).lt; have ul2 := (HPN.out.bw hb1).lt; have vl := ht1.lt; obtain ⟨c0, c1, c2⟩ := tab_cells ht1 hk33 HOA.out; clear hw1 hb1 ht1)
              | fail)
            all_goals
              refine bodyPost_ret (v := .tuple #[.int .i64 0, .int .i64 0, .int .i64 1]) (by simp [results, Tryd.results13, go_sem]) rfl ?_
              exact ⟨rfl, Bw.trans HB1.out (by repeat (first | exact Bw.refl _ | apply Bw.alloc | apply Bw.drewN | apply Bw.drew))⟩
          · have t14 : ((k : Int) == 14) = false := by simp; omega
            have t25 : ((k : Int) == 25) = true := by simp; omega
            clear h14
            go_enter Tryd.func13, Tryd.ntmps13
            go_wp2_with (first
              | (go_at_call 11; refine (rTable_any _).mono ?_; rintro e w1 ⟨rfl, hw1⟩; have hb1 := (show ∀ {p : World} {c : Array Value} {g : Nat} {e : TypeId}, Blk p g c e → w1 = p.alloc (.cells tabA 34) → Bw p w1 from fun _ h => h ▸ Bw.alloc (Bw.refl _) _) HPI.out hw1; have ht1 := (show ∀ {p : World}, w1 = p.alloc (.cells tabA 34) → Blk w1 p.heap.size tabA 34 from fun h => h ▸ Blk.new _ _ _) hw1; simp only [World.size_alloc] at ht1; have HB1 := hid (show Bw w w1 from Bw.trans (Bw.alloc (Bw.alloc (Bw.refl w) _) _) hb1); have u1 := (HPI.out.bw hb1).cell; have u2 := (HPN.out.bw hb1).cell; have ul1 := (HPI.out.bw hb1).lt; have ul2 := (HPN.out.bw hb1).lt; have vl := ht1.lt; obtain ⟨c0, c1, c2⟩ := tab_cells ht1 hk33 HOA.out; clear hw1 hb1 ht1)
              | fail)
            all_goals
              refine bodyPost_ret (v := .tuple #[.int .i64 0, .int .i64 0, .int .i64 1]) (by simp [results, Tryd.results13, go_sem]) rfl ?_
              exact ⟨rfl, Bw.trans HB1.out (by repeat (first | exact Bw.refl _ | apply Bw.alloc | apply Bw.drewN | apply Bw.drew))⟩
          · have t14 : ((k : Int) == 14) = false := by simp; omega
            have t25 : ((k : Int) == 25) = false := by simp; omega
            have t26 : ((k : Int) == 26) = true := by simp; omega
            clear h14
            go_enter Tryd.func13, Tryd.ntmps13
            go_wp2_with (first
              | (go_at_call 11; refine (rTable_any _).mono ?_; rintro e w1 ⟨rfl, hw1⟩; have hb1 := (show ∀ {p : World} {c : Array Value} {g : Nat} {e : TypeId}, Blk p g c e → w1 = p.alloc (.cells tabA 34) → Bw p w1 from fun _ h => h ▸ Bw.alloc (Bw.refl _) _) HPI.out hw1; have ht1 := (show ∀ {p : World}, w1 = p.alloc (.cells tabA 34) → Blk w1 p.heap.size tabA 34 from fun h => h ▸ Blk.new _ _ _) hw1; simp only [World.size_alloc] at ht1; have HB1 := hid (show Bw w w1 from Bw.trans (Bw.alloc (Bw.alloc (Bw.refl w) _) _) hb1); have u1 := (HPI.out.bw hb1).cell; have u2 := (HPN.out.bw hb1).cell; have ul1 := (HPI.out.bw hb1).lt; have ul2 := (HPN.out.bw hb1).lt; have vl := ht1.lt; obtain ⟨c0, c1, c2⟩ := tab_cells ht1 hk33 HOA.out; clear hw1 hb1 ht1)
              | fail)
            all_goals
              refine bodyPost_ret (v := .tuple #[.int .i64 0, .int .i64 0, .int .i64 1]) (by simp [results, Tryd.results13, go_sem]) rfl ?_
              exact ⟨rfl, Bw.trans HB1.out (by repeat (first | exact Bw.refl _ | apply Bw.alloc | apply Bw.drewN | apply Bw.drew))⟩
        · have ha2 : decide (255 < a) = true := decide_eq_true (by omega)
          clear hin
          rcases h14 with h14 | h14 | h14
          · have t14 : ((k : Int) == 14) = true := by simp; omega
            clear h14
            go_enter Tryd.func13, Tryd.ntmps13
            go_wp2_with (first
              | (go_at_call 11; refine (rTable_any _).mono ?_; rintro e w1 ⟨rfl, hw1⟩; have hb1 := (show ∀ {p : World} {c : Array Value} {g : Nat} {e : TypeId}, Blk p g c e → w1 = p.alloc (.cells tabA 34) → Bw p w1 from fun _ h => h ▸ Bw.alloc (Bw.refl _) _) HPI.out hw1; have ht1 := (show ∀ {p : World}, w1 = p.alloc (.cells tabA 34) → Blk w1 p.heap.size tabA 34 from fun h => h ▸ Blk.new _ _ _) hw1; simp only [World.size_alloc] at ht1; have HB1 := hid (show Bw w w1 from Bw.trans (Bw.alloc (Bw.alloc (Bw.refl w) _) _) hb1); have u1 := (HPI.out.bw hb1).cell; have u2 := (HPN.out.bw hb1).cell; have ul1 := (HPI.out.bw hb1).lt; have ul2 := (HPN.out.bw hb1).lt; have vl := ht1.lt; obtain ⟨c0, c1, c2⟩ := tab_cells ht1 hk33 HOA.out; clear hw1 hb1 ht1)
              | fail)
            all_goals
              refine bodyPost_ret (v := .tuple #[.int .i64 0, .int .i64 0, .int .i64 1]) (by simp [results, Tryd.results13, go_sem]) rfl ?_
              exact ⟨rfl, Bw.trans HB1.out (by repeat (first | exact Bw.refl _ | apply Bw.alloc | apply Bw.drewN | apply Bw.drew))⟩
          · have t14 : ((k : Int) == 14) = false := by simp; omega
            have t25 : ((k : Int) == 25) = true := by simp; omega
            clear h14
            go_enter Tryd.func13, Tryd.ntmps13
            go_wp2_with (first
              | (go_at_call 11; refine (rTable_any _).mono ?_; rintro e w1 ⟨rfl, hw1⟩; have hb1 := (show ∀ {p : World} {c : Array Value} {g : Nat} {e : TypeId}, Blk p g c e → w1 = p.alloc (.cells tabA 34) → Bw p w1 from fun _ h => h ▸ Bw.alloc (Bw.refl _) _) HPI.out hw1; have ht1 := (show ∀ {p : World}, w1 = p.alloc (.cells tabA 34) → Blk w1 p.heap.size tabA 34 from fun h => h ▸ Blk.new _ _ _) hw1; simp only [World.size_alloc] at ht1; have HB1 := hid (show Bw w w1 from Bw.trans (Bw.alloc (Bw.alloc (Bw.refl w) _) _) hb1); have u1 := (HPI.out.bw hb1).cell; have u2 := (HPN.out.bw hb1).cell; have ul1 := (HPI.out.bw hb1).lt; have ul2 := (HPN.out.bw hb1).lt; have vl := ht1.lt; obtain ⟨c0, c1, c2⟩ := tab_cells ht1 hk33 HOA.out; clear hw1 hb1 ht1)
              | fail)
            all_goals
              refine bodyPost_ret (v := .tuple #[.int .i64 0, .int .i64 0, .int .i64 1]) (by simp [results, Tryd.results13, go_sem]) rfl ?_
              exact ⟨rfl, Bw.trans HB1.out (by repeat (first | exact Bw.refl _ | apply Bw.alloc | apply Bw.drewN | apply Bw.drew))⟩
          · have t14 : ((k : Int) == 14) = false := by simp; omega
            have t25 : ((k : Int) == 25) = false := by simp; omega
            have t26 : ((k : Int) == 26) = true := by simp; omega
            clear h14
            go_enter Tryd.func13, Tryd.ntmps13
            go_wp2_with (first
              | (go_at_call 11; refine (rTable_any _).mono ?_; rintro e w1 ⟨rfl, hw1⟩; have hb1 := (show ∀ {p : World} {c : Array Value} {g : Nat} {e : TypeId}, Blk p g c e → w1 = p.alloc (.cells tabA 34) → Bw p w1 from fun _ h => h ▸ Bw.alloc (Bw.refl _) _) HPI.out hw1; have ht1 := (show ∀ {p : World}, w1 = p.alloc (.cells tabA 34) → Blk w1 p.heap.size tabA 34 from fun h => h ▸ Blk.new _ _ _) hw1; simp only [World.size_alloc] at ht1; have HB1 := hid (show Bw w w1 from Bw.trans (Bw.alloc (Bw.alloc (Bw.refl w) _) _) hb1); have u1 := (HPI.out.bw hb1).cell; have u2 := (HPN.out.bw hb1).cell; have ul1 := (HPI.out.bw hb1).lt; have ul2 := (HPN.out.bw hb1).lt; have vl := ht1.lt; obtain ⟨c0, c1, c2⟩ := tab_cells ht1 hk33 HOA.out; clear hw1 hb1 ht1)
              | fail)
            all_goals
              refine bodyPost_ret (v := .tuple #[.int .i64 0, .int .i64 0, .int .i64 1]) (by simp [results, Tryd.results13, go_sem]) rfl ?_
              exact ⟨rfl, Bw.trans HB1.out (by repeat (first | exact Bw.refl _ | apply Bw.alloc | apply Bw.drewN | apply Bw.drew))⟩
    · have n14 : ((k : Int) == 14) = false := by simp; omega
      have n25 : ((k : Int) == 25) = false := by simp; omega
      have n26 : ((k : Int) == 26) = false := by simp; omega
      by_cases h15 : (k : Int) = 15
      · have HT := hid (show takenM (mk.map (·.1)) (k : Int) a = if 0 ≤ a ∧ a < (mk.map (·.1)).length then some (((mk.map (·.1)).getD a.toNat []).length : Int) else none by unfold takenM; rw [if_neg h14, if_pos h15])
        have hoa0 : oa.2.1 = 0 := by have := HOA.out; rw [← this, h15]; rfl
        have n15 : ((k : Int) == 15) = true := by simp; omega
        clear h14 h15 hbo
        by_cases hin : 0 ≤ a ∧ a < mk.length
        · obtain ⟨j, hj⟩ : ∃ j : Nat, a = j := ⟨a.toNat, by omega⟩
          subst hj
          have hjl : j < mk.length := by omega
          obtain ⟨g, o, cap', e, hcap, hg, _, hc⟩ := HK.out.parts hjl (by decide)
          cases e
          have d0 := hc 0 (by decide)
          simp only [Nat.mul_one, Nat.add_zero, List.getElem?_cons_zero] at d0
          have hO := HK.out.2.1 _ (List.getElem_mem hjl)
          have HV := hid (show effM (mk.map (·.1)) (k : Int) (j : Int) = (((mk[j].1).length : Int), oa.2.2.1, 0) by
            rw [HEM.out ((mk[j].1).length : Int) (by rw [HT.out, if_pos (by simp; omega)]; simp [List.getD_eq_getElem?_getD, hjl]), hoa0, Int.zero_add])
          generalize mk[j] = x at d0 hO HV
          obtain ⟨xl, xv⟩ := x
          obtain ⟨ax, cx, ex⟩ := hO.form
          simp only at ex d0 HV
          subst ex
          rw [HV.out]
          have hlt2 : (j : Int) < (mk.length : Int) := by omega
          have hge : decide ((mk.length : Int) ≤ (j : Int)) = false := decide_eq_false (by omega)
          have D0 := hid d0
          have hgl := hg
          clear hc hO hoa0 hin d0
          go_enter Tryd.func13, Tryd.ntmps13
          go_wp2_with (first
            | (go_at_call 11; refine (rTable_any _).mono ?_; rintro e w1 ⟨rfl, hw1⟩; have hb1 := (show ∀ {p : World} {c : Array Value} {g : Nat} {e : TypeId}, Blk p g c e → w1 = p.alloc (.cells tabA 34) → Bw p w1 from fun _ h => h ▸ Bw.alloc (Bw.refl _) _) HPI.out hw1; have ht1 := (show ∀ {p : World}, w1 = p.alloc (.cells tabA 34) → Blk w1 p.heap.size tabA 34 from fun h => h ▸ Blk.new _ _ _) hw1; simp only [World.size_alloc] at ht1; have HB1 := hid (show Bw w w1 from Bw.trans (Bw.alloc (Bw.alloc (Bw.refl w) _) _) hb1); have u1 := (HPI.out.bw hb1).cell; have u2 := (HPN.out.bw hb1).cell; have ul1 := (HPI.out.bw hb1).lt; have ul2 := (HPN.out.bw hb1).lt; have vl := ht1.lt; obtain ⟨c0, c1, c2⟩ := tab_cells ht1 hk33 HOA.out; have d1 := (World.cell?_of_block (w := w) (w' := w1) (a := ⟨g, o + j, none⟩) (HB1.out.block g hgl)).trans D0.out; have hgl1 := Nat.lt_of_lt_of_le hgl HB1.out.size; clear hw1 hb1 ht1)
            | fail)
          go_quiet (fail)
          go_wp2
          all_goals
            refine bodyPost_ret (v := .tuple #[.int .i64 (xl.length : Int), .int .i64 oa.2.2.1, .int .i64 0]) (by simp [results, Tryd.results13, go_sem]) rfl ?_
            exact ⟨rfl, Bw.trans HB1.out (by repeat (first | exact Bw.refl _ | apply Bw.alloc | apply Bw.drewN | apply Bw.drew))⟩
        · have HV := hid (HEN.out (by rw [HT.out, if_neg (by simpa using hin)]))
          rw [HV.out]
          clear hoa0
          by_cases ha0 : a < 0
          · clear hin
            go_enter Tryd.func13, Tryd.ntmps13
            go_wp2_with (first
              | (go_at_call 11; refine (rTable_any _).mono ?_; rintro e w1 ⟨rfl, hw1⟩; have hb1 := (show ∀ {p : World} {c : Array Value} {g : Nat} {e : TypeId}, Blk p g c e → w1 = p.alloc (.cells tabA 34) → Bw p w1 from fun _ h => h ▸ Bw.alloc (Bw.refl _) _) HPI.out hw1; have ht1 := (show ∀ {p : World}, w1 = p.alloc (.cells tabA 34) → Blk w1 p.heap.size tabA 34 from fun h => h ▸ Blk.new _ _ _) hw1; simp only [World.size_alloc] at ht1; have HB1 := hid (show Bw w w1 from Bw.trans (Bw.alloc (Bw.alloc (Bw.refl w) _) _) hb1); have u1 := (HPI.out.bw hb1).cell; have u2 := (HPN.out.bw hb1).cell; have ul1 := (HPI.out.bw hb1).lt; have ul2 := (HPN.out.bw hb1).lt; have vl := ht1.lt; obtain ⟨c0, c1, c2⟩ := tab_cells ht1 hk33 HOA.out; clear hw1 hb1 ht1)
              | fail)
            all_goals
              refine bodyPost_ret (v := .tuple #[.int .i64 0, .int .i64 0, .int .i64 1]) (by simp [results, Tryd.results13, go_sem]) rfl ?_
              exact ⟨rfl, Bw.trans HB1.out (by repeat (first | exact Bw.refl _ | apply Bw.alloc | apply Bw.drewN | apply Bw.drew))⟩
          · have hge : decide ((mk.length : Int) ≤ a) = true := decide_eq_true (by omega)
            clear hin
            go_enter Tryd.func13, Tryd.ntmps13
            go_wp2_with (first
              | (go_at_call 11; refine (rTable_any _).mono ?_; rintro e w1 ⟨rfl, hw1⟩; have hb1 := (show ∀ {p : World} {c : Array Value} {g : Nat} {e : TypeId}, Blk p g c e → w1 = p.alloc (.cells tabA 34) → Bw p w1 from fun _ h => h ▸ Bw.alloc (Bw.refl _) _) HPI.out hw1; have ht1 := (show ∀ {p : World}, w1 = p.alloc (.cells tabA 34) → Blk w1 p.heap.size tabA 34 from fun h => h ▸ Blk.new _ _ _) hw1; simp only [World.size_alloc] at ht1; have HB1 := hid (show Bw w w1 from Bw.trans (Bw.alloc (Bw.alloc (Bw.refl w) _) _) hb1); have u1 := (HPI.out.bw hb1).cell; have u2 := (HPN.out.bw hb1).cell; have ul1 := (HPI.out.bw hb1).lt; have ul2 := (HPN.out.bw hb1).lt; have vl := ht1.lt; obtain ⟨c0, c1, c2⟩ := tab_cells ht1 hk33 HOA.out; clear hw1 hb1 ht1)
              | fail)
            all_goals
              refine bodyPost_ret (v := .tuple #[.int .i64 0, .int .i64 0, .int .i64 1]) (by simp [results, Tryd.results13, go_sem]) rfl ?_
              exact ⟨rfl, Bw.trans HB1.out (by repeat (first | exact Bw.refl _ | apply Bw.alloc | apply Bw.drewN | apply Bw.drew))⟩
      · have HV := hid (HEM.out 0 (by unfold takenM; rw [if_neg h14, if_neg h15]))
        rw [HV.out, Int.add_zero]
        have n15 : ((k : Int) == 15) = false := by simp; omega
        clear h14 h15 hbo
        go_enter Tryd.func13, Tryd.ntmps13
        go_wp2_with (first
          | (go_at_call 11; refine (rTable_any _).mono ?_; rintro e w1 ⟨rfl, hw1⟩; have hb1 := (show ∀ {p : World} {c : Array Value} {g : Nat} {e : TypeId}, Blk p g c e → w1 = p.alloc (.cells tabA 34) → Bw p w1 from fun _ h => h ▸ Bw.alloc (Bw.refl _) _) HPI.out hw1; have ht1 := (show ∀ {p : World}, w1 = p.alloc (.cells tabA 34) → Blk w1 p.heap.size tabA 34 from fun h => h ▸ Blk.new _ _ _) hw1; simp only [World.size_alloc] at ht1; have HB1 := hid (show Bw w w1 from Bw.trans (Bw.alloc (Bw.alloc (Bw.refl w) _) _) hb1); have u1 := (HPI.out.bw hb1).cell; have u2 := (HPN.out.bw hb1).cell; have ul1 := (HPI.out.bw hb1).lt; have ul2 := (HPN.out.bw hb1).lt; have vl := ht1.lt; obtain ⟨c0, c1, c2⟩ := tab_cells ht1 hk33 HOA.out; clear hw1 hb1 ht1)
          | fail)
        go_quiet (fail)
        go_wp2
        all_goals
          refine bodyPost_ret (v := .tuple #[.int .i64 oa.2.1, .int .i64 oa.2.2.1, .int .i64 0]) (by simp [results, Tryd.results13, go_sem]) rfl ?_
          exact ⟨rfl, Bw.trans HB1.out (by repeat (first | exact Bw.refl _ | apply Bw.alloc | apply Bw.drewN | apply Bw.drew))⟩

end

end Go.Proofs.YtmhjfkhcpfihfaaDoor
