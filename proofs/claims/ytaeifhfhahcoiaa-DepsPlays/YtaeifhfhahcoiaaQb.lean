/- The document's Add: the contract. -/
import Derived.Test.YtaeifhfhahcoiaaQa
set_option linter.unusedSimpArgs false
set_option linter.unusedVariables false
namespace Go.Proofs.Ytaeifhfhahcoiaa
open Go Go.RowKit

theorem box3 {w : World} {A : Nat} {T : TypeId} {c0 c1 c2 : Value} (h : Blk w A #[c0, c1, c2] T) : w.cell? ⟨A, 0, none⟩ = some c0 ∧ w.cell? ⟨A, 1, none⟩ = some c1 ∧ w.cell? ⟨A, 2, none⟩ = some c2 ∧ A < w.heap.size := ⟨h.cell 0, h.cell 1, h.cell 2, h.lt⟩

theorem lastI_neg {l : List Nat} (h : l = []) : lastI l = -1 := by rw [h]; rfl
theorem lastI_pos {l : List Nat} (h : l ≠ []) : 0 ≤ lastI l := by
  unfold lastI
  cases hg : l.getLast? with
  | none => exact absurd (List.getLast?_eq_none_iff.1 hg) h
  | some i => simp

set_option maxRecDepth 100000 in
set_option maxHeartbeats 2000000 in
theorem rAdd_noa {w : World} {GG G2 : Nat → Prop} {F G : Nat} {av a : Option Addr} {cv c : Nat} {L : List (VV × Value)} (h : RS w GG (.slice av L.length cv) L) (hG : G ≤ 1024) (f : Int) (l : List (Int × Int)) (hs : Sl w G2 (.slice a l.length c) l.length 2 (depC l)) (hm : l.length ≤ 1000) (y : f < 0) : Calls Try.prog 24 #[.agg #[.int .i64 F, .int .i64 G, .slice av L.length cv], .int .i64 f, .slice a l.length c] w fun e w' => e = .returned (.tuple #[.agg #[.int .i64 F, .int .i64 G, .slice av L.length cv], .int .i64 0, .int .i64 1]) ∧ Bw w w' := by
  clear h hs
  go_enter Try.func24, Try.ntmps24
  go_wp2
  all_goals exact bodyPost_ret (v := .tuple #[.agg #[.int .i64 F, .int .i64 G, .slice av L.length cv], .int .i64 0, .int .i64 1]) (by simp [results, Try.results24, go_sem, *]) rfl ⟨rfl, (by repeat (first | exact Bw.refl _ | apply Bw.alloc | apply Bw.drewN | apply Bw.drew))⟩

set_option maxRecDepth 100000 in
set_option maxHeartbeats 2000000 in
theorem rAdd_nob {w : World} {GG G2 : Nat → Prop} {F G : Nat} {av a : Option Addr} {cv c : Nat} {L : List (VV × Value)} (h : RS w GG (.slice av L.length cv) L) (hG : G ≤ 1024) (f : Int) (l : List (Int × Int)) (hs : Sl w G2 (.slice a l.length c) l.length 2 (depC l)) (hm : l.length ≤ 1000) (n : ¬ f < 0) (y : (F : Int) ≤ f) : Calls Try.prog 24 #[.agg #[.int .i64 F, .int .i64 G, .slice av L.length cv], .int .i64 f, .slice a l.length c] w fun e w' => e = .returned (.tuple #[.agg #[.int .i64 F, .int .i64 G, .slice av L.length cv], .int .i64 0, .int .i64 1]) ∧ Bw w w' := by
  have d0 : decide (f < 0) = false := decide_eq_false n
  clear h hs
  go_enter Try.func24, Try.ntmps24
  go_wp2
  all_goals exact bodyPost_ret (v := .tuple #[.agg #[.int .i64 F, .int .i64 G, .slice av L.length cv], .int .i64 0, .int .i64 1]) (by simp [results, Try.results24, go_sem, *]) rfl ⟨rfl, (by repeat (first | exact Bw.refl _ | apply Bw.alloc | apply Bw.drewN | apply Bw.drew))⟩

set_option maxRecDepth 100000 in
set_option maxHeartbeats 2000000 in
theorem rAdd_no2 {w : World} {GG G2 : Nat → Prop} {F G : Nat} {av a : Option Addr} {cv c : Nat} {L : List (VV × Value)} (h : RS w GG (.slice av L.length cv) L) (hG : G ≤ 1024) (f : Int) (l : List (Int × Int)) (hs : Sl w G2 (.slice a l.length c) l.length 2 (depC l)) (hm : l.length ≤ 1000) (h1 : 0 ≤ f ∧ f < F) (hn : nms G l = false) : Calls Try.prog 24 #[.agg #[.int .i64 F, .int .i64 G, .slice av L.length cv], .int .i64 f, .slice a l.length c] w fun e w' => e = .returned (.tuple #[.agg #[.int .i64 F, .int .i64 G, .slice av L.length cv], .int .i64 0, .int .i64 1]) ∧ Bw w w' := by
  have HR := hid h
  have HS := hid hs
  have hll := h.big.1
  have d0 : decide (f < 0) = false := decide_eq_false (by omega)
  have d1 : decide ((F : Int) ≤ f) = false := decide_eq_false (by omega)
  clear h hs
  go_enter Try.func24, Try.ntmps24
  go_wp2
  go_loopw [9] (fun j wr => ∃ (i d : Nat), i ≤ l.length ∧ j = .int .i64 i ∧ wr = ((w.alloc (.cells #[.int .i64 F, .int .i64 G, .slice av L.length cv] 31)).alloc (.cells #[.int .i64 0, .int .i64 0, .slice none 0 0] 31)).drewN d ∧ nmsP G l i) (fun j _ => l.length - (intOf j).toNat)
  case atStart => exact ⟨0, 0, by omega, rfl, rfl, nmsP_zero G l⟩
  case round =>
    obtain ⟨i, d, hi, rfl, rfl, hnm⟩ := hrel
    have HNM := hid hnm
    clear hnm
    by_cases h4 : i < l.length
    · have h4' : (i : Int) < (l.length : Int) := by omega
      obtain ⟨b, o, e, hlb, x0, x1⟩ := HS.out.two h4
      subst e
      obtain ⟨q0, q1⟩ := depC_get l i h4
      rw [q0] at x0
      have HBAD := hid (fun (hh : ¬ (0 ≤ l[i].1 ∧ l[i].1 < G)) => nms_no (G := G) (l := l) (fun hp => hh (hp i h4 h4).1))
      have HDUP := hid (fun (k : Nat) (hk : k < i) (hh : l[k].1 = l[i].1) => nms_no (G := G) (l := l) (fun hp => (hp i h4 h4).2 k hk hh))
      have HGO := hid (fun (h1 : 0 ≤ l[i].1 ∧ l[i].1 < G) (h2 : ∀ k (hk : k < i), l[k].1 ≠ l[i].1) => nmsP_succ HNM.out h4 h1 h2)
      have HAT := hid (fun (k : Nat) (hk : k < i) => (depC_get l k (by omega)).1)
      obtain ⟨y, hy⟩ : ∃ y, l[i].1 = y := ⟨_, rfl⟩
      rw [hy] at x0 HBAD HDUP HGO
      clear q0 q1 x1 hy
      by_cases g0 : y < 0
      · have HX := hid (HBAD.out (by omega))
        have z0 : decide (y < 0) = true := decide_eq_true g0
        clear g0
        go_wp2
        go_quiet (fail)
        go_wp2
        all_goals exact bodyPost_ret (v := .tuple #[.agg #[.int .i64 F, .int .i64 G, .slice av L.length cv], .int .i64 0, .int .i64 1]) (by simp [results, Try.results24, go_sem, *]) rfl ⟨rfl, (by repeat (first | exact Bw.refl _ | apply Bw.alloc | apply Bw.drewN | apply Bw.drew))⟩
      · by_cases g1 : (G : Int) ≤ y
        · have HX := hid (HBAD.out (by omega))
          have z0 : decide (y < 0) = false := decide_eq_false g0
          have z1 : decide ((G : Int) ≤ y) = true := decide_eq_true g1
          clear g0 g1
          go_wp2
          go_quiet (fail)
          go_wp2
          all_goals exact bodyPost_ret (v := .tuple #[.agg #[.int .i64 F, .int .i64 G, .slice av L.length cv], .int .i64 0, .int .i64 1]) (by simp [results, Try.results24, go_sem, *]) rfl ⟨rfl, (by repeat (first | exact Bw.refl _ | apply Bw.alloc | apply Bw.drewN | apply Bw.drew))⟩
        · have z0 : decide (y < 0) = false := decide_eq_false g0
          have z1 : decide ((G : Int) ≤ y) = false := decide_eq_false g1
          have HYR := hid (show 0 ≤ y ∧ y < G from ⟨by omega, by omega⟩)
          clear g0 g1
          go_wp2
          go_quiet (fail)
          go_wp2
          go_loopw [10] (fun j ws => ∃ (k d2 : Nat), k ≤ i ∧ j = .int .i64 k ∧ ws = ((w.alloc (.cells #[.int .i64 F, .int .i64 G, .slice av L.length cv] 31)).alloc (.cells #[.int .i64 0, .int .i64 0, .slice none 0 0] 31)).drewN d2 ∧ ∀ m (hm : m < k) (hmi : m < i), l[m].1 ≠ y) (fun j _ => i - (intOf j).toNat)
          case atStart => refine ⟨0, _, by omega, rfl, (by first | exact rfl | (simp; exact rfl)), fun m hm => absurd hm (Nat.not_lt_zero m)⟩
          case round =>
            obtain ⟨k, d2, hk, rfl, rfl, hno⟩ := hrel
            have HNN := hid hno
            clear hno
            by_cases h5 : k < i
            · have h5' : (k : Int) < (i : Int) := by omega
              have h5l : (k : Int) < (l.length : Int) := by omega
              obtain ⟨b2, o2, e2, hlb2, t0, t1⟩ := HS.out.two (i := k) (by omega)
              cases e2
              rw [HAT.out k h5] at t0
              have HDK := hid (HDUP.out k h5)
              have HN2 := hid (fun (e : l[k].1 ≠ y) m (hm : m < k + 1) (hmi : m < i) => if e2 : m = k then (show l[m].1 ≠ y by subst e2; exact e) else HNN.out m (by omega) hmi)
              obtain ⟨z, hz⟩ : ∃ z, l[k].1 = z := ⟨_, rfl⟩
              rw [hz] at t0 HDK HN2
              clear t1 hz
              by_cases g2 : z = y
              · have HX := hid (HDK.out g2)
                have g3 : (z == y) = true := by simp [g2]
                clear g2
                go_wp2
                go_quiet (fail)
                go_wp2
                all_goals exact bodyPost_ret (v := .tuple #[.agg #[.int .i64 F, .int .i64 G, .slice av L.length cv], .int .i64 0, .int .i64 1]) (by simp [results, Try.results24, go_sem, *]) rfl ⟨rfl, (by repeat (first | exact Bw.refl _ | apply Bw.alloc | apply Bw.drewN | apply Bw.drew))⟩
              · have g3 : (z == y) = false := by simp [g2]
                have HN3 := hid (HN2.out g2)
                clear g2
                go_wp2
                go_quiet (fail)
                go_wp2
                go_roundw
                all_goals first
                  | exact ⟨k + 1, _, by omega, by go_num, rfl, HN3.out⟩
                  | exact ⟨k + 1, d2 + 1, by omega, by go_num, by simp, HN3.out⟩
                  | (simp [intOf]; omega)
            · have h5' : ¬ (k : Int) < (i : Int) := by omega
              obtain rfl : k = i := by omega
              have HI := hid (HGO.out HYR.out (fun m hm => HNN.out m hm hm))
              go_wp2
              go_roundw
              all_goals first
                | exact ⟨k + 1, d2, by omega, by go_num, rfl, HI.out⟩
                | exact ⟨k + 1, _, by omega, by go_num, rfl, HI.out⟩
                | (simp [intOf]; omega)
    · have h4' : ¬ (i : Int) < (l.length : Int) := by omega
      obtain rfl : i = l.length := by omega
      have HNT := hid (nms_iff.2 HNM.out)
      rw [hn] at HNT
      exact absurd HNT.out (by simp)
set_option maxRecDepth 100000 in
set_option maxHeartbeats 2000000 in
theorem rAdd_no3 {w : World} {GG G2 : Nat → Prop} {F G : Nat} {av a : Option Addr} {cv c : Nat} {L : List (VV × Value)} (h : RS w GG (.slice av L.length cv) L) (hG : G ≤ 1024) (f : Int) (l : List (Int × Int)) (hs : Sl w G2 (.slice a l.length c) l.length 2 (depC l)) (hm : l.length ≤ 1000) (h1 : 0 ≤ f ∧ f < F) (hn : nms G l = true) {N : Nat} {I : Int} (hv1 : cnt f (L.map Prod.fst) = N) (hv2 : lastI (all (vof f) (L.map Prod.fst)) = I) (hI : 0 ≤ I) : Calls Try.prog 24 #[.agg #[.int .i64 F, .int .i64 G, .slice av L.length cv], .int .i64 f, .slice a l.length c] w fun e w' => e = .returned (.tuple #[.agg #[.int .i64 F, .int .i64 G, .slice av L.length cv], .int .i64 0, .int .i64 7]) ∧ Bw w w' := by
  have HN := hid hn
  clear hn
  have HR := hid h
  have HS := hid hs
  have hll := h.big.1
  have d0 : decide (f < 0) = false := decide_eq_false (by omega)
  have d1 : decide ((F : Int) ≤ f) = false := decide_eq_false (by omega)
  clear h hs
  go_enter Try.func24, Try.ntmps24
  go_wp2
  go_loopw [9] (fun j wr => ∃ (i d : Nat), i ≤ l.length ∧ j = .int .i64 i ∧ wr = ((w.alloc (.cells #[.int .i64 F, .int .i64 G, .slice av L.length cv] 31)).alloc (.cells #[.int .i64 0, .int .i64 0, .slice none 0 0] 31)).drewN d ∧ nmsP G l i) (fun j _ => l.length - (intOf j).toNat)
  case atStart => exact ⟨0, 0, by omega, rfl, rfl, nmsP_zero G l⟩
  case round =>
    obtain ⟨i, d, hi, rfl, rfl, hnm⟩ := hrel
    have HNM := hid hnm
    clear hnm
    by_cases h4 : i < l.length
    · have h4' : (i : Int) < (l.length : Int) := by omega
      obtain ⟨b, o, e, hlb, x0, x1⟩ := HS.out.two h4
      subst e
      obtain ⟨q0, q1⟩ := depC_get l i h4
      rw [q0] at x0
      have HBAD := hid (fun (hh : ¬ (0 ≤ l[i].1 ∧ l[i].1 < G)) => nms_no (G := G) (l := l) (fun hp => hh (hp i h4 h4).1))
      have HDUP := hid (fun (k : Nat) (hk : k < i) (hh : l[k].1 = l[i].1) => nms_no (G := G) (l := l) (fun hp => (hp i h4 h4).2 k hk hh))
      have HGO := hid (fun (h1 : 0 ≤ l[i].1 ∧ l[i].1 < G) (h2 : ∀ k (hk : k < i), l[k].1 ≠ l[i].1) => nmsP_succ HNM.out h4 h1 h2)
      have HAT := hid (fun (k : Nat) (hk : k < i) => (depC_get l k (by omega)).1)
      obtain ⟨y, hy⟩ : ∃ y, l[i].1 = y := ⟨_, rfl⟩
      rw [hy] at x0 HBAD HDUP HGO
      clear q0 q1 x1 hy
      by_cases g0 : y < 0
      · have HX := hid (HBAD.out (by omega))
        have z0 : decide (y < 0) = true := decide_eq_true g0
        clear g0
        go_wp2
        go_quiet (fail)
        go_wp2
        exact absurd HX.out (by rw [HN.out]; simp)
      · by_cases g1 : (G : Int) ≤ y
        · have HX := hid (HBAD.out (by omega))
          have z0 : decide (y < 0) = false := decide_eq_false g0
          have z1 : decide ((G : Int) ≤ y) = true := decide_eq_true g1
          clear g0 g1
          go_wp2
          go_quiet (fail)
          go_wp2
          exact absurd HX.out (by rw [HN.out]; simp)
        · have z0 : decide (y < 0) = false := decide_eq_false g0
          have z1 : decide ((G : Int) ≤ y) = false := decide_eq_false g1
          have HYR := hid (show 0 ≤ y ∧ y < G from ⟨by omega, by omega⟩)
          clear g0 g1
          go_wp2
          go_quiet (fail)
          go_wp2
          go_loopw [10] (fun j ws => ∃ (k d2 : Nat), k ≤ i ∧ j = .int .i64 k ∧ ws = ((w.alloc (.cells #[.int .i64 F, .int .i64 G, .slice av L.length cv] 31)).alloc (.cells #[.int .i64 0, .int .i64 0, .slice none 0 0] 31)).drewN d2 ∧ ∀ m (hm : m < k) (hmi : m < i), l[m].1 ≠ y) (fun j _ => i - (intOf j).toNat)
          case atStart => refine ⟨0, _, by omega, rfl, (by first | exact rfl | (simp; exact rfl)), fun m hm => absurd hm (Nat.not_lt_zero m)⟩
          case round =>
            obtain ⟨k, d2, hk, rfl, rfl, hno⟩ := hrel
            have HNN := hid hno
            clear hno
            by_cases h5 : k < i
            · have h5' : (k : Int) < (i : Int) := by omega
              have h5l : (k : Int) < (l.length : Int) := by omega
              obtain ⟨b2, o2, e2, hlb2, t0, t1⟩ := HS.out.two (i := k) (by omega)
              cases e2
              rw [HAT.out k h5] at t0
              have HDK := hid (HDUP.out k h5)
              have HN2 := hid (fun (e : l[k].1 ≠ y) m (hm : m < k + 1) (hmi : m < i) => if e2 : m = k then (show l[m].1 ≠ y by subst e2; exact e) else HNN.out m (by omega) hmi)
              obtain ⟨z, hz⟩ : ∃ z, l[k].1 = z := ⟨_, rfl⟩
              rw [hz] at t0 HDK HN2
              clear t1 hz
              by_cases g2 : z = y
              · have HX := hid (HDK.out g2)
                have g3 : (z == y) = true := by simp [g2]
                clear g2
                go_wp2
                go_quiet (fail)
                go_wp2
                exact absurd HX.out (by rw [HN.out]; simp)
              · have g3 : (z == y) = false := by simp [g2]
                have HN3 := hid (HN2.out g2)
                clear g2
                go_wp2
                go_quiet (fail)
                go_wp2
                go_roundw
                all_goals first
                  | exact ⟨k + 1, _, by omega, by go_num, rfl, HN3.out⟩
                  | exact ⟨k + 1, d2 + 1, by omega, by go_num, by simp, HN3.out⟩
                  | (simp [intOf]; omega)
            · have h5' : ¬ (k : Int) < (i : Int) := by omega
              obtain rfl : k = i := by omega
              have HI := hid (HGO.out HYR.out (fun m hm => HNN.out m hm hm))
              go_wp2
              go_roundw
              all_goals first
                | exact ⟨k + 1, d2, by omega, by go_num, rfl, HI.out⟩
                | exact ⟨k + 1, _, by omega, by go_num, rfl, HI.out⟩
                | (simp [intOf]; omega)
    · have h4' : ¬ (i : Int) < (l.length : Int) := by omega
      obtain rfl : i = l.length := by omega
      have HNT := hid (nms_iff.2 HNM.out)
      have HV1 := hid hv1
      have HV2 := hid hv2
      go_wp2_with (first
        | (go_at_call 27; refine (rVersions_any (HR.out.bw (Bw.drewN (Bw.alloc (Bw.alloc (Bw.refl _) _) _) _)) f).mono ?_; rintro e w1 ⟨he, hb1⟩; rw [HV1.out, HV2.out] at he; subst he; have BP := (Blk.bw (show Blk (((w.alloc (.cells #[.int .i64 F, .int .i64 G, .slice av L.length cv] 31)).alloc (.cells #[.int .i64 0, .int .i64 0, .slice none 0 0] 31)).drewN d) w.heap.size #[.int .i64 F, .int .i64 G, .slice av L.length cv] 31 from Blk.drewN (Blk.alloc (Blk.new w _ _) _) d) hb1); have BR := (Blk.bw (show Blk (((w.alloc (.cells #[.int .i64 F, .int .i64 G, .slice av L.length cv] 31)).alloc (.cells #[.int .i64 0, .int .i64 0, .slice none 0 0] 31)).drewN d) (w.heap.size + 1) #[.int .i64 0, .int .i64 0, .slice none 0 0] 31 from Blk.drewN (Blk.newAt _ _ _ _ (by simp only [World.size_alloc])) d) hb1); obtain ⟨p0, p1, p2, pl⟩ := box3 BP; obtain ⟨r0, r1, r2, rl⟩ := box3 BR; have pf := BP.free; have rf := BR.free; have HB1 := hid (Bw.trans (a := w) (Bw.drewN (Bw.alloc (Bw.alloc (Bw.refl _) _) _) _) hb1); have HBP := hid BP; have HBR := hid BR; clear BP BR hb1)
        | fail)
      all_goals exact bodyPost_ret (v := .tuple #[.agg #[.int .i64 F, .int .i64 G, .slice av L.length cv], .int .i64 0, .int .i64 7]) (by simp [results, Try.results24, go_sem, *]) rfl ⟨rfl, Bw.setCell (Bw.setCell (Bw.setCell (HB1.out) (by show w.heap.size ≤ w.heap.size + 1; omega) _) (by show w.heap.size ≤ w.heap.size + 1; omega) _) (by show w.heap.size ≤ w.heap.size + 1; omega) _⟩
set_option maxRecDepth 100000 in
set_option maxHeartbeats 2000000 in
theorem rAdd_no4 {w : World} {GG G2 : Nat → Prop} {F G : Nat} {av a : Option Addr} {cv c : Nat} {L : List (VV × Value)} (h : RS w GG (.slice av L.length cv) L) (hG : G ≤ 1024) (f : Int) (l : List (Int × Int)) (hs : Sl w G2 (.slice a l.length c) l.length 2 (depC l)) (hm : l.length ≤ 1000) (h1 : 0 ≤ f ∧ f < F) (hn : nms G l = true) {N : Nat} {I : Int} (hv1 : cnt f (L.map Prod.fst) = N) (hv2 : lastI (all (vof f) (L.map Prod.fst)) = I) (hI : ¬ 0 ≤ I) (hN : (4 : Int) ≤ N) : Calls Try.prog 24 #[.agg #[.int .i64 F, .int .i64 G, .slice av L.length cv], .int .i64 f, .slice a l.length c] w fun e w' => e = .returned (.tuple #[.agg #[.int .i64 F, .int .i64 G, .slice av L.length cv], .int .i64 0, .int .i64 3]) ∧ Bw w w' := by
  have HN := hid hn
  clear hn
  have HR := hid h
  have HS := hid hs
  have hll := h.big.1
  have d0 : decide (f < 0) = false := decide_eq_false (by omega)
  have d1 : decide ((F : Int) ≤ f) = false := decide_eq_false (by omega)
  clear h hs
  go_enter Try.func24, Try.ntmps24
  go_wp2
  go_loopw [9] (fun j wr => ∃ (i d : Nat), i ≤ l.length ∧ j = .int .i64 i ∧ wr = ((w.alloc (.cells #[.int .i64 F, .int .i64 G, .slice av L.length cv] 31)).alloc (.cells #[.int .i64 0, .int .i64 0, .slice none 0 0] 31)).drewN d ∧ nmsP G l i) (fun j _ => l.length - (intOf j).toNat)
  case atStart => exact ⟨0, 0, by omega, rfl, rfl, nmsP_zero G l⟩
  case round =>
    obtain ⟨i, d, hi, rfl, rfl, hnm⟩ := hrel
    have HNM := hid hnm
    clear hnm
    by_cases h4 : i < l.length
    · have h4' : (i : Int) < (l.length : Int) := by omega
      obtain ⟨b, o, e, hlb, x0, x1⟩ := HS.out.two h4
      subst e
      obtain ⟨q0, q1⟩ := depC_get l i h4
      rw [q0] at x0
      have HBAD := hid (fun (hh : ¬ (0 ≤ l[i].1 ∧ l[i].1 < G)) => nms_no (G := G) (l := l) (fun hp => hh (hp i h4 h4).1))
      have HDUP := hid (fun (k : Nat) (hk : k < i) (hh : l[k].1 = l[i].1) => nms_no (G := G) (l := l) (fun hp => (hp i h4 h4).2 k hk hh))
      have HGO := hid (fun (h1 : 0 ≤ l[i].1 ∧ l[i].1 < G) (h2 : ∀ k (hk : k < i), l[k].1 ≠ l[i].1) => nmsP_succ HNM.out h4 h1 h2)
      have HAT := hid (fun (k : Nat) (hk : k < i) => (depC_get l k (by omega)).1)
      obtain ⟨y, hy⟩ : ∃ y, l[i].1 = y := ⟨_, rfl⟩
      rw [hy] at x0 HBAD HDUP HGO
      clear q0 q1 x1 hy
      by_cases g0 : y < 0
      · have HX := hid (HBAD.out (by omega))
        have z0 : decide (y < 0) = true := decide_eq_true g0
        clear g0
        go_wp2
        go_quiet (fail)
        go_wp2
        exact absurd HX.out (by rw [HN.out]; simp)
      · by_cases g1 : (G : Int) ≤ y
        · have HX := hid (HBAD.out (by omega))
          have z0 : decide (y < 0) = false := decide_eq_false g0
          have z1 : decide ((G : Int) ≤ y) = true := decide_eq_true g1
          clear g0 g1
          go_wp2
          go_quiet (fail)
          go_wp2
          exact absurd HX.out (by rw [HN.out]; simp)
        · have z0 : decide (y < 0) = false := decide_eq_false g0
          have z1 : decide ((G : Int) ≤ y) = false := decide_eq_false g1
          have HYR := hid (show 0 ≤ y ∧ y < G from ⟨by omega, by omega⟩)
          clear g0 g1
          go_wp2
          go_quiet (fail)
          go_wp2
          go_loopw [10] (fun j ws => ∃ (k d2 : Nat), k ≤ i ∧ j = .int .i64 k ∧ ws = ((w.alloc (.cells #[.int .i64 F, .int .i64 G, .slice av L.length cv] 31)).alloc (.cells #[.int .i64 0, .int .i64 0, .slice none 0 0] 31)).drewN d2 ∧ ∀ m (hm : m < k) (hmi : m < i), l[m].1 ≠ y) (fun j _ => i - (intOf j).toNat)
          case atStart => refine ⟨0, _, by omega, rfl, (by first | exact rfl | (simp; exact rfl)), fun m hm => absurd hm (Nat.not_lt_zero m)⟩
          case round =>
            obtain ⟨k, d2, hk, rfl, rfl, hno⟩ := hrel
            have HNN := hid hno
            clear hno
            by_cases h5 : k < i
            · have h5' : (k : Int) < (i : Int) := by omega
              have h5l : (k : Int) < (l.length : Int) := by omega
              obtain ⟨b2, o2, e2, hlb2, t0, t1⟩ := HS.out.two (i := k) (by omega)
              cases e2
              rw [HAT.out k h5] at t0
              have HDK := hid (HDUP.out k h5)
              have HN2 := hid (fun (e : l[k].1 ≠ y) m (hm : m < k + 1) (hmi : m < i) => if e2 : m = k then (show l[m].1 ≠ y by subst e2; exact e) else HNN.out m (by omega) hmi)
              obtain ⟨z, hz⟩ : ∃ z, l[k].1 = z := ⟨_, rfl⟩
              rw [hz] at t0 HDK HN2
              clear t1 hz
              by_cases g2 : z = y
              · have HX := hid (HDK.out g2)
                have g3 : (z == y) = true := by simp [g2]
                clear g2
                go_wp2
                go_quiet (fail)
                go_wp2
                exact absurd HX.out (by rw [HN.out]; simp)
              · have g3 : (z == y) = false := by simp [g2]
                have HN3 := hid (HN2.out g2)
                clear g2
                go_wp2
                go_quiet (fail)
                go_wp2
                go_roundw
                all_goals first
                  | exact ⟨k + 1, _, by omega, by go_num, rfl, HN3.out⟩
                  | exact ⟨k + 1, d2 + 1, by omega, by go_num, by simp, HN3.out⟩
                  | (simp [intOf]; omega)
            · have h5' : ¬ (k : Int) < (i : Int) := by omega
              obtain rfl : k = i := by omega
              have HI := hid (HGO.out HYR.out (fun m hm => HNN.out m hm hm))
              go_wp2
              go_roundw
              all_goals first
                | exact ⟨k + 1, d2, by omega, by go_num, rfl, HI.out⟩
                | exact ⟨k + 1, _, by omega, by go_num, rfl, HI.out⟩
                | (simp [intOf]; omega)
    · have h4' : ¬ (i : Int) < (l.length : Int) := by omega
      obtain rfl : i = l.length := by omega
      have HNT := hid (nms_iff.2 HNM.out)
      have HV1 := hid hv1
      have HV2 := hid hv2
      go_wp2_with (first
        | (go_at_call 27; refine (rVersions_any (HR.out.bw (Bw.drewN (Bw.alloc (Bw.alloc (Bw.refl _) _) _) _)) f).mono ?_; rintro e w1 ⟨he, hb1⟩; rw [HV1.out, HV2.out] at he; subst he; have BP := (Blk.bw (show Blk (((w.alloc (.cells #[.int .i64 F, .int .i64 G, .slice av L.length cv] 31)).alloc (.cells #[.int .i64 0, .int .i64 0, .slice none 0 0] 31)).drewN d) w.heap.size #[.int .i64 F, .int .i64 G, .slice av L.length cv] 31 from Blk.drewN (Blk.alloc (Blk.new w _ _) _) d) hb1); have BR := (Blk.bw (show Blk (((w.alloc (.cells #[.int .i64 F, .int .i64 G, .slice av L.length cv] 31)).alloc (.cells #[.int .i64 0, .int .i64 0, .slice none 0 0] 31)).drewN d) (w.heap.size + 1) #[.int .i64 0, .int .i64 0, .slice none 0 0] 31 from Blk.drewN (Blk.newAt _ _ _ _ (by simp only [World.size_alloc])) d) hb1); obtain ⟨p0, p1, p2, pl⟩ := box3 BP; obtain ⟨r0, r1, r2, rl⟩ := box3 BR; have pf := BP.free; have rf := BR.free; have HB1 := hid (Bw.trans (a := w) (Bw.drewN (Bw.alloc (Bw.alloc (Bw.refl _) _) _) _) hb1); have HBP := hid BP; have HBR := hid BR; clear BP BR hb1)
        | fail)
      all_goals exact bodyPost_ret (v := .tuple #[.agg #[.int .i64 F, .int .i64 G, .slice av L.length cv], .int .i64 0, .int .i64 3]) (by simp [results, Try.results24, go_sem, *]) rfl ⟨rfl, Bw.setCell (Bw.setCell (Bw.setCell (HB1.out) (by show w.heap.size ≤ w.heap.size + 1; omega) _) (by show w.heap.size ≤ w.heap.size + 1; omega) _) (by show w.heap.size ≤ w.heap.size + 1; omega) _⟩

end Go.Proofs.Ytaeifhfhahcoiaa
