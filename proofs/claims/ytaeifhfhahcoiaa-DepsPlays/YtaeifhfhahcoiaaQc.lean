/- The document's Add, of what may be added: the contract. -/
import Derived.Test.YtaeifhfhahcoiaaQb
import Derived.Test.YtaeifhfhahcoiaaWA
import Derived.Test.YtaeifhfhahcoiaaPe
set_option linter.unusedSimpArgs false
set_option linter.unusedVariables false
namespace Go.Proofs.Ytaeifhfhahcoiaa
open Go Go.RowKit

theorem rowC_one {w : World} {GG : Nat → Prop} {L : List (VV × Value)} (h : ∀ q ∈ L, Sl w GG q.2 q.1.on.length 2 (depC q.1.on)) : ∀ u ∈ rowC L, u.oneCell' = true := by
  intro u hu
  obtain ⟨q, hq, hqu⟩ := List.mem_flatMap.1 hu
  simp [verC] at hqu
  rcases hqu with rfl | rfl | rfl
  · rfl
  · exact sl_one (h q hq)
  · rfl

theorem radd_fin {w w1 W0 w6 X : World} {GG : Nat → Prop} {v0 v3 v6 : Value} {L : List (VV × Value)} {x : VV} (h : RS w GG v0 L) (hB1 : Bw w w1) (hs1 : w.heap.size + 2 ≤ w1.heap.size) (h3 : W0.ownsRow w1.heap.size 61 2 v3 x.on.length (depC x.on)) (h10 : Bw w1 W0) (h6 : Bw W0 w6)
    (hr : Rw W0 w6 45 3 v6 (L.length + 1) (rowC L ++ verC (x, v3))) (hx : Ex [w.heap.size, w.heap.size + 1] w6 X) (hL : L.length < 1000) (hm : x.on.length ≤ 1000) :
    Bw w X ∧ RS X (fun b => GG b ∨ w.heap.size ≤ b) v6 (L ++ [(x, v3)]) := by
  have hb6 : Bw w w6 := (hB1.trans h10).trans h6
  have hW := h10.size
  have h66 := h6.size
  have hk : ∀ b, b < w6.heap.size → b ≠ w.heap.size → b ≠ w.heap.size + 1 → X.heap[b]? = w6.heap[b]? := fun b hb h1 h2 => hx.block b hb (by simp; omega)
  refine ⟨⟨hx.os.trans hb6.os, hx.tape.trans hb6.tape, hx.output.trans hb6.output, Nat.le_trans hb6.size hx.size, fun b hb => (hk b (Nat.lt_of_lt_of_le hb hb6.size) (by omega) (by omega)).trans (hb6.block b hb)⟩, ?_, ?_, ⟨by simp; omega, ?_⟩⟩
  · have hs := (hr.keep (w' := X) (fun b hb => hk b (hr.lt hb) (by have := hr.2 b hb; omega) (by have := hr.2 b hb; omega))).sl
    rw [rowC_snoc, List.length_append]
    exact hs.keep (Nat.le_refl _) (fun _ _ _ => rfl) (fun b _ hG => .inr (by omega))
  · intro q hq
    rcases List.mem_append.1 hq with hq | hq
    · exact (h.ons q hq).keep (Nat.le_trans hb6.size hx.size) (fun b hb hG => (hk b (Nat.lt_of_lt_of_le hb hb6.size) (by omega) (by omega)).trans (hb6.block b hb)) (fun b hb hG => .inl hG)
    · obtain rfl := List.mem_singleton.1 hq
      have hv := fun b (e : v3.ownBlock = some b) => h3.lt b e
      exact ((own_slb h3).below h6).keep hx.size (fun b hb hG => hk b hb (by have := hv b hG; omega) (by have := hv b hG; omega)) (fun b hb hG => .inr (by have := hv b hG; omega))
  · intro q hq
    rcases List.mem_append.1 hq with hq | hq
    · exact h.big.2 q hq
    · obtain rfl := List.mem_singleton.1 hq
      exact hm

set_option maxRecDepth 100000 in
set_option maxHeartbeats 2000000 in
theorem rAdd_yes {w : World} {GG G2 : Nat → Prop} {F G : Nat} {av a : Option Addr} {cv c : Nat} {L : List (VV × Value)} (h : RS w GG (.slice av L.length cv) L) (hG : G ≤ 1024) (f : Int) (l : List (Int × Int)) (hs : Sl w G2 (.slice a l.length c) l.length 2 (depC l)) (hm : l.length ≤ 1000) (hL : L.length < 1000) (h1 : 0 ≤ f ∧ f < F) (hn : nms G l = true) {N : Nat} {I : Int} (hv1 : cnt f (L.map Prod.fst) = N) (hv2 : lastI (all (vof f) (L.map Prod.fst)) = I) (hI : ¬ 0 ≤ I) (hN : ¬ (4 : Int) ≤ N) : Calls Try.prog 24 #[.agg #[.int .i64 F, .int .i64 G, .slice av L.length cv], .int .i64 f, .slice a l.length c] w fun e w' => ∃ v' L', e = .returned (.tuple #[rV F G v', .int .i64 (L.length : Nat), .int .i64 0]) ∧ Bw w w' ∧ RS w' (fun b => GG b ∨ w.heap.size ≤ b) v' L' ∧ L'.map Prod.fst = L.map Prod.fst ++ [⟨f, l, true⟩] := by
  have HN := hid hn
  have HO1 := hid h.ons
  obtain ⟨i2, hi2, hz2, hs2, hy2⟩ := info_parts infoDp
  have I2 := hid (And.intro hi2 (And.intro hz2 (And.intro hs2 hy2)))
  obtain ⟨i3, hi3, hz3, hs3, hy3⟩ := info_parts infoRv
  have I3 := hid (And.intro hi3 (And.intro hz3 (And.intro hs3 hy3)))
  clear hn hi2 hz2 hs2 hy2 hi3 hz3 hs3 hy3
  have HR := hid h
  have HS := hid hs
  have hll := h.big.1
  have d0 : decide (f < 0) = false := decide_eq_false (by omega)
  have d1 : decide ((F : Int) ≤ f) = false := decide_eq_false (by omega)
  clear h hs
  go_enter Try.func24, Try.ntmps24
  go_wp2
  go_loopw [9] (fun j wr => ∃ (i d : Nat), i ≤ l.length ∧ j = .int .i64 i ∧ wr = ((w.alloc (.cells #[.int .i64 F, .int .i64 G, .slice av L.length cv] 31)).alloc (.cells #[.int .i64 0, .int .i64 0, .slice none 0 0] 31)).drewN d ∧ nmsP G l i) (fun j _ => l.length - (intOf j).toNat)
  case atStart => exact ⟨0, 0, by omega, rfl, rfl, nmsP_zero G l⟩
  case round =>
    obtain ⟨i, d, hi, rfl, rfl, hnm⟩ := hrel
    have HNM := hid hnm
    clear hnm
    by_cases h4 : i < l.length
    · have h4' : (i : Int) < (l.length : Int) := by omega
      obtain ⟨b, o, e, hlb, x0, x1⟩ := HS.out.two h4
      subst e
      obtain ⟨q0, q1⟩ := depC_get l i h4
      rw [q0] at x0
      have HBAD := hid (fun (hh : ¬ (0 ≤ l[i].1 ∧ l[i].1 < G)) => nms_no (G := G) (l := l) (fun hp => hh (hp i h4 h4).1))
      have HDUP := hid (fun (k : Nat) (hk : k < i) (hh : l[k].1 = l[i].1) => nms_no (G := G) (l := l) (fun hp => (hp i h4 h4).2 k hk hh))
      have HGO := hid (fun (h1 : 0 ≤ l[i].1 ∧ l[i].1 < G) (h2 : ∀ k (hk : k < i), l[k].1 ≠ l[i].1) => nmsP_succ HNM.out h4 h1 h2)
      have HAT := hid (fun (k : Nat) (hk : k < i) => (depC_get l k (by omega)).1)
      obtain ⟨y, hy⟩ : ∃ y, l[i].1 = y := ⟨_, rfl⟩
      rw [hy] at x0 HBAD HDUP HGO
      clear q0 q1 x1 hy
      by_cases g0 : y < 0
      · have HX := hid (HBAD.out (by omega))
        have z0 : decide (y < 0) = true := decide_eq_true g0
        clear g0
        go_wp2
        go_quiet (fail)
        go_wp2
        exact absurd HX.out (by rw [HN.out]; simp)
      · by_cases g1 : (G : Int) ≤ y
        · have HX := hid (HBAD.out (by omega))
          have z0 : decide (y < 0) = false := decide_eq_false g0
          have z1 : decide ((G : Int) ≤ y) = true := decide_eq_true g1
          clear g0 g1
          go_wp2
          go_quiet (fail)
          go_wp2
          exact absurd HX.out (by rw [HN.out]; simp)
        · have z0 : decide (y < 0) = false := decide_eq_false g0
          have z1 : decide ((G : Int) ≤ y) = false := decide_eq_false g1
          have HYR := hid (show 0 ≤ y ∧ y < G from ⟨by omega, by omega⟩)
          clear g0 g1
          go_wp2
          go_quiet (fail)
          go_wp2
          go_loopw [10] (fun j ws => ∃ (k d2 : Nat), k ≤ i ∧ j = .int .i64 k ∧ ws = ((w.alloc (.cells #[.int .i64 F, .int .i64 G, .slice av L.length cv] 31)).alloc (.cells #[.int .i64 0, .int .i64 0, .slice none 0 0] 31)).drewN d2 ∧ ∀ m (hm : m < k) (hmi : m < i), l[m].1 ≠ y) (fun j _ => i - (intOf j).toNat)
          case atStart => refine ⟨0, _, by omega, rfl, (by first | exact rfl | (simp; exact rfl)), fun m hm => absurd hm (Nat.not_lt_zero m)⟩
          case round =>
            obtain ⟨k, d2, hk, rfl, rfl, hno⟩ := hrel
            have HNN := hid hno
            clear hno
            by_cases h5 : k < i
            · have h5' : (k : Int) < (i : Int) := by omega
              have h5l : (k : Int) < (l.length : Int) := by omega
              obtain ⟨b2, o2, e2, hlb2, t0, t1⟩ := HS.out.two (i := k) (by omega)
              cases e2
              rw [HAT.out k h5] at t0
              have HDK := hid (HDUP.out k h5)
              have HN2 := hid (fun (e : l[k].1 ≠ y) m (hm : m < k + 1) (hmi : m < i) => if e2 : m = k then (show l[m].1 ≠ y by subst e2; exact e) else HNN.out m (by omega) hmi)
              obtain ⟨z, hz⟩ : ∃ z, l[k].1 = z := ⟨_, rfl⟩
              rw [hz] at t0 HDK HN2
              clear t1 hz
              by_cases g2 : z = y
              · have HX := hid (HDK.out g2)
                have g3 : (z == y) = true := by simp [g2]
                clear g2
                go_wp2
                go_quiet (fail)
                go_wp2
                exact absurd HX.out (by rw [HN.out]; simp)
              · have g3 : (z == y) = false := by simp [g2]
                have HN3 := hid (HN2.out g2)
                clear g2
                go_wp2
                go_quiet (fail)
                go_wp2
                go_roundw
                all_goals first
                  | exact ⟨k + 1, _, by omega, by go_num, rfl, HN3.out⟩
                  | exact ⟨k + 1, d2 + 1, by omega, by go_num, by simp, HN3.out⟩
                  | (simp [intOf]; omega)
            · have h5' : ¬ (k : Int) < (i : Int) := by omega
              obtain rfl : k = i := by omega
              have HI := hid (HGO.out HYR.out (fun m hm => HNN.out m hm hm))
              go_wp2
              go_roundw
              all_goals first
                | exact ⟨k + 1, d2, by omega, by go_num, rfl, HI.out⟩
                | exact ⟨k + 1, _, by omega, by go_num, rfl, HI.out⟩
                | (simp [intOf]; omega)
    · have h4' : ¬ (i : Int) < (l.length : Int) := by omega
      obtain rfl : i = l.length := by omega
      have HNT := hid (nms_iff.2 HNM.out)
      have HV1 := hid hv1
      have HV2 := hid hv2
      go_wp2_with (first
        | (go_at_call 27; refine (rVersions_any (HR.out.bw (Bw.drewN (Bw.alloc (Bw.alloc (Bw.refl _) _) _) _)) f).mono ?_; rintro e w1 ⟨he, hb1⟩; rw [HV1.out, HV2.out] at he; subst he; have BP := (Blk.bw (show Blk (((w.alloc (.cells #[.int .i64 F, .int .i64 G, .slice av L.length cv] 31)).alloc (.cells #[.int .i64 0, .int .i64 0, .slice none 0 0] 31)).drewN d) w.heap.size #[.int .i64 F, .int .i64 G, .slice av L.length cv] 31 from Blk.drewN (Blk.alloc (Blk.new w _ _) _) d) hb1); have BR := (Blk.bw (show Blk (((w.alloc (.cells #[.int .i64 F, .int .i64 G, .slice av L.length cv] 31)).alloc (.cells #[.int .i64 0, .int .i64 0, .slice none 0 0] 31)).drewN d) (w.heap.size + 1) #[.int .i64 0, .int .i64 0, .slice none 0 0] 31 from Blk.drewN (Blk.newAt _ _ _ _ (by simp only [World.size_alloc])) d) hb1); obtain ⟨p0, p1, p2, pl⟩ := box3 BP; obtain ⟨r0, r1, r2, rl⟩ := box3 BR; have pf := BP.free; have rf := BR.free; have HB1 := hid (Bw.trans (a := w) (Bw.drewN (Bw.alloc (Bw.alloc (Bw.refl _) _) _) _) hb1); have HBP := hid BP; have HBR := hid BR; clear BP BR hb1)
        | (at_builtin; refine wpList_append_sl _ rfl _ _ 37 rfl w1.heap.size 61 i2 _ 2 16 Try.underlying37 I2.out.1 I2.out.2.1 I2.out.2.2.1 I2.out.2.2.2 rfl (by decide) (.slice (some ⟨w1.heap.size, 0, none⟩) 0 0) 0 [] rfl (own_empty _ _ _ _ _ rfl (Nat.le_refl _)) (.slice a l.length c) l.length (depC l) rfl (HS.out.below (Bw.alloc HB1.out _)) (depC_one l) ?c3 ?c4 ?c5 ?_)
        | fail)
      case c3 => unfold maxLen; omega
      case c4 => omega
      case c5 => simp only [World.size_alloc]; omega
      intro v3 w3 hown hgr
      have hb13 := bw_grownAt (Bw.alloc (Bw.refl w1) (.cells #[] 61)) hgr (Nat.le_refl _)
      have hown2 : w3.ownsRow w1.heap.size 61 2 v3 l.length (depC l) := by simpa using hown
      obtain ⟨a3, c3, e3⟩ := own_form hown2
      subst e3
      have HO3 := hid hown2
      have HB13 := hid hb13
      have HB3 := hid (HB1.out.trans hb13)
      have HBP3 := hid (HBP.out.bw hb13)
      have HBR3 := hid (HBR.out.bw hb13)
      have HSZ := hid (show w.heap.size + 2 ≤ w1.heap.size by have := HBR.out.lt; omega)
      clear hown hgr hown2 hb13 p0 p1 p2 pl r0 r1 r2 rl pf rf
      go_wp2
      refine wp_region_W (fun w' => w'.cell? ⟨w.heap.size, 2, none⟩ = some (.slice av L.length cv) ∧ w'.cell? ⟨w3.heap.size, 0, none⟩ = some (.int .i64 f) ∧ w'.cell? ⟨w3.heap.size, 1, none⟩ = some (.slice a3 l.length c3) ∧ w'.cell? ⟨w3.heap.size, 2, none⟩ = some (.bool true)) (fun j => if j == 0 || j == 3 || j == 5 || j == 6 then 0 else if j == 8 then 2 else 1) (by kernel_rfl) ?_
      generalize hW0 : ((w3.alloc (.cells #[.int .i64 f, .slice a3 l.length c3, .bool true] 45)).drew) = W0
      have hB0 : Bw w3 W0 := by rw [← hW0]; exact Bw.drew (Bw.alloc (Bw.refl _) _)
      have bA : Blk W0 w3.heap.size #[.int .i64 f, .slice a3 l.length c3, .bool true] 45 := by rw [← hW0]; exact Blk.drewN (Blk.new w3 _ _) 1
      have bP := HBP3.out.bw hB0
      have bR := HBR3.out.bw hB0
      have hLs := hid (HR.out.row.below (HB3.out.trans hB0))
      have hS := hid (show ∀ W', Bw W0 W' → (fun w' => w'.cell? ⟨w.heap.size, 2, none⟩ = some (.slice av L.length cv) ∧ w'.cell? ⟨w3.heap.size, 0, none⟩ = some (.int .i64 f) ∧ w'.cell? ⟨w3.heap.size, 1, none⟩ = some (.slice a3 l.length c3) ∧ w'.cell? ⟨w3.heap.size, 2, none⟩ = some (.bool true)) W' from fun W' hb => ⟨(bP.bw hb).cell 2, (bA.bw hb).cell 0, (bA.bw hb).cell 1, (bA.bw hb).cell 2⟩)
      have BP := hid bP
      have BR := hid bR
      have HB0 := hid hB0
      clear hW0 bP bA bR hB0
      refine wpAnyW_take (i := 1) (oi := { dst := some 81, op := Op.fieldAddr 31 (Operand.tmp 3) 2, type := 0, pos := "ref.go:75", after := #[], guard := none }) (v := ?_) rfl (by kernel_rfl) (by kernel_rfl) (by kernel_rfl) (by kernel_rfl) (fun _ _ _ h => h) (Or.inl ⟨by rfl, fun w _ => ?_⟩) ?_
      rotate_left
      · (go_simp; first | done | with_reducible rfl)
      try simp only [Act.put, List.setIfInBounds_toArray, List.set_cons_zero, List.set_cons_succ]
      refine wpAnyW_load (i := 2) (oi := { dst := some 82, op := Op.load 29 (Operand.tmp 81), type := 29, pos := "ref.go:75", after := #[{ on := 1, ground := Ground.data }], guard := none }) (v := ?_) rfl (by kernel_rfl) (by kernel_rfl) (by kernel_rfl) (by kernel_rfl) (by kernel_rfl) (fun _ _ _ h => h) (Or.inl ⟨by rfl, fun w hS => ?_⟩) (hS.out W0 (Bw.refl _)) ?_
      rotate_left
      · (obtain ⟨s1, s2, s3, s4⟩ := hS; go_simp; first | done | with_reducible rfl)
      try simp only [Act.put, List.setIfInBounds_toArray, List.set_cons_zero, List.set_cons_succ]
      refine wpAnyW_load (i := 4) (oi := { dst := some 84, op := Op.load 45 (Operand.tmp 13), type := 45, pos := "ref.go:75", after := #[], guard := none }) (v := ?_) rfl (by kernel_rfl) (by kernel_rfl) (by kernel_rfl) (by kernel_rfl) (by kernel_rfl) (fun _ _ _ h => h) (Or.inl ⟨by rfl, fun w hS => ?_⟩) (hS.out W0 (Bw.refl _)) ?_
      rotate_left
      · (obtain ⟨s1, s2, s3, s4⟩ := hS; go_simp; first | done | with_reducible rfl)
      try simp only [Act.put, List.setIfInBounds_toArray, List.set_cons_zero, List.set_cons_succ]
      refine wpAnyW_ready (rs := [0, 5]) (by kernel_rfl) (by simp) ?_
      refine (AllReadyW.cons (o := { dst := some 80, op := Op.buildSlice 29 0 #[], type := 29, pos := "ref.go:75", after := #[], guard := none }) rfl (fun K hK => ?_) (AllReadyW.cons (o := { dst := some 85, op := Op.buildSlice 29 1 #[(0, Operand.tmp 84)], type := 29, pos := "ref.go:75", after := #[{ on := 4, ground := Ground.data }], guard := none }) rfl (fun K hK => ?_) AllReadyW.nil))
      · go_simp
        have R0 := hid (show Rw W0 (W0.alloc (.cells #[] 45)) 45 3 (.slice (some ⟨W0.heap.size, 0, none⟩) 0 0) 0 [] from by have := Rw.empty W0 W0 (Bw.refl W0) 45 3; simpa only [World.size_alloc] using this)
        refine hK.out _ _ (hS.out _ (Bw.alloc (Bw.refl W0) _)) ?_
        clear hK K
        try simp only [Act.put, List.setIfInBounds_toArray, List.set_cons_zero, List.set_cons_succ]
        refine wpAnyW_ready (rs := [3, 5]) (by kernel_rfl) (by simp) ?_
        refine (AllReadyW.cons (o := { dst := some 83, op := Op.call { callee := Callee.builtin Builtin.append, args := #[Operand.tmp 80, Operand.tmp 82], argTypes := #[29, 29] }, type := 29, pos := "ref.go:75", after := #[{ on := 0, ground := Ground.data }, { on := 2, ground := Ground.data }], guard := none }) rfl (fun K hK => ?_) (AllReadyW.cons (o := { dst := some 85, op := Op.buildSlice 29 1 #[(0, Operand.tmp 84)], type := 29, pos := "ref.go:75", after := #[{ on := 4, ground := Ground.data }], guard := none }) rfl (fun K hK => ?_) AllReadyW.nil))
        · refine step_append_any (G := GG) rfl _ _ 29 rfl 45 i3 _ 3 40 Try.underlying29 I3.out.1 I3.out.2.1 I3.out.2.2.1 I3.out.2.2.2 rfl (by decide) (.slice (some ⟨W0.heap.size, 0, none⟩) 0 0) 0 [] rfl R0.out.1 (.slice av L.length cv) L.length (rowC L) rfl (hLs.out.below (Bw.alloc (Bw.refl W0) _)) (rowC_one HO1.out) (by unfold maxLen; omega) (by omega) ?_
          intro v3 w4 ho hg hvb
          have HBw4 : Bw W0 w4 := R0.out.bwGrown (Bw.alloc (Bw.refl W0) _) hg
          have RRw4 : Rw W0 w4 45 3 v3 (0 + L.length) ([] ++ rowC L) := R0.out.grown (Bw.alloc (Bw.refl W0) _) ho hvb
          refine hK.out _ _ (hS.out _ HBw4) ?_
          clear hK K
          try simp only [Act.put, List.setIfInBounds_toArray, List.set_cons_zero, List.set_cons_succ]
          refine wpAnyW_ready (rs := [5]) (by kernel_rfl) (by simp) ?_
          refine (AllReadyW.cons (o := { dst := some 85, op := Op.buildSlice 29 1 #[(0, Operand.tmp 84)], type := 29, pos := "ref.go:75", after := #[{ on := 4, ground := Ground.data }], guard := none }) rfl (fun K hK => ?_) AllReadyW.nil)
          go_simp
          have N5 := hid (show Sl (w4.alloc (.cells (verC (⟨f, l, true⟩, .slice a3 l.length c3)).toArray 45)) (fun b => b = w4.heap.size) (.slice (some ⟨w4.heap.size, 0, none⟩) 1 1) 1 3 (verC (⟨f, l, true⟩, .slice a3 l.length c3)) from by have := sl_new w4 (fun b => b = w4.heap.size) (verC (⟨f, l, true⟩, .slice a3 l.length c3)) 45 1 3 rfl rfl; simpa only [World.size_alloc] using this)
          refine hK.out _ _ (hS.out _ (Bw.alloc HBw4 _)) ?_
          clear hK K
          try simp only [Act.put, List.setIfInBounds_toArray, List.set_cons_zero, List.set_cons_succ]
          refine wpAnyW_ready (rs := [6]) (by kernel_rfl) (by simp) ?_
          refine (AllReadyW.cons (o := { dst := some 86, op := Op.call { callee := Callee.builtin Builtin.append, args := #[Operand.tmp 83, Operand.tmp 85], argTypes := #[29, 29] }, type := 29, pos := "ref.go:75", after := #[{ on := 3, ground := Ground.data }, { on := 5, ground := Ground.data }, { on := 3, ground := Ground.chain }], guard := none }) rfl (fun K hK => ?_) AllReadyW.nil)
          refine step_append_any rfl _ _ 29 rfl 45 i3 _ 3 40 Try.underlying29 I3.out.1 I3.out.2.1 I3.out.2.2.1 I3.out.2.2.2 rfl (by decide) v3 (0 + L.length) ([] ++ rowC L) rfl (RRw4.bw (Bw.alloc (Bw.refl _) _)).1 (.slice (some ⟨w4.heap.size, 0, none⟩) 1 1) 1 (verC (⟨f, l, true⟩, .slice a3 l.length c3)) rfl N5.out (verC_one _ _ _ _ _) (by unfold maxLen; omega) (by omega) ?_
          intro v6 w6 ho6 hg6 hvb6
          have HB6 : Bw W0 w6 := (RRw4.bw (Bw.alloc (Bw.refl _) _)).bwGrown (Bw.alloc HBw4 _) hg6
          have RR6 : Rw W0 w6 45 3 v6 (0 + L.length + 1) ([] ++ rowC L ++ verC (⟨f, l, true⟩, .slice a3 l.length c3)) := (RRw4.bw (Bw.alloc (Bw.refl _) _)).grown (Bw.alloc HBw4 _) ho6 hvb6
          refine hK.out _ _ (hS.out _ HB6) ?_
          clear hK K
          try simp only [Act.put, List.setIfInBounds_toArray, List.set_cons_zero, List.set_cons_succ]
          refine wpAnyW_take (i := 7) (oi := { dst := some 87, op := Op.fieldAddr 31 (Operand.tmp 3) 2, type := 0, pos := "ref.go:75", after := #[{ on := 0, ground := Ground.phase }, { on := 1, ground := Ground.phase }, { on := 2, ground := Ground.phase }, { on := 3, ground := Ground.phase }, { on := 4, ground := Ground.phase }, { on := 5, ground := Ground.phase }, { on := 6, ground := Ground.phase }], guard := none }) (v := ?_) rfl (by kernel_rfl) (by kernel_rfl) (by kernel_rfl) (by kernel_rfl) (fun _ _ _ h => h) (Or.inl ⟨by rfl, fun w _ => ?_⟩) ?_
          rotate_left
          · (go_simp; first | done | with_reducible rfl)
          try simp only [Act.put, List.setIfInBounds_toArray, List.set_cons_zero, List.set_cons_succ]
          simp only [Nat.zero_add, List.nil_append] at RR6
          obtain ⟨a6, c6, e6⟩ := own_form RR6.1
          subst e6
          have BP6 := BP.out.bw HB6
          have BR6 := BR.out.bw HB6
          obtain ⟨p0, p1, p2, pl⟩ := box3 BP6
          obtain ⟨r0, r1, r2, rl⟩ := box3 BR6
          have pf := BP6.free
          have rf := BR6.free
          refine wpAnyW_ready (rs := [8]) (by kernel_rfl) (by simp) ?_
          refine (AllReadyW.cons (o := { dst := none, op := Op.store 29 (Operand.tmp 87) (Operand.tmp 86), type := 0, pos := "ref.go:75", after := #[{ on := 7, ground := Ground.data }, { on := 6, ground := Ground.data }, { on := 6, ground := Ground.chain }, { on := 0, ground := Ground.phase }, { on := 1, ground := Ground.phase }, { on := 2, ground := Ground.phase }, { on := 3, ground := Ground.phase }, { on := 4, ground := Ground.phase }, { on := 5, ground := Ground.phase }, { on := 6, ground := Ground.phase }], guard := none }) rfl (fun K hK => ?_) AllReadyW.nil)
          go_simp
          refine hK.out _ _ trivial ?_
          clear hK K
          try simp only [Act.put, List.setIfInBounds_toArray, List.set_cons_zero, List.set_cons_succ]
          refine wpAnyW_done (by kernel_rfl) ?_ _
          go_wp2
          go_region
          all_goals go_wp2
          all_goals (
            refine bodyPost_ret (v := .tuple #[.agg #[.int .i64 F, .int .i64 G, .slice a6 (L.length + 1) c6], .int .i64 (L.length : Nat), .int .i64 0]) (by simp [results, Try.results24, go_sem, *]) rfl ?_
            have fin := fun X hx => radd_fin (X := X) HR.out (x := ⟨f, l, true⟩) HB1.out HSZ.out (own_bw HO3.out HB0.out) (HB13.out.trans HB0.out) HB6 RR6 hx hL hm
            refine ⟨_, _, rfl, (fin _ ?_).1, (fin _ ?_).2, by simp⟩
            all_goals (repeat (first | exact Ex.refl _ _ | apply Ex.drewN | apply Ex.drew | (refine Ex.set ?_ (.inl (by simp)) _ _))))
        · go_simp
          have N5 := hid (show Sl ((W0.alloc (.cells #[] 45)).alloc (.cells (verC (⟨f, l, true⟩, .slice a3 l.length c3)).toArray 45)) (fun b => b = W0.heap.size + 1) (.slice (some ⟨W0.heap.size + 1, 0, none⟩) 1 1) 1 3 (verC (⟨f, l, true⟩, .slice a3 l.length c3)) from by have := sl_new (W0.alloc (.cells #[] 45)) (fun b => b = (W0.alloc (.cells #[] 45)).heap.size) (verC (⟨f, l, true⟩, .slice a3 l.length c3)) 45 1 3 rfl rfl; simpa only [World.size_alloc] using this)
          refine hK.out _ _ (hS.out _ (Bw.alloc (Bw.alloc (Bw.refl W0) _) _)) ?_
          clear hK K
          try simp only [Act.put, List.setIfInBounds_toArray, List.set_cons_zero, List.set_cons_succ]
          refine wpAnyW_ready (rs := [3]) (by kernel_rfl) (by simp) ?_
          refine (AllReadyW.cons (o := { dst := some 83, op := Op.call { callee := Callee.builtin Builtin.append, args := #[Operand.tmp 80, Operand.tmp 82], argTypes := #[29, 29] }, type := 29, pos := "ref.go:75", after := #[{ on := 0, ground := Ground.data }, { on := 2, ground := Ground.data }], guard := none }) rfl (fun K hK => ?_) AllReadyW.nil)
          refine step_append_any (G := GG) rfl _ _ 29 rfl 45 i3 _ 3 40 Try.underlying29 I3.out.1 I3.out.2.1 I3.out.2.2.1 I3.out.2.2.2 rfl (by decide) (.slice (some ⟨W0.heap.size, 0, none⟩) 0 0) 0 [] rfl (R0.out.bw (Bw.alloc (Bw.refl _) _)).1 (.slice av L.length cv) L.length (rowC L) rfl (hLs.out.below (Bw.alloc (Bw.alloc (Bw.refl W0) _) _)) (rowC_one HO1.out) (by unfold maxLen; omega) (by omega) ?_
          intro v3 w4 ho hg hvb
          have HBw4 : Bw W0 w4 := (R0.out.bw (Bw.alloc (Bw.refl _) _)).bwGrown (Bw.alloc (Bw.alloc (Bw.refl W0) _) _) hg
          have RRw4 : Rw W0 w4 45 3 v3 (0 + L.length) ([] ++ rowC L) := (R0.out.bw (Bw.alloc (Bw.refl _) _)).grown (Bw.alloc (Bw.alloc (Bw.refl W0) _) _) ho hvb
          have N6 := hid (N5.out.grown hg (fun b hb e => by simp only [Value.ownBlock, Option.some.injEq] at e; subst hb; omega))
          refine hK.out _ _ (hS.out _ HBw4) ?_
          clear hK K
          try simp only [Act.put, List.setIfInBounds_toArray, List.set_cons_zero, List.set_cons_succ]
          refine wpAnyW_ready (rs := [6]) (by kernel_rfl) (by simp) ?_
          refine (AllReadyW.cons (o := { dst := some 86, op := Op.call { callee := Callee.builtin Builtin.append, args := #[Operand.tmp 83, Operand.tmp 85], argTypes := #[29, 29] }, type := 29, pos := "ref.go:75", after := #[{ on := 3, ground := Ground.data }, { on := 5, ground := Ground.data }, { on := 3, ground := Ground.chain }], guard := none }) rfl (fun K hK => ?_) AllReadyW.nil)
          refine step_append_any rfl _ _ 29 rfl 45 i3 _ 3 40 Try.underlying29 I3.out.1 I3.out.2.1 I3.out.2.2.1 I3.out.2.2.2 rfl (by decide) v3 (0 + L.length) ([] ++ rowC L) rfl RRw4.1 (.slice (some ⟨W0.heap.size + 1, 0, none⟩) 1 1) 1 (verC (⟨f, l, true⟩, .slice a3 l.length c3)) rfl N6.out (verC_one _ _ _ _ _) (by unfold maxLen; omega) (by omega) ?_
          intro v6 w6 ho6 hg6 hvb6
          have HB6 : Bw W0 w6 := RRw4.bwGrown HBw4 hg6
          have RR6 : Rw W0 w6 45 3 v6 (0 + L.length + 1) ([] ++ rowC L ++ verC (⟨f, l, true⟩, .slice a3 l.length c3)) := RRw4.grown HBw4 ho6 hvb6
          refine hK.out _ _ (hS.out _ HB6) ?_
          clear hK K
          try simp only [Act.put, List.setIfInBounds_toArray, List.set_cons_zero, List.set_cons_succ]
          refine wpAnyW_take (i := 7) (oi := { dst := some 87, op := Op.fieldAddr 31 (Operand.tmp 3) 2, type := 0, pos := "ref.go:75", after := #[{ on := 0, ground := Ground.phase }, { on := 1, ground := Ground.phase }, { on := 2, ground := Ground.phase }, { on := 3, ground := Ground.phase }, { on := 4, ground := Ground.phase }, { on := 5, ground := Ground.phase }, { on := 6, ground := Ground.phase }], guard := none }) (v := ?_) rfl (by kernel_rfl) (by kernel_rfl) (by kernel_rfl) (by kernel_rfl) (fun _ _ _ h => h) (Or.inl ⟨by rfl, fun w _ => ?_⟩) ?_
          rotate_left
          · (go_simp; first | done | with_reducible rfl)
          try simp only [Act.put, List.setIfInBounds_toArray, List.set_cons_zero, List.set_cons_succ]
          simp only [Nat.zero_add, List.nil_append] at RR6
          obtain ⟨a6, c6, e6⟩ := own_form RR6.1
          subst e6
          have BP6 := BP.out.bw HB6
          have BR6 := BR.out.bw HB6
          obtain ⟨p0, p1, p2, pl⟩ := box3 BP6
          obtain ⟨r0, r1, r2, rl⟩ := box3 BR6
          have pf := BP6.free
          have rf := BR6.free
          refine wpAnyW_ready (rs := [8]) (by kernel_rfl) (by simp) ?_
          refine (AllReadyW.cons (o := { dst := none, op := Op.store 29 (Operand.tmp 87) (Operand.tmp 86), type := 0, pos := "ref.go:75", after := #[{ on := 7, ground := Ground.data }, { on := 6, ground := Ground.data }, { on := 6, ground := Ground.chain }, { on := 0, ground := Ground.phase }, { on := 1, ground := Ground.phase }, { on := 2, ground := Ground.phase }, { on := 3, ground := Ground.phase }, { on := 4, ground := Ground.phase }, { on := 5, ground := Ground.phase }, { on := 6, ground := Ground.phase }], guard := none }) rfl (fun K hK => ?_) AllReadyW.nil)
          go_simp
          refine hK.out _ _ trivial ?_
          clear hK K
          try simp only [Act.put, List.setIfInBounds_toArray, List.set_cons_zero, List.set_cons_succ]
          refine wpAnyW_done (by kernel_rfl) ?_ _
          go_wp2
          go_region
          all_goals go_wp2
          all_goals (
            refine bodyPost_ret (v := .tuple #[.agg #[.int .i64 F, .int .i64 G, .slice a6 (L.length + 1) c6], .int .i64 (L.length : Nat), .int .i64 0]) (by simp [results, Try.results24, go_sem, *]) rfl ?_
            have fin := fun X hx => radd_fin (X := X) HR.out (x := ⟨f, l, true⟩) HB1.out HSZ.out (own_bw HO3.out HB0.out) (HB13.out.trans HB0.out) HB6 RR6 hx hL hm
            refine ⟨_, _, rfl, (fin _ ?_).1, (fin _ ?_).2, by simp⟩
            all_goals (repeat (first | exact Ex.refl _ _ | apply Ex.drewN | apply Ex.drew | (refine Ex.set ?_ (.inl (by simp)) _ _))))
      · go_simp
        have N5 := hid (show Sl (W0.alloc (.cells (verC (⟨f, l, true⟩, .slice a3 l.length c3)).toArray 45)) (fun b => b = W0.heap.size) (.slice (some ⟨W0.heap.size, 0, none⟩) 1 1) 1 3 (verC (⟨f, l, true⟩, .slice a3 l.length c3)) from by have := sl_new W0 (fun b => b = W0.heap.size) (verC (⟨f, l, true⟩, .slice a3 l.length c3)) 45 1 3 rfl rfl; simpa only [World.size_alloc] using this)
        refine hK.out _ _ (hS.out _ (Bw.alloc (Bw.refl W0) _)) ?_
        clear hK K
        try simp only [Act.put, List.setIfInBounds_toArray, List.set_cons_zero, List.set_cons_succ]
        refine wpAnyW_ready (rs := [0]) (by kernel_rfl) (by simp) ?_
        refine (AllReadyW.cons (o := { dst := some 80, op := Op.buildSlice 29 0 #[], type := 29, pos := "ref.go:75", after := #[], guard := none }) rfl (fun K hK => ?_) AllReadyW.nil)
        go_simp
        have R0 := hid (show Rw W0 ((W0.alloc (.cells (verC (⟨f, l, true⟩, .slice a3 l.length c3)).toArray 45)).alloc (.cells #[] 45)) 45 3 (.slice (some ⟨W0.heap.size + 1, 0, none⟩) 0 0) 0 [] from by have := Rw.empty W0 (W0.alloc (.cells (verC (⟨f, l, true⟩, .slice a3 l.length c3)).toArray 45)) (Bw.alloc (Bw.refl W0) _) 45 3; simpa only [World.size_alloc] using this)
        refine hK.out _ _ (hS.out _ (Bw.alloc (Bw.alloc (Bw.refl W0) _) _)) ?_
        clear hK K
        try simp only [Act.put, List.setIfInBounds_toArray, List.set_cons_zero, List.set_cons_succ]
        refine wpAnyW_ready (rs := [3]) (by kernel_rfl) (by simp) ?_
        refine (AllReadyW.cons (o := { dst := some 83, op := Op.call { callee := Callee.builtin Builtin.append, args := #[Operand.tmp 80, Operand.tmp 82], argTypes := #[29, 29] }, type := 29, pos := "ref.go:75", after := #[{ on := 0, ground := Ground.data }, { on := 2, ground := Ground.data }], guard := none }) rfl (fun K hK => ?_) AllReadyW.nil)
        refine step_append_any (G := GG) rfl _ _ 29 rfl 45 i3 _ 3 40 Try.underlying29 I3.out.1 I3.out.2.1 I3.out.2.2.1 I3.out.2.2.2 rfl (by decide) (.slice (some ⟨W0.heap.size + 1, 0, none⟩) 0 0) 0 [] rfl R0.out.1 (.slice av L.length cv) L.length (rowC L) rfl (hLs.out.below (Bw.alloc (Bw.alloc (Bw.refl W0) _) _)) (rowC_one HO1.out) (by unfold maxLen; omega) (by omega) ?_
        intro v3 w4 ho hg hvb
        have HBw4 : Bw W0 w4 := R0.out.bwGrown (Bw.alloc (Bw.alloc (Bw.refl W0) _) _) hg
        have RRw4 : Rw W0 w4 45 3 v3 (0 + L.length) ([] ++ rowC L) := R0.out.grown (Bw.alloc (Bw.alloc (Bw.refl W0) _) _) ho hvb
        have N6 := hid ((N5.out.below (Bw.alloc (Bw.refl _) (.cells #[] 45))).grown hg (fun b hb e => by simp only [Value.ownBlock, Option.some.injEq] at e; subst hb; omega))
        refine hK.out _ _ (hS.out _ HBw4) ?_
        clear hK K
        try simp only [Act.put, List.setIfInBounds_toArray, List.set_cons_zero, List.set_cons_succ]
        refine wpAnyW_ready (rs := [6]) (by kernel_rfl) (by simp) ?_
        refine (AllReadyW.cons (o := { dst := some 86, op := Op.call { callee := Callee.builtin Builtin.append, args := #[Operand.tmp 83, Operand.tmp 85], argTypes := #[29, 29] }, type := 29, pos := "ref.go:75", after := #[{ on := 3, ground := Ground.data }, { on := 5, ground := Ground.data }, { on := 3, ground := Ground.chain }], guard := none }) rfl (fun K hK => ?_) AllReadyW.nil)
        refine step_append_any rfl _ _ 29 rfl 45 i3 _ 3 40 Try.underlying29 I3.out.1 I3.out.2.1 I3.out.2.2.1 I3.out.2.2.2 rfl (by decide) v3 (0 + L.length) ([] ++ rowC L) rfl RRw4.1 (.slice (some ⟨W0.heap.size, 0, none⟩) 1 1) 1 (verC (⟨f, l, true⟩, .slice a3 l.length c3)) rfl N6.out (verC_one _ _ _ _ _) (by unfold maxLen; omega) (by omega) ?_
        intro v6 w6 ho6 hg6 hvb6
        have HB6 : Bw W0 w6 := RRw4.bwGrown HBw4 hg6
        have RR6 : Rw W0 w6 45 3 v6 (0 + L.length + 1) ([] ++ rowC L ++ verC (⟨f, l, true⟩, .slice a3 l.length c3)) := RRw4.grown HBw4 ho6 hvb6
        refine hK.out _ _ (hS.out _ HB6) ?_
        clear hK K
        try simp only [Act.put, List.setIfInBounds_toArray, List.set_cons_zero, List.set_cons_succ]
        refine wpAnyW_take (i := 7) (oi := { dst := some 87, op := Op.fieldAddr 31 (Operand.tmp 3) 2, type := 0, pos := "ref.go:75", after := #[{ on := 0, ground := Ground.phase }, { on := 1, ground := Ground.phase }, { on := 2, ground := Ground.phase }, { on := 3, ground := Ground.phase }, { on := 4, ground := Ground.phase }, { on := 5, ground := Ground.phase }, { on := 6, ground := Ground.phase }], guard := none }) (v := ?_) rfl (by kernel_rfl) (by kernel_rfl) (by kernel_rfl) (by kernel_rfl) (fun _ _ _ h => h) (Or.inl ⟨by rfl, fun w _ => ?_⟩) ?_
        rotate_left
        · (go_simp; first | done | with_reducible rfl)
        try simp only [Act.put, List.setIfInBounds_toArray, List.set_cons_zero, List.set_cons_succ]
        simp only [Nat.zero_add, List.nil_append] at RR6
        obtain ⟨a6, c6, e6⟩ := own_form RR6.1
        subst e6
        have BP6 := BP.out.bw HB6
        have BR6 := BR.out.bw HB6
        obtain ⟨p0, p1, p2, pl⟩ := box3 BP6
        obtain ⟨r0, r1, r2, rl⟩ := box3 BR6
        have pf := BP6.free
        have rf := BR6.free
        refine wpAnyW_ready (rs := [8]) (by kernel_rfl) (by simp) ?_
        refine (AllReadyW.cons (o := { dst := none, op := Op.store 29 (Operand.tmp 87) (Operand.tmp 86), type := 0, pos := "ref.go:75", after := #[{ on := 7, ground := Ground.data }, { on := 6, ground := Ground.data }, { on := 6, ground := Ground.chain }, { on := 0, ground := Ground.phase }, { on := 1, ground := Ground.phase }, { on := 2, ground := Ground.phase }, { on := 3, ground := Ground.phase }, { on := 4, ground := Ground.phase }, { on := 5, ground := Ground.phase }, { on := 6, ground := Ground.phase }], guard := none }) rfl (fun K hK => ?_) AllReadyW.nil)
        go_simp
        refine hK.out _ _ trivial ?_
        clear hK K
        try simp only [Act.put, List.setIfInBounds_toArray, List.set_cons_zero, List.set_cons_succ]
        refine wpAnyW_done (by kernel_rfl) ?_ _
        go_wp2
        go_region
        all_goals go_wp2
        all_goals (
          refine bodyPost_ret (v := .tuple #[.agg #[.int .i64 F, .int .i64 G, .slice a6 (L.length + 1) c6], .int .i64 (L.length : Nat), .int .i64 0]) (by simp [results, Try.results24, go_sem, *]) rfl ?_
          have fin := fun X hx => radd_fin (X := X) HR.out (x := ⟨f, l, true⟩) HB1.out HSZ.out (own_bw HO3.out HB0.out) (HB13.out.trans HB0.out) HB6 RR6 hx hL hm
          refine ⟨_, _, rfl, (fin _ ?_).1, (fin _ ?_).2, by simp⟩
          all_goals (repeat (first | exact Ex.refl _ _ | apply Ex.drewN | apply Ex.drew | (refine Ex.set ?_ (.inl (by simp)) _ _))))

end Go.Proofs.Ytaeifhfhahcoiaa
