/- split, without: contracts. -/
import Derived.Test.YteeeijbjokkomaaPe
set_option linter.unusedSimpArgs false
set_option linter.unusedVariables false
namespace Go.Proofs.Yteeeijbjokkomaa
open Go Go.RowKit

theorem Rw.nil (W0 w : World) (e : TypeId) (size : Nat) : Rw W0 w e size (.slice none 0 0) 0 [] := ⟨World.ownsRow_nil w _ _ _, fun b h => by simp [Value.ownBlock] at h⟩
theorem Rw.own {W0 w : World} {e : TypeId} {size : Nat} {v : Value} {n : Nat} {xs : List Value} (h : Rw W0 w e size v n xs) : w.ownsRow W0.heap.size e size v n xs := by
  refine ⟨h.1.1, ?_⟩
  rcases h.1.2 with h1 | ⟨g, cap, cur, e1, _, r⟩
  · exact .inl h1
  · exact .inr ⟨g, cap, cur, e1, h.2 g (by rw [e1]; rfl), r⟩
theorem apart_grown {w : World} {e : TypeId} {size m : Nat} {a a' b : Value} {n : Nat} {xs : List Value} (h : ∀ k, a.ownBlock = some k → b.ownBlock ≠ some k) (hb : w.ownsRow 0 e size b n xs) (hm : w.heap.size ≤ m) (hv : a'.ownBlock = a.ownBlock ∨ ∀ k, a'.ownBlock = some k → m ≤ k) : ∀ k, a'.ownBlock = some k → b.ownBlock ≠ some k := by
  intro k hk e
  rcases hv with h1 | h1
  · exact h k (h1 ▸ hk) e
  · have := h1 k hk; have := (hb.lt k e).2; omega
theorem Rw.grown2 {W0 w w' : World} {e : TypeId} {size m : Nat} {v v' : Value} {n n' : Nat} {xs xs' : List Value} (h : Rw W0 w e size v n xs) (hm : W0.heap.size ≤ m) (how : w'.ownsRow 0 e size v' n' xs') (hvb : v'.ownBlock = v.ownBlock ∨ ∀ k, v'.ownBlock = some k → m ≤ k) : Rw W0 w' e size v' n' xs' :=
  ⟨how, fun b e => hvb.elim (fun k => h.2 b (k ▸ e)) (fun k => Nat.le_trans hm (k b e))⟩

theorem apart_sym {a b : Value} (h : ∀ k, a.ownBlock = some k → b.ownBlock ≠ some k) : ∀ k, b.ownBlock = some k → a.ownBlock ≠ some k := fun k h1 h2 => h k h2 h1

set_option maxRecDepth 100000 in
set_option maxHeartbeats 2000000 in
theorem splW_any {G : Nat → Prop} {w : World} (g : Nat) (lb : Array Value) (P : WW → Bool) (eg : ∀ args w, (callFunc g args).run Try.prog w = .ok (.enter g args) w) (v : Value) (l : List WW) (most : Int) (hs : Sl w G v l.length 4 (l.flatMap wC)) (hm : l.length ≤ 1000)
    (hp : ∀ x ∈ l, ∀ W, Bw w W → Calls Try.prog g (#[wV x] ++ lb) W fun e w' => e = .returned (.bool (P x)) ∧ Bw W w') :
    Calls Try.prog 39 #[v, .int .i64 most, .func (.func g) #[] lb] w fun e w' => ∃ a b, e = .returned (.tuple #[a, b]) ∧ w'.ownsRow w.heap.size 89 4 a (spl P most l).1.length ((spl P most l).1.flatMap wC) ∧ w'.ownsRow w.heap.size 89 4 b (spl P most l).2.length ((spl P most l).2.flatMap wC) ∧ (∀ k, a.ownBlock = some k → b.ownBlock ≠ some k) ∧ Bw w w' := by
  obtain ⟨a, c, rfl⟩ := hs.form
  have HS := hid hs
  have HP := hid hp
  obtain ⟨i2, hi2, hz2, hs2, hy2⟩ := info_parts infoWa
  have I2 := hid (And.intro hi2 (And.intro hz2 (And.intro hs2 hy2)))
  clear hs hp hi2 hz2 hs2 hy2
  go_enter Try.func39, Try.ntmps39
  go_wp2
  go_loopw [6, 7, 12] (fun a b j wr => ∃ (k : Nat), k ≤ l.length ∧ j = .int .i64 k ∧ Rw w wr 89 4 a (spl P most (l.take k)).1.length ((spl P most (l.take k)).1.flatMap wC) ∧ Rw w wr 89 4 b (spl P most (l.take k)).2.length ((spl P most (l.take k)).2.flatMap wC) ∧ (∀ k, a.ownBlock = some k → b.ownBlock ≠ some k) ∧ Bw w wr) (fun a b j _ => l.length - (intOf j).toNat)
  case atStart => exact ⟨0, by omega, rfl, Rw.nil w w _ _, Rw.nil w w _ _, fun k h => by simp [Value.ownBlock] at h, Bw.refl w⟩
  case round =>
    obtain ⟨k, hk, rfl, h1, h2, hap, hbw⟩ := hrel
    obtain ⟨aa, ca, e⟩ := own_form h1.1
    subst e
    obtain ⟨ab, cb, e⟩ := own_form h2.1
    subst e
    have hlen := spl_len P most (l.take k)
    rw [List.length_take, Nat.min_eq_left hk] at hlen
    have HNX := hid (fun h => spl_next P most l (k := k) h)
    by_cases h4 : k < l.length
    · have h4' : (k : Int) < (l.length : Int) := by omega
      obtain ⟨bk, ok, e, hlb, hc⟩ := sl_elem wC_len (by decide) (HS.out.below hbw) h4
      subst e
      have x0 := hc 0 (by decide)
      have x1 := hc 1 (by decide)
      have x2 := hc 2 (by decide)
      have x3 := hc 3 (by decide)
      simp only [wC, Nat.add_zero, List.getElem?_cons_zero, List.getElem?_cons_succ] at x0 x1 x2 x3
      have hnx := HNX.out h4
      have HM := hid (List.getElem_mem h4)
      clear hc HNX
      obtain ⟨y, hy⟩ : ∃ y, l[k] = y := ⟨_, rfl⟩
      rw [hy] at x0 x1 x2 x3 hnx HM
      clear hy
      have H1 := hid h1
      have H2 := hid h2
      have HAP := hid hap
      have HB := hid hbw
      have HX := hid hnx
      clear h1 h2 hap hbw hnx
      obtain ⟨n1, hn1⟩ : ∃ n1, (spl P most (l.take k)).1.length = n1 := ⟨_, rfl⟩
      obtain ⟨n2, hn2⟩ : ∃ n2, (spl P most (l.take k)).2.length = n2 := ⟨_, rfl⟩
      rw [hn1] at H1 hlen HAP
      rw [hn2] at H2 hlen HAP
      rw [hn1, hn2]
      have HN1 := hid hn1
      have HN2 := hid hn2
      clear hn1 hn2
      obtain ⟨y1, y2, y3, y4⟩ := y
      simp only at x0 x1 x2 x3
      by_cases hmo : (n1 : Int) < most
      · have hcall := HP.out ⟨y1, y2, y3, y4⟩ HM.out _ (HB.out.alloc (.cells (wC ⟨y1, y2, y3, y4⟩).toArray 89))
        simp only [wV, wC] at hcall
        cases hq : P ⟨y1, y2, y3, y4⟩
        · rw [hq] at hcall
          have HR := hid (show spl P most (l.take (k + 1)) = ((spl P most (l.take k)).1, (spl P most (l.take k)).2 ++ [⟨y1, y2, y3, y4⟩]) by rw [HX.out]; unfold splS; rw [hq, Bool.and_false]; rfl)
          clear hq
          go_wp2_with (first
            | (go_at_fn g; refine hcall.mono ?_; rintro e w1 ⟨rfl, hb'⟩; have HB1 := hid ((HB.out.alloc (.cells (wC ⟨y1, y2, y3, y4⟩).toArray 89)).trans hb'); have HBB := hid (Bw.trans (Bw.alloc (Bw.refl wr) (.cells (wC ⟨y1, y2, y3, y4⟩).toArray 89)) hb'); have hbx := (Blk.new wr (wC ⟨y1, y2, y3, y4⟩).toArray 89).bw hb'; clear hb'; have z0 := hbx.cell 0; have z1 := hbx.cell 1; have z2 := hbx.cell 2; have z3 := hbx.cell 3; simp only [wC, List.getElem?_toArray, List.getElem?_cons_zero, List.getElem?_cons_succ] at z0 z1 z2 z3; have hlx := hbx.lt; clear hbx)
            | (at_builtin; refine wpList_append_row _ rfl _ _ 62 rfl 89 i2 _ 4 32 Try.underlying62 I2.out.1 I2.out.2.1 I2.out.2.2.1 I2.out.2.2.2 rfl (by decide) (.slice ab n2 cb) n2 ((spl P most (l.take k)).2.flatMap wC) rfl (H2.out.bw (HBB.out.trans (Bw.alloc (Bw.refl w1) _))).1 ⟨_, 0, none⟩ 1 1 (wC ⟨y1, y2, y3, y4⟩) rfl rfl ?c1 (wC_one _) ?c3 ?c4 ?_)
            | fail)
          case c1 =>
            intro j u hj
            match j, hj with
            | 0, hj => simp [wC] at hj; subst hj; simp [Addr.add, go_sem]
            | 1, hj => simp [wC] at hj; subst hj; simp [Addr.add, go_sem]
            | 2, hj => simp [wC] at hj; subst hj; simp [Addr.add, go_sem]
            | 3, hj => simp [wC] at hj; subst hj; simp [Addr.add, go_sem]
          case c3 => unfold maxLen; omega
          case c4 => omega
          intro v' w2 hown hgr hvb
          have HQ := hid (H2.out.grown2 (by have := HB1.out.size; have := HBB.out.size; omega) hown hvb)
          have HO2 := hid ((H1.out.bw (HBB.out.trans (Bw.alloc (Bw.refl w1) _))).beside hgr (HAP.out))
          have HAP2 := hid (apart_sym (apart_grown (apart_sym HAP.out) H1.out.1 (by have := HB1.out.size; have := HBB.out.size; omega) hvb))
          have HB2 := hid ((H2.out.bw (HBB.out.trans (Bw.alloc (Bw.refl w1) _))).bwGrown (Bw.alloc HB1.out _) hgr)
          obtain ⟨av', cv', e⟩ := own_form hown
          subst e
          clear hown hgr hvb
          go_wp2
          go_roundw
          case rel => exact ⟨k + 1, by omega, by go_num, by rw [HR.out, HN1.out]; exact HO2.out, by rw [HR.out, fm_snoc, List.length_append, HN2.out]; exact HQ.out, HAP2.out, HB2.out⟩
          case measure => simp [intOf]; omega
        · rw [hq] at hcall
          have HR := hid (show spl P most (l.take (k + 1)) = ((spl P most (l.take k)).1 ++ [⟨y1, y2, y3, y4⟩], (spl P most (l.take k)).2) by rw [HX.out]; unfold splS; rw [hq, HN1.out, decide_eq_true hmo]; rfl)
          clear hq
          go_wp2_with (first
            | (go_at_fn g; refine hcall.mono ?_; rintro e w1 ⟨rfl, hb'⟩; have HB1 := hid ((HB.out.alloc (.cells (wC ⟨y1, y2, y3, y4⟩).toArray 89)).trans hb'); have HBB := hid (Bw.trans (Bw.alloc (Bw.refl wr) (.cells (wC ⟨y1, y2, y3, y4⟩).toArray 89)) hb'); have hbx := (Blk.new wr (wC ⟨y1, y2, y3, y4⟩).toArray 89).bw hb'; clear hb'; have z0 := hbx.cell 0; have z1 := hbx.cell 1; have z2 := hbx.cell 2; have z3 := hbx.cell 3; simp only [wC, List.getElem?_toArray, List.getElem?_cons_zero, List.getElem?_cons_succ] at z0 z1 z2 z3; have hlx := hbx.lt; clear hbx)
            | (at_builtin; refine wpList_append_row _ rfl _ _ 62 rfl 89 i2 _ 4 32 Try.underlying62 I2.out.1 I2.out.2.1 I2.out.2.2.1 I2.out.2.2.2 rfl (by decide) (.slice aa n1 ca) n1 ((spl P most (l.take k)).1.flatMap wC) rfl (H1.out.bw (HBB.out.trans (Bw.alloc (Bw.refl w1) _))).1 ⟨_, 0, none⟩ 1 1 (wC ⟨y1, y2, y3, y4⟩) rfl rfl ?c1 (wC_one _) ?c3 ?c4 ?_)
            | fail)
          case c1 =>
            intro j u hj
            match j, hj with
            | 0, hj => simp [wC] at hj; subst hj; simp [Addr.add, go_sem]
            | 1, hj => simp [wC] at hj; subst hj; simp [Addr.add, go_sem]
            | 2, hj => simp [wC] at hj; subst hj; simp [Addr.add, go_sem]
            | 3, hj => simp [wC] at hj; subst hj; simp [Addr.add, go_sem]
          case c3 => unfold maxLen; omega
          case c4 => omega
          intro v' w2 hown hgr hvb
          have HQ := hid (H1.out.grown2 (by have := HB1.out.size; have := HBB.out.size; omega) hown hvb)
          have HO2 := hid ((H2.out.bw (HBB.out.trans (Bw.alloc (Bw.refl w1) _))).beside hgr (fun b e k => HAP.out b k e))
          have HAP2 := hid (apart_grown HAP.out H2.out.1 (by have := HB1.out.size; have := HBB.out.size; omega) hvb)
          have HB2 := hid ((H1.out.bw (HBB.out.trans (Bw.alloc (Bw.refl w1) _))).bwGrown (Bw.alloc HB1.out _) hgr)
          obtain ⟨av', cv', e⟩ := own_form hown
          subst e
          clear hown hgr hvb
          go_wp2
          go_roundw
          case rel => exact ⟨k + 1, by omega, by go_num, by rw [HR.out, fm_snoc, List.length_append, HN1.out]; exact HQ.out, by rw [HR.out, HN2.out]; exact HO2.out, HAP2.out, HB2.out⟩
          case measure => simp [intOf]; omega
      · have HR := hid (show spl P most (l.take (k + 1)) = ((spl P most (l.take k)).1, (spl P most (l.take k)).2 ++ [⟨y1, y2, y3, y4⟩]) by rw [HX.out]; unfold splS; rw [HN1.out, decide_eq_false hmo]; rfl)
        have HB1 := HB
        go_wp2_with (first
          | (at_builtin; refine wpList_append_row _ rfl _ _ 62 rfl 89 i2 _ 4 32 Try.underlying62 I2.out.1 I2.out.2.1 I2.out.2.2.1 I2.out.2.2.2 rfl (by decide) (.slice ab n2 cb) n2 ((spl P most (l.take k)).2.flatMap wC) rfl (H2.out.bw (Bw.alloc (Bw.alloc (Bw.refl wr) _) _)).1 ⟨_, 0, none⟩ 1 1 (wC ⟨y1, y2, y3, y4⟩) rfl rfl ?c1 (wC_one _) ?c3 ?c4 ?_)
          | fail)
        case c1 =>
          intro j u hj
          match j, hj with
          | 0, hj => simp [wC] at hj; subst hj; simp [Addr.add, go_sem]
          | 1, hj => simp [wC] at hj; subst hj; simp [Addr.add, go_sem]
          | 2, hj => simp [wC] at hj; subst hj; simp [Addr.add, go_sem]
          | 3, hj => simp [wC] at hj; subst hj; simp [Addr.add, go_sem]
        case c3 => unfold maxLen; omega
        case c4 => omega
        intro v' w2 hown hgr hvb
        have HQ := hid (H2.out.grown2 (by have := HB.out.size; omega) hown hvb)
        have HO2 := hid ((H1.out.bw (Bw.alloc (Bw.alloc (Bw.refl wr) _) _)).beside hgr (HAP.out))
        have HAP2 := hid (apart_sym (apart_grown (apart_sym HAP.out) H1.out.1 (by have := HB.out.size; omega) hvb))
        have HB2 := hid ((H2.out.bw (Bw.alloc (Bw.alloc (Bw.refl wr) _) _)).bwGrown (Bw.alloc (Bw.alloc HB.out _) _) hgr)
        obtain ⟨av', cv', e⟩ := own_form hown
        subst e
        clear hown hgr hvb
        go_wp2
        go_roundw
        case rel => exact ⟨k + 1, by omega, by go_num, by rw [HR.out, HN1.out]; exact HO2.out, by rw [HR.out, fm_snoc, List.length_append, HN2.out]; exact HQ.out, HAP2.out, HB2.out⟩
        case measure => simp [intOf]; omega
    · have h4' : ¬ (k : Int) < (l.length : Int) := by omega
      obtain rfl : k = l.length := by omega
      rw [List.take_length] at h1 h2
      have H1 := hid h1
      have H2 := hid h2
      have HAP := hid hap
      have HB := hid hbw
      rw [List.take_length] at HAP
      clear h1 h2 hap hbw HNX
      rw [List.take_length]
      go_wp2
      all_goals go_ret2
      all_goals exact ⟨_, _, rfl, H1.out.own, H2.out.own, HAP.out, HB.out⟩

set_option maxRecDepth 100000 in
set_option maxHeartbeats 2000000 in
theorem splK_any {G : Nat → Prop} {w : World} (g : Nat) (lb : Array Value) (P : KK → Bool) (eg : ∀ args w, (callFunc g args).run Try.prog w = .ok (.enter g args) w) (v : Value) (l : List KK) (most : Int) (hs : Sl w G v l.length 5 (l.flatMap kC)) (hm : l.length ≤ 1000)
    (hp : ∀ x ∈ l, ∀ W, Bw w W → Calls Try.prog g (#[kV x] ++ lb) W fun e w' => e = .returned (.bool (P x)) ∧ Bw W w') :
    Calls Try.prog 64 #[v, .int .i64 most, .func (.func g) #[] lb] w fun e w' => ∃ a b, e = .returned (.tuple #[a, b]) ∧ w'.ownsRow w.heap.size 94 5 a (spl P most l).1.length ((spl P most l).1.flatMap kC) ∧ w'.ownsRow w.heap.size 94 5 b (spl P most l).2.length ((spl P most l).2.flatMap kC) ∧ (∀ k, a.ownBlock = some k → b.ownBlock ≠ some k) ∧ Bw w w' := by
  obtain ⟨a, c, rfl⟩ := hs.form
  have HS := hid hs
  have HP := hid hp
  obtain ⟨i2, hi2, hz2, hs2, hy2⟩ := info_parts infoWk
  have I2 := hid (And.intro hi2 (And.intro hz2 (And.intro hs2 hy2)))
  clear hs hp hi2 hz2 hs2 hy2
  go_enter Try.func64, Try.ntmps64
  go_wp2
  go_loopw [6, 7, 12] (fun a b j wr => ∃ (k : Nat), k ≤ l.length ∧ j = .int .i64 k ∧ Rw w wr 94 5 a (spl P most (l.take k)).1.length ((spl P most (l.take k)).1.flatMap kC) ∧ Rw w wr 94 5 b (spl P most (l.take k)).2.length ((spl P most (l.take k)).2.flatMap kC) ∧ (∀ k, a.ownBlock = some k → b.ownBlock ≠ some k) ∧ Bw w wr) (fun a b j _ => l.length - (intOf j).toNat)
  case atStart => exact ⟨0, by omega, rfl, Rw.nil w w _ _, Rw.nil w w _ _, fun k h => by simp [Value.ownBlock] at h, Bw.refl w⟩
  case round =>
    obtain ⟨k, hk, rfl, h1, h2, hap, hbw⟩ := hrel
    obtain ⟨aa, ca, e⟩ := own_form h1.1
    subst e
    obtain ⟨ab, cb, e⟩ := own_form h2.1
    subst e
    have hlen := spl_len P most (l.take k)
    rw [List.length_take, Nat.min_eq_left hk] at hlen
    have HNX := hid (fun h => spl_next P most l (k := k) h)
    by_cases h4 : k < l.length
    · have h4' : (k : Int) < (l.length : Int) := by omega
      obtain ⟨bk, ok, e, hlb, hc⟩ := sl_elem kC_len (by decide) (HS.out.below hbw) h4
      subst e
      have x0 := hc 0 (by decide)
      have x1 := hc 1 (by decide)
      have x2 := hc 2 (by decide)
      have x3 := hc 3 (by decide)
      have x4 := hc 4 (by decide)
      simp only [kC, Nat.add_zero, List.getElem?_cons_zero, List.getElem?_cons_succ] at x0 x1 x2 x3 x4
      have hnx := HNX.out h4
      have HM := hid (List.getElem_mem h4)
      clear hc HNX
      obtain ⟨y, hy⟩ : ∃ y, l[k] = y := ⟨_, rfl⟩
      rw [hy] at x0 x1 x2 x3 x4 hnx HM
      clear hy
      have H1 := hid h1
      have H2 := hid h2
      have HAP := hid hap
      have HB := hid hbw
      have HX := hid hnx
      clear h1 h2 hap hbw hnx
      obtain ⟨n1, hn1⟩ : ∃ n1, (spl P most (l.take k)).1.length = n1 := ⟨_, rfl⟩
      obtain ⟨n2, hn2⟩ : ∃ n2, (spl P most (l.take k)).2.length = n2 := ⟨_, rfl⟩
      rw [hn1] at H1 hlen HAP
      rw [hn2] at H2 hlen HAP
      rw [hn1, hn2]
      have HN1 := hid hn1
      have HN2 := hid hn2
      clear hn1 hn2
      obtain ⟨⟨y1, y2, y3, y4⟩, y5⟩ := y
      simp only at x0 x1 x2 x3 x4
      by_cases hmo : (n1 : Int) < most
      · have hcall := HP.out ⟨⟨y1, y2, y3, y4⟩, y5⟩ HM.out _ (HB.out.alloc (.cells (kC ⟨⟨y1, y2, y3, y4⟩, y5⟩).toArray 94))
        simp only [kV, kC] at hcall
        cases hq : P ⟨⟨y1, y2, y3, y4⟩, y5⟩
        · rw [hq] at hcall
          have HR := hid (show spl P most (l.take (k + 1)) = ((spl P most (l.take k)).1, (spl P most (l.take k)).2 ++ [⟨⟨y1, y2, y3, y4⟩, y5⟩]) by rw [HX.out]; unfold splS; rw [hq, Bool.and_false]; rfl)
          clear hq
          go_wp2_with (first
            | (go_at_fn g; refine hcall.mono ?_; rintro e w1 ⟨rfl, hb'⟩; have HB1 := hid ((HB.out.alloc (.cells (kC ⟨⟨y1, y2, y3, y4⟩, y5⟩).toArray 94)).trans hb'); have HBB := hid (Bw.trans (Bw.alloc (Bw.refl wr) (.cells (kC ⟨⟨y1, y2, y3, y4⟩, y5⟩).toArray 94)) hb'); have hbx := (Blk.new wr (kC ⟨⟨y1, y2, y3, y4⟩, y5⟩).toArray 94).bw hb'; clear hb'; have z0 := hbx.cell 0; have z1 := hbx.cell 1; have z2 := hbx.cell 2; have z3 := hbx.cell 3; have z4 := hbx.cell 4; simp only [kC, List.getElem?_toArray, List.getElem?_cons_zero, List.getElem?_cons_succ] at z0 z1 z2 z3 z4; have hlx := hbx.lt; clear hbx)
            | (at_builtin; refine wpList_append_row _ rfl _ _ 63 rfl 94 i2 _ 5 40 Try.underlying63 I2.out.1 I2.out.2.1 I2.out.2.2.1 I2.out.2.2.2 rfl (by decide) (.slice ab n2 cb) n2 ((spl P most (l.take k)).2.flatMap kC) rfl (H2.out.bw (HBB.out.trans (Bw.alloc (Bw.refl w1) _))).1 ⟨_, 0, none⟩ 1 1 (kC ⟨⟨y1, y2, y3, y4⟩, y5⟩) rfl rfl ?c1 (kC_one _) ?c3 ?c4 ?_)
            | fail)
          case c1 =>
            intro j u hj
            match j, hj with
            | 0, hj => simp [kC] at hj; subst hj; simp [Addr.add, go_sem]
            | 1, hj => simp [kC] at hj; subst hj; simp [Addr.add, go_sem]
            | 2, hj => simp [kC] at hj; subst hj; simp [Addr.add, go_sem]
            | 3, hj => simp [kC] at hj; subst hj; simp [Addr.add, go_sem]
            | 4, hj => simp [kC] at hj; subst hj; simp [Addr.add, go_sem]
          case c3 => unfold maxLen; omega
          case c4 => omega
          intro v' w2 hown hgr hvb
          have HQ := hid (H2.out.grown2 (by have := HB1.out.size; have := HBB.out.size; omega) hown hvb)
          have HO2 := hid ((H1.out.bw (HBB.out.trans (Bw.alloc (Bw.refl w1) _))).beside hgr (HAP.out))
          have HAP2 := hid (apart_sym (apart_grown (apart_sym HAP.out) H1.out.1 (by have := HB1.out.size; have := HBB.out.size; omega) hvb))
          have HB2 := hid ((H2.out.bw (HBB.out.trans (Bw.alloc (Bw.refl w1) _))).bwGrown (Bw.alloc HB1.out _) hgr)
          obtain ⟨av', cv', e⟩ := own_form hown
          subst e
          clear hown hgr hvb
          go_wp2
          go_roundw
          case rel => exact ⟨k + 1, by omega, by go_num, by rw [HR.out, HN1.out]; exact HO2.out, by rw [HR.out, fm_snoc, List.length_append, HN2.out]; exact HQ.out, HAP2.out, HB2.out⟩
          case measure => simp [intOf]; omega
        · rw [hq] at hcall
          have HR := hid (show spl P most (l.take (k + 1)) = ((spl P most (l.take k)).1 ++ [⟨⟨y1, y2, y3, y4⟩, y5⟩], (spl P most (l.take k)).2) by rw [HX.out]; unfold splS; rw [hq, HN1.out, decide_eq_true hmo]; rfl)
          clear hq
          go_wp2_with (first
            | (go_at_fn g; refine hcall.mono ?_; rintro e w1 ⟨rfl, hb'⟩; have HB1 := hid ((HB.out.alloc (.cells (kC ⟨⟨y1, y2, y3, y4⟩, y5⟩).toArray 94)).trans hb'); have HBB := hid (Bw.trans (Bw.alloc (Bw.refl wr) (.cells (kC ⟨⟨y1, y2, y3, y4⟩, y5⟩).toArray 94)) hb'); have hbx := (Blk.new wr (kC ⟨⟨y1, y2, y3, y4⟩, y5⟩).toArray 94).bw hb'; clear hb'; have z0 := hbx.cell 0; have z1 := hbx.cell 1; have z2 := hbx.cell 2; have z3 := hbx.cell 3; have z4 := hbx.cell 4; simp only [kC, List.getElem?_toArray, List.getElem?_cons_zero, List.getElem?_cons_succ] at z0 z1 z2 z3 z4; have hlx := hbx.lt; clear hbx)
            | (at_builtin; refine wpList_append_row _ rfl _ _ 63 rfl 94 i2 _ 5 40 Try.underlying63 I2.out.1 I2.out.2.1 I2.out.2.2.1 I2.out.2.2.2 rfl (by decide) (.slice aa n1 ca) n1 ((spl P most (l.take k)).1.flatMap kC) rfl (H1.out.bw (HBB.out.trans (Bw.alloc (Bw.refl w1) _))).1 ⟨_, 0, none⟩ 1 1 (kC ⟨⟨y1, y2, y3, y4⟩, y5⟩) rfl rfl ?c1 (kC_one _) ?c3 ?c4 ?_)
            | fail)
          case c1 =>
            intro j u hj
            match j, hj with
            | 0, hj => simp [kC] at hj; subst hj; simp [Addr.add, go_sem]
            | 1, hj => simp [kC] at hj; subst hj; simp [Addr.add, go_sem]
            | 2, hj => simp [kC] at hj; subst hj; simp [Addr.add, go_sem]
            | 3, hj => simp [kC] at hj; subst hj; simp [Addr.add, go_sem]
            | 4, hj => simp [kC] at hj; subst hj; simp [Addr.add, go_sem]
          case c3 => unfold maxLen; omega
          case c4 => omega
          intro v' w2 hown hgr hvb
          have HQ := hid (H1.out.grown2 (by have := HB1.out.size; have := HBB.out.size; omega) hown hvb)
          have HO2 := hid ((H2.out.bw (HBB.out.trans (Bw.alloc (Bw.refl w1) _))).beside hgr (fun b e k => HAP.out b k e))
          have HAP2 := hid (apart_grown HAP.out H2.out.1 (by have := HB1.out.size; have := HBB.out.size; omega) hvb)
          have HB2 := hid ((H1.out.bw (HBB.out.trans (Bw.alloc (Bw.refl w1) _))).bwGrown (Bw.alloc HB1.out _) hgr)
          obtain ⟨av', cv', e⟩ := own_form hown
          subst e
          clear hown hgr hvb
          go_wp2
          go_roundw
          case rel => exact ⟨k + 1, by omega, by go_num, by rw [HR.out, fm_snoc, List.length_append, HN1.out]; exact HQ.out, by rw [HR.out, HN2.out]; exact HO2.out, HAP2.out, HB2.out⟩
          case measure => simp [intOf]; omega
      · have HR := hid (show spl P most (l.take (k + 1)) = ((spl P most (l.take k)).1, (spl P most (l.take k)).2 ++ [⟨⟨y1, y2, y3, y4⟩, y5⟩]) by rw [HX.out]; unfold splS; rw [HN1.out, decide_eq_false hmo]; rfl)
        have HB1 := HB
        go_wp2_with (first
          | (at_builtin; refine wpList_append_row _ rfl _ _ 63 rfl 94 i2 _ 5 40 Try.underlying63 I2.out.1 I2.out.2.1 I2.out.2.2.1 I2.out.2.2.2 rfl (by decide) (.slice ab n2 cb) n2 ((spl P most (l.take k)).2.flatMap kC) rfl (H2.out.bw (Bw.alloc (Bw.alloc (Bw.refl wr) _) _)).1 ⟨_, 0, none⟩ 1 1 (kC ⟨⟨y1, y2, y3, y4⟩, y5⟩) rfl rfl ?c1 (kC_one _) ?c3 ?c4 ?_)
          | fail)
        case c1 =>
          intro j u hj
          match j, hj with
          | 0, hj => simp [kC] at hj; subst hj; simp [Addr.add, go_sem]
          | 1, hj => simp [kC] at hj; subst hj; simp [Addr.add, go_sem]
          | 2, hj => simp [kC] at hj; subst hj; simp [Addr.add, go_sem]
          | 3, hj => simp [kC] at hj; subst hj; simp [Addr.add, go_sem]
          | 4, hj => simp [kC] at hj; subst hj; simp [Addr.add, go_sem]
        case c3 => unfold maxLen; omega
        case c4 => omega
        intro v' w2 hown hgr hvb
        have HQ := hid (H2.out.grown2 (by have := HB.out.size; omega) hown hvb)
        have HO2 := hid ((H1.out.bw (Bw.alloc (Bw.alloc (Bw.refl wr) _) _)).beside hgr (HAP.out))
        have HAP2 := hid (apart_sym (apart_grown (apart_sym HAP.out) H1.out.1 (by have := HB.out.size; omega) hvb))
        have HB2 := hid ((H2.out.bw (Bw.alloc (Bw.alloc (Bw.refl wr) _) _)).bwGrown (Bw.alloc (Bw.alloc HB.out _) _) hgr)
        obtain ⟨av', cv', e⟩ := own_form hown
        subst e
        clear hown hgr hvb
        go_wp2
        go_roundw
        case rel => exact ⟨k + 1, by omega, by go_num, by rw [HR.out, HN1.out]; exact HO2.out, by rw [HR.out, fm_snoc, List.length_append, HN2.out]; exact HQ.out, HAP2.out, HB2.out⟩
        case measure => simp [intOf]; omega
    · have h4' : ¬ (k : Int) < (l.length : Int) := by omega
      obtain rfl : k = l.length := by omega
      rw [List.take_length] at h1 h2
      have H1 := hid h1
      have H2 := hid h2
      have HAP := hid hap
      have HB := hid hbw
      rw [List.take_length] at HAP
      clear h1 h2 hap hbw HNX
      rw [List.take_length]
      go_wp2
      all_goals go_ret2
      all_goals exact ⟨_, _, rfl, H1.out.own, H2.out.own, HAP.out, HB.out⟩

end Go.Proofs.Yteeeijbjokkomaa
