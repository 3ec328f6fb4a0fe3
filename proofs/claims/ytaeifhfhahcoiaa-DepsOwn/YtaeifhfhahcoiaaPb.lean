/- places and find, for each of the three concerns: contracts. -/
import Derived.Test.YtaeifhfhahcoiaaPa
set_option linter.unusedSimpArgs false
set_option linter.unusedVariables false
namespace Go.Proofs.Ytaeifhfhahcoiaa
open Go Go.RowKit

def ints (l : List Nat) : List Value := l.map (fun (i : Nat) => Value.int .i64 (i : Int))
theorem ints_len (l : List Nat) : (ints l).length = l.length := by simp [ints]
theorem ints_snoc (l : List Nat) (i : Nat) : ints (l ++ [i]) = ints l ++ [.int .i64 (i : Int)] := by simp [ints]
theorem ints_one' (l : List Nat) : ∀ u ∈ ints l, u.oneCell' = true := by
  intro u hu
  obtain ⟨x, _, rfl⟩ := List.mem_map.1 hu
  rfl

theorem Sl.three {w : World} {G : Nat → Prop} {a : Option Addr} {cap n : Nat} {cs : List Value} (h : Sl w G (.slice a n cap) n 3 cs) {i : Nat} (hi : i < n) :
    ∃ b o, a = some ⟨b, o, none⟩ ∧ b < w.heap.size ∧ w.cell? ⟨b, o + i * 3, none⟩ = cs[i * 3]? ∧ w.cell? ⟨b, o + i * 3 + 1, none⟩ = cs[i * 3 + 1]? ∧ w.cell? ⟨b, o + i * 3 + 2, none⟩ = cs[i * 3 + 2]? := by
  obtain ⟨b, o, e, hlt, _, hc⟩ := h.cellAt (by omega)
  exact ⟨b, o, e, hlt, hc _ (by omega), by rw [Nat.add_assoc]; exact hc _ (by omega), by rw [Nat.add_assoc]; exact hc _ (by omega)⟩


set_option maxRecDepth 100000 in
set_option maxHeartbeats 1000000 in
theorem placesV {GG : Nat → Prop} {FG : Nat} (f : Int) (rv : Value) (L : List (VV × Value)) (w : World) (hs : Sl w GG rv L.length 3 (rowC L)) (hm : L.length ≤ 1000) (HQ : Hid (∀ q ∈ L, Sl w GG q.2 q.1.on.length 2 (depC q.1.on) ∧ nmsP FG q.1.on q.1.on.length ∧ q.1.on.length ≤ 1000)) :
    Calls Try.prog 32 #[rv, .func (.method "jacquard/deps.concerns") #[.iface 81 (.int .i64 f)] #[]] w fun e w' => ∃ r, e = .returned r ∧ w'.ownsRow w.heap.size 3 1 r (all (vof f) (L.map Prod.fst)).length (ints (all (vof f) (L.map Prod.fst))) ∧ Bw w w' := by
  obtain ⟨a, c, rfl⟩ := hs.form
  have HS := hid hs
  obtain ⟨i2, hi2, hz2, hs2, hy2⟩ := info_parts infoI
  have I2 := hid (And.intro hi2 (And.intro hz2 (And.intro hs2 hy2)))
  clear hs hi2 hz2 hs2 hy2
  have hme : ∀ w, (method 207 81 (.int .i64 f) "jacquard/deps.concerns").run Try.prog w = .ok (48, .int .i64 f) w := fun _ => by kernel_rfl
  go_enter Try.func32, Try.ntmps32
  go_wp2
  go_loopw [5, 10] (fun o j wr => ∃ (k : Nat), k ≤ L.length ∧ j = .int .i64 k ∧ wr.ownsRow w.heap.size 3 1 o (idx (vof f) (L.map Prod.fst) k).length (ints (idx (vof f) (L.map Prod.fst) k)) ∧ Bw w wr) (fun o j _ => L.length - (intOf j).toNat)
  case atStart => exact ⟨0, by omega, rfl, World.ownsRow_nil w _ _ _, Bw.refl w⟩
  case round =>
    obtain ⟨k, hk, rfl, hown, hbw⟩ := hrel
    obtain ⟨ao, co, e⟩ := own_form hown
    subst e
    have HO := hid hown
    have HB := hid hbw
    have hsz := hbw.size
    have hsl := idx_len (vof f) (L.map Prod.fst) k
    by_cases h4 : k < L.length
    · have h4' : (k : Int) < (L.length : Int) := by omega
      obtain ⟨b, o, e, hlb, x0, x1, x2⟩ := (HS.out.below hbw).three h4
      subst e
      obtain ⟨q0, q1, q2⟩ := rowC_get L k h4
      rw [q0] at x0
      rw [q1] at x1
      rw [q2] at x2
      have hL : (L.map Prod.fst)[k]? = some (L[k]).1 := by simp [h4]
      have HY := hid (fun h => idx_yes (P := vof f) hL h)
      have HN := hid (fun h => idx_no (P := vof f) hL h)
      have HQ1 := hid (HQ.out _ (List.getElem_mem h4))
      clear hown hbw q0 q1 q2 hL
      obtain ⟨q, hq⟩ : ∃ q, L[k] = q := ⟨_, rfl⟩
      rw [hq] at x0 x1 x2 HY HN HQ1
      clear hq
      obtain ⟨q1, q2⟩ := q
      obtain ⟨a1, c1, e1⟩ := HQ1.out.1.form
      simp only at e1
      subst e1
      simp only at x0 x1 x2 HY HN
      obtain ⟨bb, hbb⟩ : ∃ bb, vof f q1 = bb := ⟨_, rfl⟩
      cases bb
      · have HST := hid (HN.out hbb)
        go_wp2_with (first
        | (go_at_call 48; refine (vof_any f (q1, .slice a1 q1.on.length c1) _).mono ?_; rintro e w1 ⟨he1, hb1⟩; rw [show (vof f) (q1, Value.slice a1 q1.on.length c1).1 = false from hbb] at he1; subst he1; have HB1 := hid ((HB.out.alloc _).trans hb1); have HO1 := hid (own_bw (HO.out.alloc _) hb1); clear hb1)
          | fail)
        go_roundw
        case rel => exact ⟨k + 1, by omega, by go_num, by rw [HST.out]; exact HO1.out, HB1.out⟩
        case measure => simp [intOf]; omega
      · have HST := hid (HY.out hbb)
        go_wp2_with (first
        | (go_at_call 48; refine (vof_any f (q1, .slice a1 q1.on.length c1) _).mono ?_; rintro e w1 ⟨he1, hb1⟩; rw [show (vof f) (q1, Value.slice a1 q1.on.length c1).1 = true from hbb] at he1; subst he1; have HB1 := hid ((HB.out.alloc _).trans hb1); have HO1 := hid (own_bw (HO.out.alloc _) hb1); clear hb1)
        | (at_builtin; refine wpList_append_own _ rfl _ _ 49 rfl w.heap.size 3 i2 _ 1 8 Try.underlying49 I2.out.1 I2.out.2.1 I2.out.2.2.1 I2.out.2.2.2 rfl (by decide) (.slice ao (idx (vof f) (L.map Prod.fst) k).length co) (idx (vof f) (L.map Prod.fst) k).length (ints (idx (vof f) (L.map Prod.fst) k)) rfl (HO1.out.alloc _) ⟨w1.heap.size, 0, none⟩ 1 1 [.int .i64 (k : Nat)] rfl rfl ?c1 ?c2 ?c3 ?c4 ?c5 ?_)
          | fail)
        case c1 =>
          intro j u hj
          match j, hj with
          | 0, hj => simp at hj; subst hj; simp [Addr.add, go_sem]
        case c2 => intro u hu; simp at hu; rcases hu with rfl; rfl
        case c3 => unfold maxLen; omega
        case c4 => omega
        case c5 => simp only [World.size_alloc]; have := HB1.out.size; omega
        intro v' w2 hown hgr _
        obtain ⟨av', cv', e⟩ := own_form hown
        subst e
        have HW1 := hid (bw_grown (Bw.alloc HB1.out _) (Nat.le_refl _) (HO1.out.alloc _) hgr)
        have hown2 : w2.ownsRow w.heap.size 3 1 (.slice av' ((idx (vof f) (L.map Prod.fst) k).length + 1) cv') (idx (vof f) (L.map Prod.fst) (k + 1)).length (ints (idx (vof f) (L.map Prod.fst) (k + 1))) := by
          rw [HST.out, ints_snoc, List.length_append]
          exact hown
        have HO2 := hid hown2
        clear hgr hown hown2
        go_wp2
        go_roundw
        case rel => exact ⟨k + 1, by omega, by go_num, HO2.out, HW1.out⟩
        case measure => simp [intOf]; omega
    · have h4' : ¬ (k : Int) < (L.length : Int) := by omega
      obtain rfl : k = L.length := by omega
      have hL : all (vof f) (L.map Prod.fst) = idx (vof f) (L.map Prod.fst) L.length := by simp [all]
      have HL := hid hL
      clear hown hbw hL
      go_wp2
      all_goals go_ret
      all_goals exact ⟨_, rfl, by rw [HL.out]; exact HO.out, HB.out⟩

set_option maxRecDepth 100000 in
set_option maxHeartbeats 1000000 in
theorem placesA {GG : Nat → Prop} {FG : Nat} (f : Int) (rv : Value) (L : List (VV × Value)) (w : World) (hs : Sl w GG rv L.length 3 (rowC L)) (hm : L.length ≤ 1000) (HQ : Hid (∀ q ∈ L, Sl w GG q.2 q.1.on.length 2 (depC q.1.on) ∧ nmsP FG q.1.on q.1.on.length ∧ q.1.on.length ≤ 1000)) :
    Calls Try.prog 32 #[rv, .func (.method "jacquard/deps.concerns") #[.iface 82 (.int .i64 f)] #[]] w fun e w' => ∃ r, e = .returned r ∧ w'.ownsRow w.heap.size 3 1 r (all (aof f) (L.map Prod.fst)).length (ints (all (aof f) (L.map Prod.fst))) ∧ Bw w w' := by
  obtain ⟨a, c, rfl⟩ := hs.form
  have HS := hid hs
  obtain ⟨i2, hi2, hz2, hs2, hy2⟩ := info_parts infoI
  have I2 := hid (And.intro hi2 (And.intro hz2 (And.intro hs2 hy2)))
  clear hs hi2 hz2 hs2 hy2
  have hme : ∀ w, (method 207 82 (.int .i64 f) "jacquard/deps.concerns").run Try.prog w = .ok (49, .int .i64 f) w := fun _ => by kernel_rfl
  go_enter Try.func32, Try.ntmps32
  go_wp2
  go_loopw [5, 10] (fun o j wr => ∃ (k : Nat), k ≤ L.length ∧ j = .int .i64 k ∧ wr.ownsRow w.heap.size 3 1 o (idx (aof f) (L.map Prod.fst) k).length (ints (idx (aof f) (L.map Prod.fst) k)) ∧ Bw w wr) (fun o j _ => L.length - (intOf j).toNat)
  case atStart => exact ⟨0, by omega, rfl, World.ownsRow_nil w _ _ _, Bw.refl w⟩
  case round =>
    obtain ⟨k, hk, rfl, hown, hbw⟩ := hrel
    obtain ⟨ao, co, e⟩ := own_form hown
    subst e
    have HO := hid hown
    have HB := hid hbw
    have hsz := hbw.size
    have hsl := idx_len (aof f) (L.map Prod.fst) k
    by_cases h4 : k < L.length
    · have h4' : (k : Int) < (L.length : Int) := by omega
      obtain ⟨b, o, e, hlb, x0, x1, x2⟩ := (HS.out.below hbw).three h4
      subst e
      obtain ⟨q0, q1, q2⟩ := rowC_get L k h4
      rw [q0] at x0
      rw [q1] at x1
      rw [q2] at x2
      have hL : (L.map Prod.fst)[k]? = some (L[k]).1 := by simp [h4]
      have HY := hid (fun h => idx_yes (P := aof f) hL h)
      have HN := hid (fun h => idx_no (P := aof f) hL h)
      have HQ1 := hid (HQ.out _ (List.getElem_mem h4))
      clear hown hbw q0 q1 q2 hL
      obtain ⟨q, hq⟩ : ∃ q, L[k] = q := ⟨_, rfl⟩
      rw [hq] at x0 x1 x2 HY HN HQ1
      clear hq
      obtain ⟨q1, q2⟩ := q
      obtain ⟨a1, c1, e1⟩ := HQ1.out.1.form
      simp only at e1
      subst e1
      simp only at x0 x1 x2 HY HN
      obtain ⟨bb, hbb⟩ : ∃ bb, aof f q1 = bb := ⟨_, rfl⟩
      cases bb
      · have HST := hid (HN.out hbb)
        go_wp2_with (first
        | (go_at_call 49; refine (aof_any f (q1, .slice a1 q1.on.length c1) _).mono ?_; rintro e w1 ⟨he1, hb1⟩; rw [show (aof f) (q1, Value.slice a1 q1.on.length c1).1 = false from hbb] at he1; subst he1; have HB1 := hid ((HB.out.alloc _).trans hb1); have HO1 := hid (own_bw (HO.out.alloc _) hb1); clear hb1)
          | fail)
        go_roundw
        case rel => exact ⟨k + 1, by omega, by go_num, by rw [HST.out]; exact HO1.out, HB1.out⟩
        case measure => simp [intOf]; omega
      · have HST := hid (HY.out hbb)
        go_wp2_with (first
        | (go_at_call 49; refine (aof_any f (q1, .slice a1 q1.on.length c1) _).mono ?_; rintro e w1 ⟨he1, hb1⟩; rw [show (aof f) (q1, Value.slice a1 q1.on.length c1).1 = true from hbb] at he1; subst he1; have HB1 := hid ((HB.out.alloc _).trans hb1); have HO1 := hid (own_bw (HO.out.alloc _) hb1); clear hb1)
        | (at_builtin; refine wpList_append_own _ rfl _ _ 49 rfl w.heap.size 3 i2 _ 1 8 Try.underlying49 I2.out.1 I2.out.2.1 I2.out.2.2.1 I2.out.2.2.2 rfl (by decide) (.slice ao (idx (aof f) (L.map Prod.fst) k).length co) (idx (aof f) (L.map Prod.fst) k).length (ints (idx (aof f) (L.map Prod.fst) k)) rfl (HO1.out.alloc _) ⟨w1.heap.size, 0, none⟩ 1 1 [.int .i64 (k : Nat)] rfl rfl ?c1 ?c2 ?c3 ?c4 ?c5 ?_)
          | fail)
        case c1 =>
          intro j u hj
          match j, hj with
          | 0, hj => simp at hj; subst hj; simp [Addr.add, go_sem]
        case c2 => intro u hu; simp at hu; rcases hu with rfl; rfl
        case c3 => unfold maxLen; omega
        case c4 => omega
        case c5 => simp only [World.size_alloc]; have := HB1.out.size; omega
        intro v' w2 hown hgr _
        obtain ⟨av', cv', e⟩ := own_form hown
        subst e
        have HW1 := hid (bw_grown (Bw.alloc HB1.out _) (Nat.le_refl _) (HO1.out.alloc _) hgr)
        have hown2 : w2.ownsRow w.heap.size 3 1 (.slice av' ((idx (aof f) (L.map Prod.fst) k).length + 1) cv') (idx (aof f) (L.map Prod.fst) (k + 1)).length (ints (idx (aof f) (L.map Prod.fst) (k + 1))) := by
          rw [HST.out, ints_snoc, List.length_append]
          exact hown
        have HO2 := hid hown2
        clear hgr hown hown2
        go_wp2
        go_roundw
        case rel => exact ⟨k + 1, by omega, by go_num, HO2.out, HW1.out⟩
        case measure => simp [intOf]; omega
    · have h4' : ¬ (k : Int) < (L.length : Int) := by omega
      obtain rfl : k = L.length := by omega
      have hL : all (aof f) (L.map Prod.fst) = idx (aof f) (L.map Prod.fst) L.length := by simp [all]
      have HL := hid hL
      clear hown hbw hL
      go_wp2
      all_goals go_ret
      all_goals exact ⟨_, rfl, by rw [HL.out]; exact HO.out, HB.out⟩

set_option maxRecDepth 100000 in
set_option maxHeartbeats 1000000 in
theorem placesW {GG : Nat → Prop} {FG : Nat} (g v : Int) (rv : Value) (L : List (VV × Value)) (w : World) (hs : Sl w GG rv L.length 3 (rowC L)) (hm : L.length ≤ 1000) (HQ : Hid (∀ q ∈ L, Sl w GG q.2 q.1.on.length 2 (depC q.1.on) ∧ nmsP FG q.1.on q.1.on.length ∧ q.1.on.length ≤ 1000)) :
    Calls Try.prog 32 #[rv, .func (.method "jacquard/deps.concerns") #[.iface 85 (.agg #[.int .i64 g, .int .u64 v])] #[]] w fun e w' => ∃ r, e = .returned r ∧ w'.ownsRow w.heap.size 3 1 r (all (hit g v) (L.map Prod.fst)).length (ints (all (hit g v) (L.map Prod.fst))) ∧ Bw w w' := by
  obtain ⟨a, c, rfl⟩ := hs.form
  have HS := hid hs
  obtain ⟨i2, hi2, hz2, hs2, hy2⟩ := info_parts infoI
  have I2 := hid (And.intro hi2 (And.intro hz2 (And.intro hs2 hy2)))
  clear hs hi2 hz2 hs2 hy2
  have hme : ∀ w, (method 207 85 (.agg #[.int .i64 g, .int .u64 v]) "jacquard/deps.concerns").run Try.prog w = .ok (50, .agg #[.int .i64 g, .int .u64 v]) w := fun _ => by kernel_rfl
  go_enter Try.func32, Try.ntmps32
  go_wp2
  go_loopw [5, 10] (fun o j wr => ∃ (k : Nat), k ≤ L.length ∧ j = .int .i64 k ∧ wr.ownsRow w.heap.size 3 1 o (idx (hit g v) (L.map Prod.fst) k).length (ints (idx (hit g v) (L.map Prod.fst) k)) ∧ Bw w wr) (fun o j _ => L.length - (intOf j).toNat)
  case atStart => exact ⟨0, by omega, rfl, World.ownsRow_nil w _ _ _, Bw.refl w⟩
  case round =>
    obtain ⟨k, hk, rfl, hown, hbw⟩ := hrel
    obtain ⟨ao, co, e⟩ := own_form hown
    subst e
    have HO := hid hown
    have HB := hid hbw
    have hsz := hbw.size
    have hsl := idx_len (hit g v) (L.map Prod.fst) k
    by_cases h4 : k < L.length
    · have h4' : (k : Int) < (L.length : Int) := by omega
      obtain ⟨b, o, e, hlb, x0, x1, x2⟩ := (HS.out.below hbw).three h4
      subst e
      obtain ⟨q0, q1, q2⟩ := rowC_get L k h4
      rw [q0] at x0
      rw [q1] at x1
      rw [q2] at x2
      have hL : (L.map Prod.fst)[k]? = some (L[k]).1 := by simp [h4]
      have HY := hid (fun h => idx_yes (P := hit g v) hL h)
      have HN := hid (fun h => idx_no (P := hit g v) hL h)
      have HQ1 := hid (HQ.out _ (List.getElem_mem h4))
      clear hown hbw q0 q1 q2 hL
      obtain ⟨q, hq⟩ : ∃ q, L[k] = q := ⟨_, rfl⟩
      rw [hq] at x0 x1 x2 HY HN HQ1
      clear hq
      obtain ⟨q1, q2⟩ := q
      obtain ⟨a1, c1, e1⟩ := HQ1.out.1.form
      simp only at e1
      subst e1
      simp only at x0 x1 x2 HY HN
      obtain ⟨bb, hbb⟩ : ∃ bb, hit g v q1 = bb := ⟨_, rfl⟩
      cases bb
      · have HST := hid (HN.out hbb)
        go_wp2_with (first
        | (go_at_call 50; refine (wr_any g v (q1, .slice a1 q1.on.length c1) _ (HQ1.out.1.below (HB.out.alloc _)) HQ1.out.2.1 HQ1.out.2.2).mono ?_; rintro e w1 ⟨he1, hb1⟩; rw [show (hit g v) (q1, Value.slice a1 q1.on.length c1).1 = false from hbb] at he1; subst he1; have HB1 := hid ((HB.out.alloc _).trans hb1); have HO1 := hid (own_bw (HO.out.alloc _) hb1); clear hb1)
          | fail)
        go_roundw
        case rel => exact ⟨k + 1, by omega, by go_num, by rw [HST.out]; exact HO1.out, HB1.out⟩
        case measure => simp [intOf]; omega
      · have HST := hid (HY.out hbb)
        go_wp2_with (first
        | (go_at_call 50; refine (wr_any g v (q1, .slice a1 q1.on.length c1) _ (HQ1.out.1.below (HB.out.alloc _)) HQ1.out.2.1 HQ1.out.2.2).mono ?_; rintro e w1 ⟨he1, hb1⟩; rw [show (hit g v) (q1, Value.slice a1 q1.on.length c1).1 = true from hbb] at he1; subst he1; have HB1 := hid ((HB.out.alloc _).trans hb1); have HO1 := hid (own_bw (HO.out.alloc _) hb1); clear hb1)
        | (at_builtin; refine wpList_append_own _ rfl _ _ 49 rfl w.heap.size 3 i2 _ 1 8 Try.underlying49 I2.out.1 I2.out.2.1 I2.out.2.2.1 I2.out.2.2.2 rfl (by decide) (.slice ao (idx (hit g v) (L.map Prod.fst) k).length co) (idx (hit g v) (L.map Prod.fst) k).length (ints (idx (hit g v) (L.map Prod.fst) k)) rfl (HO1.out.alloc _) ⟨w1.heap.size, 0, none⟩ 1 1 [.int .i64 (k : Nat)] rfl rfl ?c1 ?c2 ?c3 ?c4 ?c5 ?_)
          | fail)
        case c1 =>
          intro j u hj
          match j, hj with
          | 0, hj => simp at hj; subst hj; simp [Addr.add, go_sem]
        case c2 => intro u hu; simp at hu; rcases hu with rfl; rfl
        case c3 => unfold maxLen; omega
        case c4 => omega
        case c5 => simp only [World.size_alloc]; have := HB1.out.size; omega
        intro v' w2 hown hgr _
        obtain ⟨av', cv', e⟩ := own_form hown
        subst e
        have HW1 := hid (bw_grown (Bw.alloc HB1.out _) (Nat.le_refl _) (HO1.out.alloc _) hgr)
        have hown2 : w2.ownsRow w.heap.size 3 1 (.slice av' ((idx (hit g v) (L.map Prod.fst) k).length + 1) cv') (idx (hit g v) (L.map Prod.fst) (k + 1)).length (ints (idx (hit g v) (L.map Prod.fst) (k + 1))) := by
          rw [HST.out, ints_snoc, List.length_append]
          exact hown
        have HO2 := hid hown2
        clear hgr hown hown2
        go_wp2
        go_roundw
        case rel => exact ⟨k + 1, by omega, by go_num, HO2.out, HW1.out⟩
        case measure => simp [intOf]; omega
    · have h4' : ¬ (k : Int) < (L.length : Int) := by omega
      obtain rfl : k = L.length := by omega
      have hL : all (hit g v) (L.map Prod.fst) = idx (hit g v) (L.map Prod.fst) L.length := by simp [all]
      have HL := hid hL
      clear hown hbw hL
      go_wp2
      all_goals go_ret
      all_goals exact ⟨_, rfl, by rw [HL.out]; exact HO.out, HB.out⟩

end Go.Proofs.Ytaeifhfhahcoiaa
