/- New, Make, Lock, Unlock: contracts. -/
import Derived.Test.YteeeijbjokkomaaPt
set_option linter.unusedSimpArgs false
set_option linter.unusedVariables false
namespace Go.Proofs.Yteeeijbjokkomaa
open Go Go.RowKit

theorem PS.made (w : World) : PS (w.alloc (.cells #[.slice none 0 0, .slice none 0 0, .slice none 0 0] 65)) w.heap.size [w.heap.size] (.slice none 0 0) (.slice none 0 0) (.slice none 0 0) [] ⟨[], [], []⟩ :=
  ⟨Blk.new w _ _, World.ownsRow_nil _ _ _ _, World.ownsRow_nil _ _ _ _, World.ownsRow_nil _ _ _ _, by simp, fun b hb => by simp [Value.ownBlock] at hb, fun b hb => by simp [Value.ownBlock] at hb, fun b hb => by simp [Value.ownBlock] at hb, fun b hb => by simp at hb; subst hb; simp, rfl, fun x hx => by simp at hx, ⟨fun x hx => by simp at hx, fun x hx => by simp at hx, fun x hx => by simp at hx, by simp⟩, by simp⟩

set_option maxRecDepth 100000 in
set_option maxHeartbeats 1000000 in
theorem New_any (w : World) : Calls Try.prog 9 #[] w fun e w' => ∃ p, e = .returned (.pointer (some ⟨p, 0, none⟩)) ∧ PX w' p [p] ⟨[], [], []⟩ ∧ Bw w w' ∧ w.heap.size ≤ p := by
  go_enter Try.func9, Try.ntmps9
  go_wp2
  all_goals go_ret
  all_goals exact ⟨_, rfl, ⟨_, _, _, _, PS.made w⟩, Bw.alloc (Bw.refl _) _, Nat.le_refl _⟩

section
variable {w : World} {p : Nat} {bs : List Nat} {mv wv kv : Value} {R : List MM} {A : LL}

set_option maxRecDepth 100000 in
set_option maxHeartbeats 1000000 in
theorem Make_no (h : PS w p bs mv wv kv R A) (hr : 1024 ≤ R.length) : Calls Try.prog 12 #[.pointer (some ⟨p, 0, none⟩)] w fun e w' => e = .returned (.tuple #[.int .i64 0, .int .i64 3]) ∧ Bw w w' := by
  obtain ⟨hlp, c0, c1, c2, hfz⟩ := h.cells
  obtain ⟨am, cm, rfl⟩ := own_form h.rm
  have h1 : (1024 : Int) ≤ (R.length : Int) := by omega
  clear h
  go_enter Try.func12, Try.ntmps12
  go_wp2
  all_goals go_ret2
  all_goals exact ⟨rfl, Bw.refl _⟩

set_option maxRecDepth 100000 in
set_option maxHeartbeats 1000000 in
theorem Make_yes (h : PS w p bs mv wv kv R A) (hr : R.length < 1024) : Calls Try.prog 12 #[.pointer (some ⟨p, 0, none⟩)] w fun e w' => ∃ bs', e = .returned (.tuple #[.int .i64 R.length, .int .i64 0]) ∧ PX w' p bs' { A with M := A.M ++ [(-1, 0)] } ∧ Nx bs w w' bs' := by
  obtain ⟨hlp, c0, c1, c2, hfz⟩ := h.cells
  obtain ⟨am, cm, rfl⟩ := own_form h.rm
  have h1 : ¬ (1024 : Int) ≤ (R.length : Int) := by omega
  have HP := hid h
  obtain ⟨i2, hi2, hz2, hs2, hy2⟩ := info_parts infoMo
  have I2 := hid (And.intro hi2 (And.intro hz2 (And.intro hs2 hy2)))
  clear h hi2 hz2 hs2 hy2
  have e9 : ((R.length : Int) + 1 - 1) = (R.length : Int) := by omega
  go_enter Try.func12, Try.ntmps12
  go_wp2_with (first
    | (at_builtin; refine wpList_append_row _ rfl _ _ 61 rfl 85 i2 _ 2 16 Try.underlying61 I2.out.1 I2.out.2.1 I2.out.2.2.1 I2.out.2.2.2 rfl (by decide) (.slice am R.length cm) R.length (R.flatMap mC) rfl (HP.out.bw (Bw.alloc (Bw.refl _) _)).rm ⟨w.heap.size, 0, none⟩ 1 1 (mC (0, 0)) rfl rfl ?c1 (mC_one _) ?c3 ?c4 ?_)
    | fail)
  case c1 =>
    intro j u hj
    match j, hj with
    | 0, hj => simp [mC] at hj; subst hj; simp [Addr.add, go_sem]
    | 1, hj => simp [mC] at hj; subst hj; simp [Addr.add, go_sem]
  case c3 => unfold maxLen; omega
  case c4 => omega
  intro v' w2 hown hgr hvb
  have HPA := HP.out.bw (Bw.alloc (Bw.refl w) (.cells #[.int .i64 0, .int .i64 0] 85))
  have hbA := blk_grown hgr HPA.rm HPA.blk (by decide)
  have HX := hid (PS.turnM HP.out hbA (keep_grown hgr HPA.rm HPA.rw (by decide)) (keep_grown hgr HPA.rm HPA.rk (by decide)) hown (Ex.grown (Ex.of_bw (Bw.alloc (Bw.refl w) _)) hgr (fun b e => .inl (HP.out.mm b e))) (fun b e => hvb.elim (fun k => .inl (HP.out.mm b (k ▸ e))) (fun k => .inr (by have := k b e; omega))) hr)
  have d0 := hbA.cell 0
  simp only [List.getElem?_toArray, List.getElem?_cons_zero] at d0
  have hlA := hbA.lt
  have hfA := hbA.free
  obtain ⟨av', cv', e⟩ := own_form hown
  subst e
  clear hgr hown hvb HPA hbA
  go_wp2
  all_goals go_ret2
  all_goals exact ⟨_, by rfl, ⟨_, _, _, _, HX.out.1⟩, HX.out.2⟩

/-- Make, whatever there is. -/
theorem Make_any (h : PX w p bs A) : Calls Try.prog 12 #[.pointer (some ⟨p, 0, none⟩)] w fun e w' => ∃ bs', e = .returned (.tuple #[.int .i64 (makeA A).2.1, .int .i64 (makeA A).2.2]) ∧ PX w' p bs' (makeA A).1 ∧ Nx bs w w' bs' := by
  obtain ⟨mv, wv, kv, R, h⟩ := h
  unfold makeA
  rw [h.len]
  by_cases hr : 1024 ≤ R.length
  · simp only [if_pos hr]
    exact (Make_no h hr).mono fun e w' ⟨he, hb⟩ => ⟨bs, he, ⟨_, _, _, _, h.bw hb⟩, Nx.of_bw hb⟩
  · simp only [if_neg hr]
    exact Make_yes h (by omega)

end

end Go.Proofs.Yteeeijbjokkomaa
