/- prim.Op, FaultText, and the document's tables: contracts. -/
import Derived.Test.YtajnpdiepiinjaaDoorKD
import Derived.Deep.MidRow
set_option linter.unusedSimpArgs false
set_option linter.unusedVariables false
namespace Go.Proofs.YtajnpdiepiinjaaDoor
open Go Go.RowKit

/-- The operators' signs. -/
def sgn : List (List Int) := [[43], [45], [42], [47], [37], [61, 61], [33, 61], [60], [60, 61], [62], [62, 61]]
def sgv : List Value := sgn.map fun s => .string (strOfNums s)
def Sn (w : World) : Prop := 0 < w.heap.size ∧ ∀ i s, sgn[i]? = some s → w.cell? ⟨0, i, none⟩ = some (.string (strOfNums s))

/-- An operator's number: the first place from k on. -/
def opAt (s : ByteArray) : Nat → List (List Int) → Int × Bool
  | _, [] => (0, false)
  | k, x :: t => if strOfNums x = s then ((k : Int), true) else opAt s (k + 1) t

theorem opAt_hit {s : ByteArray} : ∀ (l : List (List Int)) (k i : Nat) (hi : i < l.length), strOfNums l[i] = s → (∀ j (hj : j < i), strOfNums (l[j]'(by omega)) ≠ s) → opAt s k l = (((k + i : Nat) : Int), true)
  | [], k, i, hi, _, _ => by simp at hi
  | x :: t, k, 0, hi, h, _ => by unfold opAt; rw [if_pos (by simpa using h)]; simp
  | x :: t, k, i + 1, hi, h, hb => by
    have h0 := hb 0 (by omega)
    unfold opAt
    rw [if_neg (by simpa using h0), opAt_hit t (k + 1) i (by simpa using hi) (by simpa using h) (fun j hj => by have := hb (j + 1) (by omega); simpa using this)]
    congr 2
    omega

theorem opAt_miss {s : ByteArray} : ∀ (l : List (List Int)) (k : Nat), (∀ j (hj : j < l.length), strOfNums l[j] ≠ s) → opAt s k l = (0, false)
  | [], k, _ => rfl
  | x :: t, k, hb => by
    have h0 := hb 0 (by simp)
    unfold opAt
    rw [if_neg (by simpa using h0)]
    exact opAt_miss t (k + 1) (fun j hj => by have := hb (j + 1) (by simpa using hj); simpa using this)

theorem sgv_len : sgv.length = 11 := rfl
theorem uSgn : Tryd.prog.underlying 28 = some (.array 11 9) := by kernel_rfl
theorem iSgn : (Tryd.prog.info? 28).map (·.size) = some sgv.length := by rw [sgv_len]; kernel_rfl

theorem Sn.range {w : World} (h : Sn w) : w.rangeAt 0 0 sgv := by
  intro j v hv
  unfold sgv at hv
  rw [List.getElem?_map, Option.map_eq_some_iff] at hv
  obtain ⟨s, hs, rfl⟩ := hv
  rw [Nat.zero_add]
  exact h.2 j s hs

theorem info9 : (Tryd.prog.info? 9).map (·.size) = some 1 := by kernel_rfl

theorem run_index_sgv (w : World) (k : Nat) (x : ByteArray) (h : k < 11) (hx : sgv[k]? = some (.string x)) :
    (Instr.index 28 (.agg sgv.toArray) (.int .i64 (k : Nat))).run Tryd.prog w = .ok (.string x) w := by
  have hn : (0 ≤ (k : Int) ∧ (k : Int) < ((11 : Nat) : Int)) := by omega
  cases hq : Tryd.prog.info? 9 with
  | none => have := info9; simp [hq] at this
  | some i =>
    have hs : i.size = 1 := by have := info9; simpa [hq] using this
    have hk : k < sgv.length := h
    have hg : sgv[k] = .string x := by rw [List.getElem?_eq_getElem hk] at hx; exact Option.some.inj hx
    simp [Instr.index, run_underlying uSgn, asIntOf, hn, go_sem, sizeOf, typeInfo, hq, hs, part, isAgg, run_underlying under9, hk, hg, h]

theorem sgn_get (i : Nat) (h : i < 11) : sgn[i]? = some (sgn[i]'h) ∧ sgv[i]? = some (.string (strOfNums (sgn[i]'h))) := by
  have hi : sgn[i]? = some (sgn[i]'h) := List.getElem?_eq_getElem h
  exact ⟨hi, by unfold sgv; rw [List.getElem?_map, hi]; rfl⟩

section
variable {w w' : World}

set_option maxRecDepth 100000 in
set_option maxHeartbeats 4000000 in
theorem Op_any (s : ByteArray) (hs : Sn w) : Calls Tryd.prog 4 #[.string s] w fun e w' => e = .returned (.tuple #[.int .i64 (opAt s 0 sgn).1, .bool (opAt s 0 sgn).2]) ∧ w' = w := by
  have HS := hid hs
  clear hs
  go_enter Tryd.func4, Tryd.ntmps4
  go_wp2_with (first
    | (refine wpList_load_mid rfl 28 (.global 0) rfl 0 0 rfl sgv _ HS.out.range uSgn rfl iSgn ?_))
  go_loopw [7] (fun j wr => ∃ i, i ≤ 11 ∧ j = .int .i64 (i : Nat) ∧ wr = w ∧ ∀ q (hq : q < 11), q < i → strOfNums (sgn[q]'hq) ≠ s) (fun j _ => 11 - (intOf j).toNat)
  case atStart => exact ⟨0, Nat.zero_le _, rfl, rfl, fun q _ h => by omega⟩
  case round =>
    obtain ⟨i, hi, rfl, hwr, ha⟩ := hrel
    subst wr
    have HA := hid ha
    clear ha
    by_cases hlt : i < 11
    · have hg := sgn_get i hlt
      have hlt2 : (i : Int) < 11 := by omega
      have hrun := fun w => run_index_sgv w i _ hlt hg.2
      clear hg
      by_cases he : strOfNums (sgn[i]'hlt) = s
      · have HR := hid (show opAt s 0 sgn = ((i : Int), true) by have := opAt_hit sgn 0 i hlt he (fun j hj => HA.out j (by omega) hj); simpa using this)
        rw [he] at hrun
        clear he
        go_wp2
        all_goals go_ret2
        all_goals exact ⟨by rw [HR.out]; rfl, rfl⟩
      · have hne := str_ne he
        have HN := hid (show ∀ q (hq : q < 11), q < i + 1 → strOfNums (sgn[q]'hq) ≠ s from fun q hq h => by
          by_cases hqi : q < i
          · exact HA.out q hq hqi
          · obtain rfl : q = i := by omega
            exact he)
        generalize strOfNums (sgn[i]'hlt) = x at hrun hne
        clear he
        go_wp2
        go_roundw
        case rel => exact ⟨i + 1, by omega, by go_num, trivial, HN.out⟩
        case measure => simp [intOf]; omega
    · obtain rfl : i = 11 := by omega
      have HR := hid (show opAt s 0 sgn = (0, false) from opAt_miss sgn 0 (fun j hj => HA.out j hj hj))
      clear hlt hi
      go_wp2
      all_goals go_ret2
      all_goals exact ⟨by rw [HR.out]; rfl, rfl⟩

set_option maxRecDepth 100000 in
set_option maxHeartbeats 4000000 in
theorem FaultText_any (f : Int) (hf : f ≤ 9223372036854775807) (ha : Tf w) : Calls Tryd.prog 6 #[.int .i64 f] w fun e w' => e = .returned (.string (strOfNums (ftx f))) ∧ w' = w := by
  by_cases h0 : 0 ≤ f ∧ f < 9
  · obtain ⟨k, rfl⟩ : ∃ k : Nat, f = k := ⟨f.toNat, by omega⟩
    have := FaultText_low k (by omega) ha
    rw [show ftx (k : Int) = thr.getD k [] from by unfold ftx; rw [if_pos h0]; simp]
    exact this
  · by_cases h1 : 100 ≤ f ∧ f < 103
    · obtain ⟨k, rfl⟩ : ∃ k : Nat, f = 100 + (k : Int) := ⟨(f - 100).toNat, by omega⟩
      have hk : k < 3 := by omega
      have c0 := ha.2.2 k (edg.getD k []) (by rw [List.getD_eq_getElem?_getD, List.getElem?_eq_getElem (show k < edg.length from hk)]; rfl)
      have hg := ha.1.2
      rw [show ftx (100 + (k : Int)) = edg.getD k [] from by unfold ftx; rw [if_neg h0, if_pos h1]; congr 1; omega]
      have b0 : decide (0 ≤ 100 + (k : Int)) = true := decide_eq_true (by omega)
      have b1 : decide (100 + (k : Int) < 9) = false := decide_eq_false (by omega)
      have b2 : decide (100 ≤ 100 + (k : Int)) = true := decide_eq_true (by omega)
      have b3 : decide ((k : Int) < 3) = true := decide_eq_true (by omega)
      have b4 : 100 + (k : Int) - 100 = k := by omega
      generalize strOfNums (edg.getD k []) = q at c0
      clear ha h0 h1
      go_enter Tryd.func6, Tryd.ntmps6
      go_wp2
      all_goals go_ret
      all_goals exact ⟨rfl, rfl⟩
    · rw [show ftx f = [] from by unfold ftx; rw [if_neg h0, if_neg h1]]
      clear ha
      by_cases g0 : 0 ≤ f
      · have b0 : decide (0 ≤ f) = true := decide_eq_true g0
        have b1 : decide (f < 9) = false := decide_eq_false (by omega)
        by_cases g1 : 100 ≤ f
        · have b2 : decide (100 ≤ f) = true := decide_eq_true g1
          have b3 : decide (f - 100 < 3) = false := decide_eq_false (by omega)
          have g2 : 103 ≤ f := by omega
          clear h0 h1
          go_enter Tryd.func6, Tryd.ntmps6
          go_wp2
          all_goals go_ret
          all_goals exact ⟨rfl, rfl⟩
        · have b2 : decide (100 ≤ f) = false := decide_eq_false g1
          clear h0 h1 g0 g1
          go_enter Tryd.func6, Tryd.ntmps6
          go_wp2
          all_goals go_ret
          all_goals exact ⟨rfl, rfl⟩
      · have b0 : decide (0 ≤ f) = false := decide_eq_false g0
        have b2 : decide (100 ≤ f) = false := decide_eq_false (by omega)
        clear h0 h1 g0
        go_enter Tryd.func6, Tryd.ntmps6
        go_wp2
        all_goals go_ret
        all_goals exact ⟨rfl, rfl⟩

end

end Go.Proofs.YtajnpdiepiinjaaDoor
