/- The document's tables of operators, faults, arguments: contracts. -/
import Derived.Test.YtajnpdiepiinjaaDoorKO
import Derived.Laws.Tables
set_option linter.unusedSimpArgs false
set_option linter.unusedVariables false
namespace Go.Proofs.YtajnpdiepiinjaaDoor
open Go Go.RowKit

def arV : List Value := ars.map (Value.int .i64)
def thV : List Value := thr.map fun s => .string (strOfNums s)
def edV : List Value := edg.map fun s => .string (strOfNums s)
theorem arV_len : arV.length = 30 := rfl
theorem thV_len : thV.length = 9 := rfl
theorem edV_len : edV.length = 3 := rfl

theorem blk_ints {w : World} {g : Nat} {e : TypeId} (h : Blk w g arV.toArray e) {k : Nat} (hk : k < 30) : w.cell? ⟨g, k, none⟩ = some (.int .i64 (ars.getD k 0)) := by
  rw [h.cell k]
  have : k < ars.length := hk
  simp [arV, this]

theorem blk_txt {w : World} {g : Nat} {e : TypeId} {tab : List (List Int)} (h : Blk w g (tab.map fun s => Value.string (strOfNums s)).toArray e) {k : Nat} (hk : k < tab.length) : w.cell? ⟨g, k, none⟩ = some (.string (strOfNums (tab.getD k []))) := by
  rw [h.cell k]
  simp [hk]

theorem bw_setRow {w0 w : World} {g : Nat} {cs : Array Value} (h : Bw w0 w) (hg : w0.heap.size ≤ g) : Bw w0 (w.setRow g cs) :=
  ⟨h.os, h.tape, h.output, by rw [setRow_size]; exact h.size, fun k hk => by rw [setRow_other _ _ _ _ (by omega)]; exact h.block k hk⟩

/-- A literal stored into what was just made. -/
theorem run_lit (w : World) (t : TypeId) (n : Nat) (vs : List Value) (hn : vs.length = n) (h1 : ∀ v ∈ vs, v.oneCell' = true) (old : Array Value) (ho : old.size = n) :
    (storeCells ⟨w.heap.size, 0, none⟩ vs).run Tryd.prog (w.alloc (.cells old t)) = .ok () ((w.alloc (.cells old t)).setRow w.heap.size vs.toArray) := by
  have := run_storeCells_from (P := Tryd.prog) w.heap.size t vs 0 old (w.alloc (.cells old t)) (heap_alloc_new w _) (by omega) h1
  simpa using this

theorem arV_one : ∀ v ∈ arV, v.oneCell' = true := ints_one _ _
theorem txt_one (tab : List (List Int)) : ∀ v ∈ tab.map (fun s => Value.string (strOfNums s)), v.oneCell' = true := by
  intro v hv
  obtain ⟨s, _, rfl⟩ := List.mem_map.1 hv
  rfl

section
variable {w w' : World}

set_option maxRecDepth 100000 in
set_option maxHeartbeats 2000000 in
theorem rArity_any (p : Int) : Calls Tryd.prog 9 #[.int .i64 p] w fun e w' => e = .returned (.int .i64 (ary p)) ∧ Bw w w' := by
  have hst := fun old ho => run_lit w 31 30 arV rfl arV_one old ho
  have hal := arV_len
  by_cases h0 : 0 ≤ p ∧ p < 30
  · obtain ⟨k, rfl⟩ : ∃ k : Nat, p = k := ⟨p.toNat, by omega⟩
    have hk : k < 30 := by omega
    have e1 : ary (k : Int) = ars.getD k 0 := by unfold ary; rw [if_pos h0]; simp
    rw [e1]
    have b0 : decide ((k : Int) < 0) = false := decide_eq_false (by omega)
    have b1 : decide (30 ≤ (k : Int)) = false := decide_eq_false (by omega)
    have c0 := fun (old : Array Value) => blk_ints (w := (w.alloc (.cells old 31)).setRow w.heap.size arV.toArray) (g := w.heap.size) (e := 31) (setRow_heap _ _ _ _ _ _ (heap_alloc_new w _)) hk
    generalize ars.getD k 0 = q at c0
    clear e1 h0
    go_enter Tryd.func9, Tryd.ntmps9
    go_wp2_with (first
      | (refine wpList_build rfl 31 _ rfl (by kernel_rfl) ?_; rw [show ((Tryd.prog.built 31 _).getD #[]) = arV.toArray from by kernel_rfl])
      | fail)
    all_goals go_ret
    all_goals exact ⟨rfl, bw_setRow (Bw.alloc (Bw.refl w) _) (Nat.le_refl _)⟩
  · have e1 : ary p = -1 := if_neg h0
    rw [e1]
    by_cases g0 : p < 0
    · have b0 : decide (p < 0) = true := decide_eq_true g0
      clear e1 h0 g0
      go_enter Tryd.func9, Tryd.ntmps9
      go_wp2_with (first
        | (refine wpList_build rfl 31 _ rfl (by kernel_rfl) ?_; rw [show ((Tryd.prog.built 31 _).getD #[]) = arV.toArray from by kernel_rfl])
        | fail)
      all_goals go_ret
      all_goals exact ⟨rfl, bw_setRow (Bw.alloc (Bw.refl w) _) (Nat.le_refl _)⟩
    · have b0 : decide (p < 0) = false := decide_eq_false g0
      have b1 : decide (30 ≤ p) = true := decide_eq_true (by omega)
      clear e1 h0 g0
      go_enter Tryd.func9, Tryd.ntmps9
      go_wp2_with (first
        | (refine wpList_build rfl 31 _ rfl (by kernel_rfl) ?_; rw [show ((Tryd.prog.built 31 _).getD #[]) = arV.toArray from by kernel_rfl])
        | fail)
      all_goals go_ret
      all_goals exact ⟨rfl, bw_setRow (Bw.alloc (Bw.refl w) _) (Nat.le_refl _)⟩

set_option maxRecDepth 100000 in
set_option maxHeartbeats 4000000 in
theorem rFaultText_any (f : Int) (hf : f ≤ 9223372036854775807) : Calls Tryd.prog 7 #[.int .i64 f] w fun e w' => e = .returned (.string (strOfNums (ftx f))) ∧ Bw w w' := by
  have hst := fun old ho => run_lit w 29 9 thV rfl (txt_one _) old ho
  have hal := thV_len
  have hbl := edV_len
  have hst2 : ∀ (old old2 : Array Value), old2.size = 3 → (storeCells ⟨w.heap.size + 1, 0, none⟩ edV).run Tryd.prog (((w.alloc (.cells old 29)).setRow w.heap.size thV.toArray).alloc (.cells old2 30)) = .ok () ((((w.alloc (.cells old 29)).setRow w.heap.size thV.toArray).alloc (.cells old2 30)).setRow (w.heap.size + 1) edV.toArray) := fun old old2 ho => by
    have := run_lit ((w.alloc (.cells old 29)).setRow w.heap.size thV.toArray) 30 3 edV rfl (txt_one _) old2 ho
    simpa using this
  have HK1 := fun (old old2 : Array Value) => (show Blk ((((w.alloc (.cells old 29)).setRow w.heap.size thV.toArray).alloc (.cells old2 30)).setRow (w.heap.size + 1) edV.toArray) w.heap.size thV.toArray 29 from by
    have h1 : Blk ((w.alloc (.cells old 29)).setRow w.heap.size thV.toArray) w.heap.size thV.toArray 29 := setRow_heap _ _ _ _ _ _ (heap_alloc_new w _)
    exact (h1.alloc _).keep (setRow_other _ _ _ _ (by omega)))
  have HK2 := fun (old old2 : Array Value) => (show Blk ((((w.alloc (.cells old 29)).setRow w.heap.size thV.toArray).alloc (.cells old2 30)).setRow (w.heap.size + 1) edV.toArray) (w.heap.size + 1) edV.toArray 30 from by
    have h1 := heap_alloc_new ((w.alloc (.cells old 29)).setRow w.heap.size thV.toArray) (.cells old2 30)
    rw [setRow_size, World.size_alloc] at h1
    exact setRow_heap _ _ _ _ _ _ h1)
  by_cases h0 : 0 ≤ f ∧ f < 9
  · obtain ⟨k, rfl⟩ : ∃ k : Nat, f = k := ⟨f.toNat, by omega⟩
    have hk : k < 9 := by omega
    have c0 := fun old old2 => blk_txt (tab := thr) (HK1 old old2) (k := k) hk
    rw [show ftx (k : Int) = thr.getD k [] from by unfold ftx; rw [if_pos h0]; simp]
    have b0 : decide (0 ≤ (k : Int)) = true := decide_eq_true (by omega)
    have b1 : decide ((k : Int) < 9) = true := decide_eq_true (by omega)
    generalize strOfNums (thr.getD k []) = q at c0
    clear h0 HK1 HK2
    go_enter Tryd.func7, Tryd.ntmps7
    go_wp2_with (first
      | (refine wpList_build rfl 29 _ rfl (by kernel_rfl) ?_; rw [show ((Tryd.prog.built 29 _).getD #[]) = thV.toArray from by kernel_rfl])
      | (refine wpList_build rfl 30 _ rfl (by kernel_rfl) ?_; rw [show ((Tryd.prog.built 30 _).getD #[]) = edV.toArray from by kernel_rfl])
      | fail)
    all_goals go_ret
    all_goals exact ⟨rfl, bw_setRow (Bw.alloc (bw_setRow (Bw.alloc (Bw.refl w) _) (Nat.le_refl _)) _) (by omega)⟩
  · by_cases h1 : 100 ≤ f ∧ f < 103
    · obtain ⟨k, rfl⟩ : ∃ k : Nat, f = 100 + (k : Int) := ⟨(f - 100).toNat, by omega⟩
      have hk : k < 3 := by omega
      have c0 := fun old old2 => blk_txt (tab := edg) (HK2 old old2) (k := k) hk
      rw [show ftx (100 + (k : Int)) = edg.getD k [] from by unfold ftx; rw [if_neg h0, if_pos h1]; congr 1; omega]
      have b0 : decide (0 ≤ 100 + (k : Int)) = true := decide_eq_true (by omega)
      have b1 : decide (100 + (k : Int) < 9) = false := decide_eq_false (by omega)
      have b2 : decide (100 ≤ 100 + (k : Int)) = true := decide_eq_true (by omega)
      have b3 : decide (100 + (k : Int) < 103) = true := decide_eq_true (by omega)
      have b4 : 100 + (k : Int) - 100 = k := by omega
      generalize strOfNums (edg.getD k []) = q at c0
      clear h0 h1 HK1 HK2
      go_enter Tryd.func7, Tryd.ntmps7
      go_wp2_with (first
        | (refine wpList_build rfl 29 _ rfl (by kernel_rfl) ?_; rw [show ((Tryd.prog.built 29 _).getD #[]) = thV.toArray from by kernel_rfl])
        | (refine wpList_build rfl 30 _ rfl (by kernel_rfl) ?_; rw [show ((Tryd.prog.built 30 _).getD #[]) = edV.toArray from by kernel_rfl])
        | fail)
      all_goals go_ret
      all_goals exact ⟨rfl, bw_setRow (Bw.alloc (bw_setRow (Bw.alloc (Bw.refl w) _) (Nat.le_refl _)) _) (by omega)⟩
    · rw [show ftx f = [] from by unfold ftx; rw [if_neg h0, if_neg h1]]
      clear HK1 HK2
      by_cases g0 : 0 ≤ f
      · have b0 : decide (0 ≤ f) = true := decide_eq_true g0
        have b1 : decide (f < 9) = false := decide_eq_false (by omega)
        by_cases g1 : 100 ≤ f
        · have b2 : decide (100 ≤ f) = true := decide_eq_true g1
          have b3 : decide (f < 103) = false := decide_eq_false (by omega)
          clear h0 h1
          go_enter Tryd.func7, Tryd.ntmps7
          go_wp2_with (first
            | (refine wpList_build rfl 29 _ rfl (by kernel_rfl) ?_; rw [show ((Tryd.prog.built 29 _).getD #[]) = thV.toArray from by kernel_rfl])
            | (refine wpList_build rfl 30 _ rfl (by kernel_rfl) ?_; rw [show ((Tryd.prog.built 30 _).getD #[]) = edV.toArray from by kernel_rfl])
            | fail)
          all_goals go_ret
          all_goals exact ⟨rfl, bw_setRow (Bw.alloc (bw_setRow (Bw.alloc (Bw.refl w) _) (Nat.le_refl _)) _) (by omega)⟩
        · have b2 : decide (100 ≤ f) = false := decide_eq_false g1
          clear h0 h1
          go_enter Tryd.func7, Tryd.ntmps7
          go_wp2_with (first
            | (refine wpList_build rfl 29 _ rfl (by kernel_rfl) ?_; rw [show ((Tryd.prog.built 29 _).getD #[]) = thV.toArray from by kernel_rfl])
            | (refine wpList_build rfl 30 _ rfl (by kernel_rfl) ?_; rw [show ((Tryd.prog.built 30 _).getD #[]) = edV.toArray from by kernel_rfl])
            | fail)
          all_goals go_ret
          all_goals exact ⟨rfl, bw_setRow (Bw.alloc (bw_setRow (Bw.alloc (Bw.refl w) _) (Nat.le_refl _)) _) (by omega)⟩
      · have b0 : decide (0 ≤ f) = false := decide_eq_false g0
        have b2 : decide (100 ≤ f) = false := decide_eq_false (by omega)
        clear h0 h1
        go_enter Tryd.func7, Tryd.ntmps7
        go_wp2_with (first
          | (refine wpList_build rfl 29 _ rfl (by kernel_rfl) ?_; rw [show ((Tryd.prog.built 29 _).getD #[]) = thV.toArray from by kernel_rfl])
          | (refine wpList_build rfl 30 _ rfl (by kernel_rfl) ?_; rw [show ((Tryd.prog.built 30 _).getD #[]) = edV.toArray from by kernel_rfl])
          | fail)
        all_goals go_ret
        all_goals exact ⟨rfl, bw_setRow (Bw.alloc (bw_setRow (Bw.alloc (Bw.refl w) _) (Nat.le_refl _)) _) (by omega)⟩

set_option maxRecDepth 100000 in
set_option maxHeartbeats 4000000 in
theorem rOp_any (s : ByteArray) : Calls Tryd.prog 5 #[.string s] w fun e w' => e = .returned (.tuple #[.int .i64 (opAt s 0 sgn).1, .bool (opAt s 0 sgn).2]) ∧ Bw w w' := by
  have hst := fun old ho => run_lit w 28 11 sgv rfl (txt_one _) old ho
  have hal := sgv_len
  have HK := hid (fun (old : Array Value) => (show Blk ((w.alloc (.cells old 28)).setRow w.heap.size sgv.toArray) w.heap.size sgv.toArray 28 from setRow_heap _ _ _ _ _ _ (heap_alloc_new w _)))
  go_enter Tryd.func5, Tryd.ntmps5
  go_wp2_with (first
    | (refine wpList_build rfl 28 _ rfl (by kernel_rfl) ?_; rw [show ((Tryd.prog.built 28 _).getD #[]) = sgv.toArray from by kernel_rfl])
    | fail)
  go_loopw [5] (fun j wr => ∃ i, i ≤ 11 ∧ j = .int .i64 (i : Nat) ∧ (Blk wr w.heap.size sgv.toArray 28 ∧ Bw w wr) ∧ ∀ q (hq : q < 11), q < i → strOfNums (sgn[q]'hq) ≠ s) (fun j _ => 11 - (intOf j).toNat)
  case atStart => exact ⟨0, Nat.zero_le _, rfl, ⟨HK.out _, bw_setRow (Bw.alloc (Bw.refl w) _) (Nat.le_refl _)⟩, fun q _ h => by omega⟩
  case round =>
    obtain ⟨i, hi, rfl, ⟨hbk, hbw⟩, ha⟩ := hrel
    have HA := hid ha
    have HB := hid (And.intro hbk hbw)
    have hl := hbk.lt
    clear ha hst hal
    by_cases hlt : i < 11
    · have c0 := blk_txt (tab := sgn) hbk (k := i) hlt
      have hlt2 : (i : Int) < 11 := by omega
      have eg : sgn.getD i [] = sgn[i]'hlt := by rw [List.getD_eq_getElem?_getD, List.getElem?_eq_getElem hlt]; rfl
      rw [eg] at c0
      clear eg hbk hbw
      by_cases he : strOfNums (sgn[i]'hlt) = s
      · have HR := hid (show opAt s 0 sgn = ((i : Int), true) by have := opAt_hit sgn 0 i hlt he (fun j hj => HA.out j (by omega) hj); simpa using this)
        rw [he] at c0
        clear he
        go_wp2
        all_goals go_ret2
        all_goals exact ⟨by rw [HR.out]; rfl, HB.out.2⟩
      · have hne := str_ne he
        have HN := hid (show ∀ q (hq : q < 11), q < i + 1 → strOfNums (sgn[q]'hq) ≠ s from fun q hq h => by
          by_cases hqi : q < i
          · exact HA.out q hq hqi
          · obtain rfl : q = i := by omega
            exact he)
        generalize strOfNums (sgn[i]'hlt) = x at c0 hne
        clear he
        go_wp2
        go_roundw
        case rel => exact ⟨i + 1, by omega, by go_num, HB.out, HN.out⟩
        case measure => simp [intOf]; omega
    · obtain rfl : i = 11 := by omega
      have HR := hid (show opAt s 0 sgn = (0, false) from opAt_miss sgn 0 (fun j hj => HA.out j hj hj))
      clear hlt hi hbk hbw
      go_wp2
      all_goals go_ret2
      all_goals exact ⟨by rw [HR.out]; rfl, HB.out.2⟩

end

end Go.Proofs.YtajnpdiepiinjaaDoor
