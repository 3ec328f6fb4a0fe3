/- New; nil profiles: contracts. -/
import Derived.Test.YtfkcbioefdkabaaPc
import Derived.Carry
set_option linter.unusedSimpArgs false
set_option linter.unusedVariables false
namespace Go.Proofs.Ytfkcbioefdkabaa
open Go Go.RowKit

set_option maxRecDepth 100000 in
set_option maxHeartbeats 1000000 in
theorem warm_nil (i : Int) (w : World) : Calls Try.prog 37 #[.pointer none, .int .i64 i] w fun e w' => e = .returned (.int .i64 5) ∧ w' = w := by
  go_enter Try.func37, Try.ntmps37
  go_wp2
  all_goals go_ret
  all_goals exact ⟨rfl, rfl⟩

set_option maxRecDepth 100000 in
set_option maxHeartbeats 1000000 in
theorem Begin_nil (i : Int) (w : World) : Calls Try.prog 24 #[.pointer none, .int .i64 i] w fun e w' => e = .returned (.int .i64 5) ∧ w' = w := by
  go_enter Try.func24, Try.ntmps24
  go_wp2_with (first
    | (go_at_call 37; refine (warm_nil _ _).mono ?_; rintro e w1 ⟨rfl, hw1⟩; subst w1)
    | fail)
  all_goals go_ret
  all_goals exact ⟨rfl, rfl⟩

set_option maxRecDepth 100000 in
set_option maxHeartbeats 1000000 in
theorem Loop_nil (i : Int) (w : World) : Calls Try.prog 25 #[.pointer none, .int .i64 i] w fun e w' => e = .returned (.int .i64 5) ∧ w' = w := by
  go_enter Try.func25, Try.ntmps25
  go_wp2_with (first
    | (go_at_call 37; refine (warm_nil _ _).mono ?_; rintro e w1 ⟨rfl, hw1⟩; subst w1)
    | fail)
  all_goals go_ret
  all_goals exact ⟨rfl, rfl⟩

set_option maxRecDepth 100000 in
set_option maxHeartbeats 1000000 in
theorem Cool_nil (i : Int) (w : World) : Calls Try.prog 28 #[.pointer none, .int .i64 i] w fun e w' => e = .returned (.int .i64 5) ∧ w' = w := by
  go_enter Try.func28, Try.ntmps28
  go_wp2
  all_goals go_ret
  all_goals exact ⟨rfl, rfl⟩

set_option maxRecDepth 100000 in
set_option maxHeartbeats 1000000 in
theorem Heat_nil (i : Int) (w : World) : Calls Try.prog 15 #[.pointer none, .int .i64 i] w fun e w' => e = .returned (.tuple #[.int .i64 0, .int .i64 5]) ∧ w' = w := by
  go_enter Try.func15, Try.ntmps15
  go_wp2
  all_goals go_ret2
  all_goals exact ⟨rfl, rfl⟩

set_option maxRecDepth 100000 in
set_option maxHeartbeats 1000000 in
theorem Writes_nil (i : Int) (w : World) : Calls Try.prog 17 #[.pointer none, .int .i64 i] w fun e w' => e = .returned (.tuple #[.int .i64 0, .int .u64 0, .int .i64 5]) ∧ w' = w := by
  go_enter Try.func17, Try.ntmps17
  go_wp2
  all_goals go_ret3
  all_goals exact ⟨rfl, rfl⟩

set_option maxRecDepth 100000 in
set_option maxHeartbeats 1000000 in
theorem checkPlace_nil (i t : Int) (w : World) : Calls Try.prog 33 #[.pointer none, .int .i64 i, .int .i64 t] w fun e w' => e = .returned (.int .i64 5) ∧ w' = w := by
  go_enter Try.func33, Try.ntmps33
  go_wp2
  all_goals go_ret
  all_goals exact ⟨rfl, rfl⟩

set_option maxRecDepth 100000 in
set_option maxHeartbeats 1000000 in
theorem Kinds_nil (i t : Int) (w : World) : Calls Try.prog 16 #[.pointer none, .int .i64 i, .int .i64 t] w fun e w' => e = .returned (.tuple #[.int .i64 0, .int .i64 5]) ∧ w' = w := by
  go_enter Try.func16, Try.ntmps16
  go_wp2_with (first
    | (go_at_call 33; refine (checkPlace_nil _ _ _).mono ?_; rintro e w1 ⟨rfl, hw1⟩; subst w1)
    | fail)
  all_goals go_ret2
  all_goals exact ⟨rfl, rfl⟩

set_option maxRecDepth 100000 in
set_option maxHeartbeats 1000000 in
theorem Pair_nil (i t a b : Int) (w : World) : Calls Try.prog 26 #[.pointer none, .int .i64 i, .int .i64 t, .int .i64 a, .int .i64 b] w fun e w' => e = .returned (.int .i64 5) ∧ w' = w := by
  go_enter Try.func26, Try.ntmps26
  go_wp2_with (first
    | (go_at_call 33; refine (checkPlace_nil _ _ _).mono ?_; rintro e w1 ⟨rfl, hw1⟩; subst w1)
    | fail)
  all_goals go_ret
  all_goals exact ⟨rfl, rfl⟩

set_option maxRecDepth 100000 in
set_option maxHeartbeats 1000000 in
theorem Wrote_nil (i v : Int) (w : World) : Calls Try.prog 27 #[.pointer none, .int .i64 i, .int .u64 v] w fun e w' => e = .returned (.int .i64 5) ∧ w' = w := by
  go_enter Try.func27, Try.ntmps27
  go_wp2
  all_goals go_ret
  all_goals exact ⟨rfl, rfl⟩

set_option maxRecDepth 100000 in
set_option maxHeartbeats 1000000 in
theorem Stable_nil (w : World) : Calls Try.prog 19 #[.pointer none] w fun e w' => e = .returned (.slice none 0 0) ∧ w' = w := by
  go_enter Try.func19, Try.ntmps19
  go_wp2
  all_goals go_ret
  all_goals exact ⟨rfl, rfl⟩

set_option maxRecDepth 100000 in
set_option maxHeartbeats 1000000 in
theorem Hot_nil (i : Int) (w : World) : Calls Try.prog 18 #[.pointer none, .int .i64 i] w fun e w' => e = .returned (.slice none 0 0) ∧ w' = w := by
  go_enter Try.func18, Try.ntmps18
  go_wp2
  all_goals go_ret
  all_goals exact ⟨rfl, rfl⟩

set_option maxRecDepth 100000 in
set_option maxHeartbeats 1000000 in
theorem num_any (i : Int) (w : World) : Calls Try.prog 11 #[.int .i64 i] w fun e w' => e = .returned (.int .i64 i) ∧ w' = w := by
  go_enter Try.func11, Try.ntmps11
  go_wp2
  all_goals go_ret
  all_goals exact ⟨rfl, rfl⟩

set_option maxRecDepth 100000 in
set_option maxHeartbeats 1000000 in
theorem New_no (f g : Int) (w : World) (h : ¬ (1 ≤ f ∧ f ≤ 1024 ∧ 0 ≤ g ∧ g ≤ 1024)) : Calls Try.prog 9 #[.int .i64 f, .int .i64 g] w fun e w' => e = .returned (.tuple #[.pointer none, .int .i64 1]) ∧ w' = w := by
  by_cases h1 : f < 1
  · clear h
    go_enter Try.func9, Try.ntmps9
    go_wp2
    all_goals go_ret2
    all_goals exact ⟨rfl, rfl⟩
  by_cases h2 : 1024 < f
  · clear h
    have b1 : decide (f < 1) = false := decide_eq_false h1
    go_enter Try.func9, Try.ntmps9
    go_wp2
    all_goals go_ret2
    all_goals exact ⟨rfl, rfl⟩
  by_cases h3 : g < 0
  · clear h
    have b1 : decide (f < 1) = false := decide_eq_false h1
    have b2 : decide (1024 < f) = false := decide_eq_false h2
    go_enter Try.func9, Try.ntmps9
    go_wp2
    all_goals go_ret2
    all_goals exact ⟨rfl, rfl⟩
  · have h4 : 1024 < g := by omega
    clear h
    have b1 : decide (f < 1) = false := decide_eq_false h1
    have b2 : decide (1024 < f) = false := decide_eq_false h2
    have b3 : decide (g < 0) = false := decide_eq_false h3
    go_enter Try.func9, Try.ntmps9
    go_wp2
    all_goals go_ret2
    all_goals exact ⟨rfl, rfl⟩

theorem underCns : Try.prog.underlying 62 = some (.slice 76) := by kernel_rfl
theorem underCvs : Try.prog.underlying 64 = some (.slice 83) := by kernel_rfl
theorem info_Cn : (Try.prog.info? 76).map (fun i => (i.zero, i.size, i.bytes)) = some (some (.agg #[.int .i64 0]), 1, 16) := by kernel_rfl
theorem info_Cv : (Try.prog.info? 83).map (fun i => (i.zero, i.size, i.bytes)) = some (some (.agg #[.int .i64 0, .int .u64 0]), 2, 16) := by kernel_rfl

/-- A row of counters made. -/
theorem made_n (n : Nat) (h : n ≤ 1024) : ∃ cur : Array Value, (∀ w : World, (Instr.makeSlice 62 (.int .i64 n) (.int .i64 n)).run Try.prog w = .ok (.slice (some ⟨w.heap.size, 0, none⟩) n n) (w.alloc (.cells cur 76))) ∧ cur.size = n ∧ ∀ i : Nat, i < n → cur[i]? = some (.int .i64 0) := by
  obtain ⟨i, hi, e⟩ := Option.map_eq_some_iff.1 info_Cn
  simp only [Prod.mk.injEq] at e
  refine ⟨madeCells #[.int .i64 0] n, fun w => ?_, size_madeCells _ _, fun j hj => ?_⟩
  · have := run_makeSlice (P := Try.prog) (w := w) 62 76 i _ underCns hi e.1 .i64 .i64 (n : Int) (n : Int) (by omega) (by omega) (by rw [e.2.1]; omega) (by rw [e.2.2]; omega) (by omega)
    rw [this, e.2.1]
    simp [Value.cells]
  · simp [madeCells, hj, Nat.mod_one]
theorem made_v (n : Nat) (h : n ≤ 1024) : ∃ cur : Array Value, (∀ w : World, (Instr.makeSlice 64 (.int .i64 n) (.int .i64 n)).run Try.prog w = .ok (.slice (some ⟨w.heap.size, 0, none⟩) n n) (w.alloc (.cells cur 83))) ∧ cur.size = n * 2 ∧ ∀ i : Nat, i < n → cur[i * 2]? = some (.int .i64 0) ∧ cur[i * 2 + 1]? = some (.int .u64 0) := by
  obtain ⟨i, hi, e⟩ := Option.map_eq_some_iff.1 info_Cv
  simp only [Prod.mk.injEq] at e
  refine ⟨madeCells #[.int .i64 0, .int .u64 0] (n * 2), fun w => ?_, size_madeCells _ _, fun j hj => ⟨?_, ?_⟩⟩
  · have := run_makeSlice (P := Try.prog) (w := w) 64 83 i _ underCvs hi e.1 .i64 .i64 (n : Int) (n : Int) (by omega) (by omega) (by rw [e.2.1]; omega) (by rw [e.2.2]; omega) (by omega)
    rw [this, e.2.1]
    simp [Value.cells]
  · have h1 : j * 2 < n * 2 := by omega
    have h2 : j * 2 % 2 = 0 := by omega
    simp [madeCells, h1, h2]
  · have h1 : j * 2 + 1 < n * 2 := by omega
    have h2 : (j * 2 + 1) % 2 = 1 := by omega
    simp [madeCells, h1, h2]

theorem Blk.drewd {w : World} {g : Nat} {c : Array Value} {e : TypeId} (h : Blk w g c e) : Blk w.drew g c e := h
theorem MK.drewd {w : World} {g n : Nat} {K : Int → Int → Int} (h : MK w g K n) : MK w.drew g K n := h.keep rfl
theorem MK.alloc {w : World} {g n : Nat} {K : Int → Int → Int} (h : MK w g K n) (o : Obj) : MK (w.alloc o) g K n := h.keep (Below.heap_alloc w o g h.lt)
theorem MK.newAt (w : World) (g : Nat) (h : w.heap.size = g) : MK (w.alloc (.map #[] 0)) g (fun _ _ => 0) 0 := h ▸ MK.new w

theorem PS.made {w : World} {p hb wb mb F G : Nat} {CN CV : Array Value} (hp : Blk w p #[.slice (some ⟨hb, 0, none⟩) F F, .slice (some ⟨wb, 0, none⟩) G G, .map (some mb)] 67) (h1 : Blk w hb CN 76) (h2 : Blk w wb CV 83) (h3 : MK w mb (fun _ _ => 0) 0)
    (ne : p ≠ hb ∧ p ≠ wb ∧ p ≠ mb ∧ hb ≠ wb ∧ hb ≠ mb ∧ wb ≠ mb) (n1 : CN.size = F) (n2 : ∀ i : Nat, i < F → CN[i]? = some (.int .i64 0)) (v1 : CV.size = G * 2) (v2 : ∀ i : Nat, i < G → CV[i * 2]? = some (.int .i64 0) ∧ CV[i * 2 + 1]? = some (.int .u64 0)) : PS w p hb wb mb F G [] :=
  ⟨hp, ⟨CN, h1, n1, fun i hi => n2 i hi⟩, ⟨CV, h2, v1, fun i hi => v2 i hi⟩, h3, ne⟩

set_option maxRecDepth 100000 in
set_option maxHeartbeats 1000000 in
theorem New_yes (F G : Nat) (w : World) (h1 : 1 ≤ F) (h2 : F ≤ 1024) (h3 : G ≤ 1024) : Calls Try.prog 9 #[.int .i64 F, .int .i64 G] w fun e w' => ∃ p hb wb mb, e = .returned (.tuple #[.pointer (some ⟨p, 0, none⟩), .int .i64 0]) ∧ PS w' p hb wb mb F G [] ∧ Bw w w' ∧ w.heap.size ≤ p ∧ w.heap.size ≤ hb ∧ w.heap.size ≤ wb ∧ w.heap.size ≤ mb := by
  have b1 : ¬ (F : Int) < 1 := by omega
  have b2 : ¬ (1024 : Int) < F := by omega
  have b3 : ¬ (G : Int) < 0 := by omega
  have b4 : ¬ (1024 : Int) < G := by omega
  obtain ⟨CN, mn, n1, n2⟩ := made_n F h2
  obtain ⟨CV, mv, v1, v2⟩ := made_v G h3
  have hmm := @run_makeMap Try.prog
  have N2 := hid n2
  have V2 := hid v2
  clear n2 v2
  go_enter Try.func9, Try.ntmps9
  go_wp2
  all_goals go_region
  all_goals go_wp2
  all_goals go_ret2
  all_goals refine ⟨_, _, _, _, rfl, PS.made (Blk.drewd (Blk.newAt _ _ _ _ ?_)) ?_ ?_ ?_ ?_ n1 N2.out v1 V2.out, ?_, ?_, ?_, ?_, ?_⟩
  all_goals (first
    | (simp only [World.size_alloc]; done)
    | (refine ⟨?_, ?_, ?_, ?_, ?_, ?_⟩ <;> omega)
    | omega
    | (refine Blk.drewd ?_; repeat (first | exact Blk.newAt _ _ _ _ (by simp only [World.size_alloc]) | apply Blk.alloc))
    | (refine MK.drewd ?_; repeat (first | exact MK.newAt _ _ (by simp only [World.size_alloc]) | apply MK.alloc))
    | (repeat (first | exact Bw.refl _ | apply Bw.alloc | apply Bw.drewN | apply Bw.drew)))

end Go.Proofs.Ytfkcbioefdkabaa
