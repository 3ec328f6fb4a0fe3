/- What is told and asked: contracts (but Pair, Stable, Hot). -/
import Derived.Test.YtfkcbioefdkabaaPa
set_option linter.unusedSimpArgs false
set_option linter.unusedVariables false
namespace Go.Proofs.Ytfkcbioefdkabaa
open Go Go.RowKit

theorem Blk.one {w : World} {g : Nat} {c d : Array Value} {e e' : TypeId} (h : Blk w g c e) (k : Blk w g d e') : c = d := by
  unfold Blk at h k
  rw [h] at k
  simp only [Option.some.injEq, Obj.cells.injEq] at k
  exact k.1

theorem get_set_same {c : Array Value} {i : Nat} (v : Value) (h : i < c.size) : (c.setIfInBounds i v)[i]? = some v := by simp [h]
theorem get_set_other {c : Array Value} {i j : Nat} (v : Value) (h : i ≠ j) : (c.setIfInBounds i v)[j]? = c[j]? := by simp [Array.getElem?_setIfInBounds, h]

theorem heat_other (L : List AA) (x : AA) (f : Int) (h : x.f ≠ f) : heatOf (L ++ [x]) f = heatOf L f := by rw [heat_snoc]; simp [heat1, h]
theorem heat_beat (L : List AA) (x : AA) (h : x.d = 0 ∨ x.d = 1) : heatOf (L ++ [x]) x.f = heatOf L x.f + 1 := by rw [heat_snoc]; simp [heat1, h]
theorem heat_cool (L : List AA) (x : AA) (h : x.d = 4) : heatOf (L ++ [x]) x.f = 0 := by rw [heat_snoc]; simp [heat1, h]
theorem heat_none (L : List AA) (x : AA) (f : Int) (h : x.d = 2 ∨ x.d = 3) : heatOf (L ++ [x]) f = heatOf L f := by
  rw [heat_snoc]
  unfold heat1
  rw [if_neg (show ¬ (x.d = 0 ∨ x.d = 1) by omega), if_neg (show ¬ x.d = 4 by omega)]
  simp
theorem write_none (L : List AA) (x : AA) (g : Int) (h : x.d ≠ 3) : writeOf (L ++ [x]) g = writeOf L g := by rw [write_snoc]; simp [write1, h]
theorem write_other (L : List AA) (x : AA) (g : Int) (h : x.f ≠ g) : writeOf (L ++ [x]) g = writeOf L g := by rw [write_snoc]; simp [write1, h]
theorem write_yes (L : List AA) (x : AA) (h : x.d = 3) : writeOf (L ++ [x]) x.f = ((writeOf L x.f).1 + 1, x.v) := by rw [write_snoc]; simp [write1, h]
theorem kind_none (L : List AA) (x : AA) (f t : Int) (h : x.d ≠ 2) : kindOf (L ++ [x]) f t = kindOf L f t := by rw [kind_snoc]; simp [kind1, h]

section
variable {w w' : World} {p hb wb mb F G : Nat} {L : List AA}

/-- The blocks that telling may change. -/
abbrev bsOf (hb wb mb : Nat) : List Nat := [hb, wb, mb]

theorem PS.toldH (h : PS w p hb wb mb F G L) (x : AA) {i : Nat} (hi : i < F) (hx : x.f = i) (hd : x.d ≠ 2 ∧ x.d ≠ 3) {cur : Array Value} (hc : Blk w hb cur 76) (k : Ex [hb] w w')
    {n : Int} (hn : n = heatOf (L ++ [x]) i) (hb' : Blk w' hb (cur.setIfInBounds i (.int .i64 n)) 76) : PS w' p hb wb mb F G (L ++ [x]) := by
  subst hn
  obtain ⟨c1, a1, a2, a3⟩ := h.hs
  obtain ⟨c2, b1, b2, b3⟩ := h.ws
  obtain rfl : c1 = cur := a1.one hc
  obtain ⟨n1, n2, n3, n4, n5, n6⟩ := h.ne
  refine ⟨h.blk.ex k (by simpa using n1), ⟨_, hb', by simpa using a2, fun j hj => ?_⟩, ⟨c2, b1.ex k (by simpa using Ne.symm n4), b2, fun j hj => ?_⟩, ?_, h.ne⟩
  · by_cases hji : i = j
    · subst hji
      exact get_set_same _ (by omega)
    · rw [get_set_other _ hji, a3 j hj, heat_other _ _ _ (by omega)]
  · rw [write_none _ _ _ hd.2]
    exact b3 j hj
  · refine ((h.mp.keep (k.block mb h.mp.lt (by simpa using Ne.symm n5))).mono (by simp)).congr (fun f t => ?_)
    rw [kind_none _ _ _ _ hd.1]

theorem PS.toldW (h : PS w p hb wb mb F G L) (x : AA) {i : Nat} (hi : i < G) (hx : x.f = i) (hd : x.d = 3) {cur : Array Value} (hc : Blk w wb cur 83) (k : Ex [wb] w w')
    {n : Int} (hn : n = (writeOf L i).1 + 1) (hb' : Blk w' wb ((cur.setIfInBounds (i * 2) (.int .i64 n)).setIfInBounds (i * 2 + 1) (.int .u64 x.v)) 83) : PS w' p hb wb mb F G (L ++ [x]) := by
  subst hn
  obtain ⟨c1, a1, a2, a3⟩ := h.hs
  obtain ⟨c2, b1, b2, b3⟩ := h.ws
  obtain rfl : c2 = cur := b1.one hc
  obtain ⟨n1, n2, n3, n4, n5, n6⟩ := h.ne
  refine ⟨h.blk.ex k (by simpa using n2), ⟨c1, a1.ex k (by simpa using n4), a2, fun j hj => ?_⟩, ⟨_, hb', by simpa using b2, fun j hj => ?_⟩, ?_, h.ne⟩
  · rw [heat_none _ _ _ (.inr hd)]
    exact a3 j hj
  · by_cases hji : i = j
    · subst hji
      have e := write_yes L x hd
      rw [hx] at e
      rw [e]
      refine ⟨?_, get_set_same _ (by simp; omega)⟩
      rw [get_set_other _ (by omega)]
      exact get_set_same _ (by omega)
    · rw [write_other _ _ _ (by omega), get_set_other _ (by omega), get_set_other _ (by omega), get_set_other _ (by omega), get_set_other _ (by omega)]
      exact b3 j hj
  · refine ((h.mp.keep (k.block mb h.mp.lt (by simpa using Ne.symm n6))).mono (by simp)).congr (fun f t => ?_)
    rw [kind_none _ _ _ _ (by omega)]

theorem PS.toldK (h : PS w p hb wb mb F G L) (x : AA) (hd : x.d = 2) (k : Ex [mb] w w') (hm : MK w' mb (fun f t => kindOf (L ++ [x]) f t) (L.length + 1)) : PS w' p hb wb mb F G (L ++ [x]) := by
  obtain ⟨c1, a1, a2, a3⟩ := h.hs
  obtain ⟨c2, b1, b2, b3⟩ := h.ws
  obtain ⟨n1, n2, n3, n4, n5, n6⟩ := h.ne
  refine ⟨h.blk.ex k (by simpa using n3), ⟨c1, a1.ex k (by simpa using n5), a2, fun j hj => ?_⟩, ⟨c2, b1.ex k (by simpa using n6), b2, fun j hj => ?_⟩, by simpa using hm, h.ne⟩
  · rw [heat_none _ _ _ (.inl hd)]
    exact a3 j hj
  · rw [write_none _ _ _ (by omega)]
    exact b3 j hj

set_option maxRecDepth 100000 in
set_option maxHeartbeats 1000000 in
theorem warm_yes (h : PS w p hb wb mb F G L) {i : Nat} (hi : i < F) (hL : L.length < 1000) : Calls Try.prog 37 #[.pointer (some ⟨p, 0, none⟩), .int .i64 i] w fun e w' => e = .returned (.int .i64 0) ∧ (∀ x : AA, x.f = i → (x.d = 0 ∨ x.d = 1) → PS w' p hb wb mb F G (L ++ [x])) ∧ Ex (bsOf hb wb mb) w w' := by
  have HP := hid h
  have c0 := h.blk.cell 0
  have c1 := h.blk.cell 1
  have c2 := h.blk.cell 2
  simp only [List.getElem?_toArray, List.getElem?_cons_zero, List.getElem?_cons_succ] at c0 c1 c2
  have hlp := h.lts.1
  obtain ⟨cur, a1, a2, a3⟩ := h.hs
  have A1 := hid a1
  have A3 := hid (a3 i hi)
  have hle := heatOf_le L (i : Int)
  clear a1 a3 h
  go_enter Try.func37, Try.ntmps37
  go_wp2_with (first
    | (go_at_call 47; refine (ncount_yes hb F F i _ hi A1.out A3.out ⟨by omega, by omega⟩).mono ?_; rintro e w1 ⟨rfl, hb1, hk1⟩)
    | fail)
  all_goals go_ret
  all_goals refine ⟨rfl, fun x hx hd => HP.out.toldH x hi hx ⟨by omega, by omega⟩ A1.out hk1 (n := (heatOf L i : Int) + 1) ?_ hb1, hk1.mono (by simp)⟩
  all_goals rw [← hx, heat_beat L x hd]
  all_goals simp

set_option maxRecDepth 100000 in
set_option maxHeartbeats 1000000 in
theorem warm_no (h : PS w p hb wb mb F G L) {i : Int} (hi : ¬ (0 ≤ i ∧ i < F)) : Calls Try.prog 37 #[.pointer (some ⟨p, 0, none⟩), .int .i64 i] w fun e w' => e = .returned (.int .i64 1) ∧ Bw w w' := by
  have HP := hid h
  have c0 := h.blk.cell 0
  have c1 := h.blk.cell 1
  have c2 := h.blk.cell 2
  simp only [List.getElem?_toArray, List.getElem?_cons_zero, List.getElem?_cons_succ] at c0 c1 c2
  have hlp := h.lts.1
  clear h
  go_enter Try.func37, Try.ntmps37
  go_wp2_with (first
    | (go_at_call 47; refine (ncount_no _ F F i _ hi).mono ?_; rintro e w1 ⟨rfl, hb1⟩)
    | fail)
  all_goals go_ret
  all_goals exact ⟨rfl, hb1⟩

set_option maxRecDepth 100000 in
set_option maxHeartbeats 1000000 in
theorem Begin_yes (h : PS w p hb wb mb F G L) {i : Nat} (hi : i < F) (hL : L.length < 1000) : Calls Try.prog 24 #[.pointer (some ⟨p, 0, none⟩), .int .i64 i] w fun e w' => e = .returned (.int .i64 0) ∧ (∀ x : AA, x.f = i → (x.d = 0 ∨ x.d = 1) → PS w' p hb wb mb F G (L ++ [x])) ∧ Ex (bsOf hb wb mb) w w' := by
  go_enter Try.func24, Try.ntmps24
  go_wp2_with (first
    | (go_at_call 37; refine (warm_yes h hi hL).mono ?_; rintro e w1 ⟨rfl, hp1, hk1⟩)
    | fail)
  all_goals go_ret
  all_goals exact ⟨rfl, hp1, hk1⟩

set_option maxRecDepth 100000 in
set_option maxHeartbeats 1000000 in
theorem Begin_no (h : PS w p hb wb mb F G L) {i : Int} (hi : ¬ (0 ≤ i ∧ i < F)) : Calls Try.prog 24 #[.pointer (some ⟨p, 0, none⟩), .int .i64 i] w fun e w' => e = .returned (.int .i64 1) ∧ Bw w w' := by
  go_enter Try.func24, Try.ntmps24
  go_wp2_with (first
    | (go_at_call 37; refine (warm_no h hi).mono ?_; rintro e w1 ⟨rfl, hb1⟩)
    | fail)
  all_goals go_ret
  all_goals exact ⟨rfl, hb1⟩

set_option maxRecDepth 100000 in
set_option maxHeartbeats 1000000 in
theorem Loop_yes (h : PS w p hb wb mb F G L) {i : Nat} (hi : i < F) (hL : L.length < 1000) : Calls Try.prog 25 #[.pointer (some ⟨p, 0, none⟩), .int .i64 i] w fun e w' => e = .returned (.int .i64 0) ∧ (∀ x : AA, x.f = i → (x.d = 0 ∨ x.d = 1) → PS w' p hb wb mb F G (L ++ [x])) ∧ Ex (bsOf hb wb mb) w w' := by
  go_enter Try.func25, Try.ntmps25
  go_wp2_with (first
    | (go_at_call 37; refine (warm_yes h hi hL).mono ?_; rintro e w1 ⟨rfl, hp1, hk1⟩)
    | fail)
  all_goals go_ret
  all_goals exact ⟨rfl, hp1, hk1⟩

set_option maxRecDepth 100000 in
set_option maxHeartbeats 1000000 in
theorem Loop_no (h : PS w p hb wb mb F G L) {i : Int} (hi : ¬ (0 ≤ i ∧ i < F)) : Calls Try.prog 25 #[.pointer (some ⟨p, 0, none⟩), .int .i64 i] w fun e w' => e = .returned (.int .i64 1) ∧ Bw w w' := by
  go_enter Try.func25, Try.ntmps25
  go_wp2_with (first
    | (go_at_call 37; refine (warm_no h hi).mono ?_; rintro e w1 ⟨rfl, hb1⟩)
    | fail)
  all_goals go_ret
  all_goals exact ⟨rfl, hb1⟩

set_option maxRecDepth 100000 in
set_option maxHeartbeats 1000000 in
theorem Cool_yes (h : PS w p hb wb mb F G L) {i : Nat} (hi : i < F) : Calls Try.prog 28 #[.pointer (some ⟨p, 0, none⟩), .int .i64 i] w fun e w' => e = .returned (.int .i64 0) ∧ (∀ x : AA, x.f = i → x.d = 4 → PS w' p hb wb mb F G (L ++ [x])) ∧ Ex (bsOf hb wb mb) w w' := by
  have HP := hid h
  have c0 := h.blk.cell 0
  have c1 := h.blk.cell 1
  have c2 := h.blk.cell 2
  simp only [List.getElem?_toArray, List.getElem?_cons_zero, List.getElem?_cons_succ] at c0 c1 c2
  have hlp := h.lts.1
  obtain ⟨cur, a1, a2, a3⟩ := h.hs
  have A1 := hid a1
  have A2 := hid a2
  clear a1 a2 a3 h
  go_enter Try.func28, Try.ntmps28
  go_wp2_with (first
    | (go_at_call 40; refine (reset_yes hb F F i _ hi A1.out (by have := A2.out; omega)).mono ?_; rintro e w1 ⟨rfl, hb1, hk1⟩)
    | fail)
  all_goals go_ret
  all_goals refine ⟨rfl, fun x hx hd => HP.out.toldH x hi hx ⟨by omega, by omega⟩ A1.out hk1 (n := 0) ?_ hb1, hk1.mono (by simp)⟩
  all_goals rw [← hx, heat_cool L x hd]
  all_goals simp

set_option maxRecDepth 100000 in
set_option maxHeartbeats 1000000 in
theorem Cool_no (h : PS w p hb wb mb F G L) {i : Int} (hi : ¬ (0 ≤ i ∧ i < F)) : Calls Try.prog 28 #[.pointer (some ⟨p, 0, none⟩), .int .i64 i] w fun e w' => e = .returned (.int .i64 1) ∧ Bw w w' := by
  have HP := hid h
  have c0 := h.blk.cell 0
  have c1 := h.blk.cell 1
  have c2 := h.blk.cell 2
  simp only [List.getElem?_toArray, List.getElem?_cons_zero, List.getElem?_cons_succ] at c0 c1 c2
  have hlp := h.lts.1
  clear h
  go_enter Try.func28, Try.ntmps28
  go_wp2_with (first
    | (go_at_call 40; refine (reset_no _ F F i _ hi).mono ?_; rintro e w1 ⟨rfl, hb1⟩)
    | fail)
  all_goals go_ret
  all_goals exact ⟨rfl, hb1⟩

set_option maxRecDepth 100000 in
set_option maxHeartbeats 1000000 in
theorem Wrote_yes (h : PS w p hb wb mb F G L) {i : Nat} (hi : i < G) (hL : L.length < 1000) (v : Int) : Calls Try.prog 27 #[.pointer (some ⟨p, 0, none⟩), .int .i64 i, .int .u64 v] w fun e w' => e = .returned (.int .i64 0) ∧ (∀ x : AA, x.f = i → x.d = 3 → x.v = v → PS w' p hb wb mb F G (L ++ [x])) ∧ Ex (bsOf hb wb mb) w w' := by
  have HP := hid h
  have c0 := h.blk.cell 0
  have c1 := h.blk.cell 1
  have c2 := h.blk.cell 2
  simp only [List.getElem?_toArray, List.getElem?_cons_zero, List.getElem?_cons_succ] at c0 c1 c2
  have hlp := h.lts.1
  obtain ⟨cur, a1, a2, a3⟩ := h.ws
  have A1 := hid a1
  have A2 := hid a2
  have A3 := hid (a3 i hi).1
  have hle := writeOf_le L (i : Int)
  clear a1 a3 a2 h
  go_enter Try.func27, Try.ntmps27
  go_wp2_with (first
    | (go_at_call 39; refine (vcount_yes wb G G i v _ hi A1.out A3.out ⟨by omega, by omega⟩ (by have := A2.out; omega)).mono ?_; rintro e w1 ⟨rfl, hb1, hk1⟩)
    | fail)
  all_goals go_ret
  all_goals exact ⟨rfl, fun x hx hd hv => by subst hv; exact HP.out.toldW x hi hx hd A1.out hk1 rfl hb1, hk1.mono (by simp)⟩

set_option maxRecDepth 100000 in
set_option maxHeartbeats 1000000 in
theorem Wrote_no (h : PS w p hb wb mb F G L) {i : Int} (hi : ¬ (0 ≤ i ∧ i < G)) (v : Int) : Calls Try.prog 27 #[.pointer (some ⟨p, 0, none⟩), .int .i64 i, .int .u64 v] w fun e w' => e = .returned (.int .i64 1) ∧ Bw w w' := by
  have HP := hid h
  have c0 := h.blk.cell 0
  have c1 := h.blk.cell 1
  have c2 := h.blk.cell 2
  simp only [List.getElem?_toArray, List.getElem?_cons_zero, List.getElem?_cons_succ] at c0 c1 c2
  have hlp := h.lts.1
  clear h
  go_enter Try.func27, Try.ntmps27
  go_wp2_with (first
    | (go_at_call 39; refine (vcount_no _ G G i v _ hi).mono ?_; rintro e w1 ⟨rfl, hb1⟩)
    | fail)
  all_goals go_ret
  all_goals exact ⟨rfl, hb1⟩

set_option maxRecDepth 100000 in
set_option maxHeartbeats 1000000 in
theorem Heat_yes (h : PS w p hb wb mb F G L) {i : Nat} (hi : i < F) : Calls Try.prog 15 #[.pointer (some ⟨p, 0, none⟩), .int .i64 i] w fun e w' => e = .returned (.tuple #[.int .i64 (heatOf L i), .int .i64 0]) ∧ Bw w w' := by
  have HP := hid h
  have c0 := h.blk.cell 0
  have c1 := h.blk.cell 1
  have c2 := h.blk.cell 2
  simp only [List.getElem?_toArray, List.getElem?_cons_zero, List.getElem?_cons_succ] at c0 c1 c2
  have hlp := h.lts.1
  obtain ⟨cur, a1, a2, a3⟩ := h.hs
  have A1 := hid a1
  have A3 := hid (a3 i hi)
  generalize heatOf L (i : Int) = n at *
  clear a1 a3 h
  go_enter Try.func15, Try.ntmps15
  go_wp2_with (first
    | (go_at_call 32; refine (nfind_yes hb F F i _ hi A1.out.lt ((A1.out.cell i).trans A3.out)).mono ?_; rintro e w1 ⟨rfl, hb1⟩)
    | fail)
  all_goals go_ret2
  all_goals exact ⟨rfl, by repeat (first | exact hb1 | apply Bw.alloc | apply Bw.drewN | apply Bw.drew)⟩

set_option maxRecDepth 100000 in
set_option maxHeartbeats 1000000 in
theorem Heat_no (h : PS w p hb wb mb F G L) {i : Int} (hi : ¬ (0 ≤ i ∧ i < F)) : Calls Try.prog 15 #[.pointer (some ⟨p, 0, none⟩), .int .i64 i] w fun e w' => e = .returned (.tuple #[.int .i64 0, .int .i64 1]) ∧ Bw w w' := by
  have HP := hid h
  have c0 := h.blk.cell 0
  have c1 := h.blk.cell 1
  have c2 := h.blk.cell 2
  simp only [List.getElem?_toArray, List.getElem?_cons_zero, List.getElem?_cons_succ] at c0 c1 c2
  have hlp := h.lts.1
  clear h
  go_enter Try.func15, Try.ntmps15
  go_wp2_with (first
    | (go_at_call 32; refine (nfind_no _ F F i _ hi).mono ?_; rintro e w1 ⟨rfl, hb1⟩)
    | fail)
  all_goals go_ret2
  all_goals exact ⟨rfl, by repeat (first | exact hb1 | apply Bw.alloc | apply Bw.drewN | apply Bw.drew)⟩

set_option maxRecDepth 100000 in
set_option maxHeartbeats 1000000 in
theorem Writes_yes (h : PS w p hb wb mb F G L) {i : Nat} (hi : i < G) : Calls Try.prog 17 #[.pointer (some ⟨p, 0, none⟩), .int .i64 i] w fun e w' => e = .returned (.tuple #[.int .i64 (writeOf L i).1, .int .u64 (writeOf L i).2, .int .i64 0]) ∧ Bw w w' := by
  have HP := hid h
  have c0 := h.blk.cell 0
  have c1 := h.blk.cell 1
  have c2 := h.blk.cell 2
  simp only [List.getElem?_toArray, List.getElem?_cons_zero, List.getElem?_cons_succ] at c0 c1 c2
  have hlp := h.lts.1
  obtain ⟨cur, a1, a2, a3⟩ := h.ws
  have A1 := hid a1
  have A3 := hid (a3 i hi)
  generalize (writeOf L (i : Int)).1 = n at *
  generalize (writeOf L (i : Int)).2 = v at *
  clear a1 a3 h
  go_enter Try.func17, Try.ntmps17
  go_wp2_with (first
    | (go_at_call 34; refine (vfind_yes wb G G i _ hi A1.out.lt ((A1.out.cell _).trans A3.out.1) ((A1.out.cell _).trans A3.out.2)).mono ?_; rintro e w1 ⟨rfl, hb1⟩)
    | fail)
  all_goals go_region
  all_goals go_wp2
  all_goals go_ret3
  all_goals exact ⟨rfl, by repeat (first | exact hb1 | apply Bw.alloc | apply Bw.drewN | apply Bw.drew)⟩

set_option maxRecDepth 100000 in
set_option maxHeartbeats 1000000 in
theorem Writes_no (h : PS w p hb wb mb F G L) {i : Int} (hi : ¬ (0 ≤ i ∧ i < G)) : Calls Try.prog 17 #[.pointer (some ⟨p, 0, none⟩), .int .i64 i] w fun e w' => e = .returned (.tuple #[.int .i64 0, .int .u64 0, .int .i64 1]) ∧ Bw w w' := by
  have HP := hid h
  have c0 := h.blk.cell 0
  have c1 := h.blk.cell 1
  have c2 := h.blk.cell 2
  simp only [List.getElem?_toArray, List.getElem?_cons_zero, List.getElem?_cons_succ] at c0 c1 c2
  have hlp := h.lts.1
  clear h
  go_enter Try.func17, Try.ntmps17
  go_wp2_with (first
    | (go_at_call 34; refine (vfind_no _ G G i _ hi).mono ?_; rintro e w1 ⟨rfl, hb1⟩)
    | fail)
  all_goals go_region
  all_goals go_wp2
  all_goals go_ret3
  all_goals exact ⟨rfl, by repeat (first | exact hb1 | apply Bw.alloc | apply Bw.drewN | apply Bw.drew)⟩

set_option maxRecDepth 100000 in
set_option maxHeartbeats 1000000 in
theorem isKind_any (i : Int) (w : World) : Calls Try.prog 38 #[.int .i64 i] w fun e w' => e = .returned (.bool (decide (0 ≤ i ∧ i ≤ 3))) ∧ w' = w := by
  by_cases h0 : 0 ≤ i
  · by_cases h1 : i < 4
    · rw [decide_eq_true ⟨h0, by omega⟩]
      go_enter Try.func38, Try.ntmps38
      go_wp2
      all_goals go_ret
      all_goals exact ⟨rfl, rfl⟩
    · rw [decide_eq_false (fun h => h1 (by omega))]
      have hb : decide (i < 4) = false := decide_eq_false h1
      go_enter Try.func38, Try.ntmps38
      go_wp2
      all_goals go_ret
      all_goals exact ⟨rfl, rfl⟩
  · rw [decide_eq_false (fun h => h0 h.1)]
    have hb : decide (0 ≤ i) = false := decide_eq_false h0
    go_enter Try.func38, Try.ntmps38
    go_wp2
    all_goals go_ret
    all_goals exact ⟨rfl, rfl⟩

set_option maxRecDepth 100000 in
set_option maxHeartbeats 1000000 in
theorem place_any (h : PS w p hb wb mb F G L) (i t : Int) : Calls Try.prog 33 #[.pointer (some ⟨p, 0, none⟩), .int .i64 i, .int .i64 t] w fun e w' => e = .returned (.int .i64 (if 0 ≤ i ∧ i < F ∧ 0 ≤ t ∧ t < 65536 then 0 else 1)) ∧ w' = w := by
  have HP := hid h
  have c0 := h.blk.cell 0
  have c1 := h.blk.cell 1
  have c2 := h.blk.cell 2
  simp only [List.getElem?_toArray, List.getElem?_cons_zero, List.getElem?_cons_succ] at c0 c1 c2
  have hlp := h.lts.1
  clear h
  by_cases hf : 0 ≤ i ∧ i < (F : Int)
  · have hd : decide (0 ≤ i ∧ i < (F : Int)) = true := decide_eq_true hf
    by_cases h0 : t < 0
    · rw [if_neg (by omega)]
      clear hf
      go_enter Try.func33, Try.ntmps33
      go_wp2_with (first
        | (go_at_call 41; refine (nhas_any _ _ _ _ _).mono ?_; rintro e w1 ⟨rfl, hw1⟩; subst w1)
        | fail)
      all_goals go_ret
      all_goals exact ⟨rfl, rfl⟩
    · have h0' : ¬ t < 0 := h0
      by_cases h1 : 65536 ≤ t
      · rw [if_neg (by omega)]
        clear hf
        go_enter Try.func33, Try.ntmps33
        go_wp2_with (first
          | (go_at_call 41; refine (nhas_any _ _ _ _ _).mono ?_; rintro e w1 ⟨rfl, hw1⟩; subst w1)
          | fail)
        all_goals go_ret
        all_goals exact ⟨rfl, rfl⟩
      · rw [if_pos ⟨hf.1, hf.2, by omega, by omega⟩]
        clear hf
        go_enter Try.func33, Try.ntmps33
        go_wp2_with (first
          | (go_at_call 41; refine (nhas_any _ _ _ _ _).mono ?_; rintro e w1 ⟨rfl, hw1⟩; subst w1)
          | fail)
        all_goals go_ret
        all_goals exact ⟨rfl, rfl⟩
  · have hd : decide (0 ≤ i ∧ i < (F : Int)) = false := decide_eq_false hf
    rw [if_neg (fun h => hf ⟨h.1, h.2.1⟩)]
    clear hf
    go_enter Try.func33, Try.ntmps33
    go_wp2_with (first
      | (go_at_call 41; refine (nhas_any _ _ _ _ _).mono ?_; rintro e w1 ⟨rfl, hw1⟩; subst w1)
      | fail)
    all_goals go_ret
    all_goals exact ⟨rfl, rfl⟩

end

end Go.Proofs.Ytfkcbioefdkabaa
