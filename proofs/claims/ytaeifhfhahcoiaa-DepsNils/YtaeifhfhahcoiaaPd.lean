/- New, Valid, Versions, Of, On, Drop; nil registries: contracts. -/
import Derived.Test.YtaeifhfhahcoiaaPc
set_option linter.unusedSimpArgs false
set_option linter.unusedVariables false
namespace Go.Proofs.Ytaeifhfhahcoiaa
open Go Go.RowKit

set_option maxRecDepth 100000 in
set_option maxHeartbeats 1000000 in
theorem Add_nil (f : Int) (v : Value) (w : World) : Calls Try.prog 16 #[.pointer none, .int .i64 f, v] w fun e w' => e = .returned (.tuple #[.int .i64 0, .int .i64 5]) ∧ w' = w := by
  go_enter Try.func16, Try.ntmps16
  go_wp2
  all_goals go_ret2
  all_goals exact ⟨rfl, rfl⟩

set_option maxRecDepth 100000 in
set_option maxHeartbeats 1000000 in
theorem Wrote_nil (f : Int) (v : Value) (w : World) : Calls Try.prog 17 #[.pointer none, .int .i64 f, v] w fun e w' => e = .returned (.tuple #[.slice none 0 0, .int .i64 5]) ∧ w' = w := by
  go_enter Try.func17, Try.ntmps17
  go_wp2
  all_goals go_ret2
  all_goals exact ⟨rfl, rfl⟩

set_option maxRecDepth 100000 in
set_option maxHeartbeats 1000000 in
theorem Versions_nil (f : Int) (v : Value) (w : World) : Calls Try.prog 18 #[.pointer none, .int .i64 f] w fun e w' => e = .returned (.tuple #[.int .i64 0, .int .i64 5]) ∧ w' = w := by
  go_enter Try.func18, Try.ntmps18
  go_wp2
  all_goals go_ret2
  all_goals exact ⟨rfl, rfl⟩

set_option maxRecDepth 100000 in
set_option maxHeartbeats 1000000 in
theorem Of_nil (f : Int) (v : Value) (w : World) : Calls Try.prog 19 #[.pointer none, .int .i64 f] w fun e w' => e = .returned (.tuple #[.int .i64 0, .bool false]) ∧ w' = w := by
  go_enter Try.func19, Try.ntmps19
  go_wp2
  all_goals go_ret2
  all_goals exact ⟨rfl, rfl⟩

set_option maxRecDepth 100000 in
set_option maxHeartbeats 1000000 in
theorem On_nil (f : Int) (v : Value) (w : World) : Calls Try.prog 20 #[.pointer none, .int .i64 f] w fun e w' => e = .returned (.slice none 0 0) ∧ w' = w := by
  go_enter Try.func20, Try.ntmps20
  go_wp2
  all_goals go_ret
  all_goals exact ⟨rfl, rfl⟩

set_option maxRecDepth 100000 in
set_option maxHeartbeats 1000000 in
theorem Drop_nil (f : Int) (v : Value) (w : World) : Calls Try.prog 21 #[.pointer none, .int .i64 f] w fun e w' => e = .returned (.int .i64 5) ∧ w' = w := by
  go_enter Try.func21, Try.ntmps21
  go_wp2
  all_goals go_ret
  all_goals exact ⟨rfl, rfl⟩

set_option maxRecDepth 100000 in
set_option maxHeartbeats 1000000 in
theorem Valid_nil (f : Int) (v : Value) (w : World) : Calls Try.prog 15 #[.pointer none, .int .i64 f] w fun e w' => e = .returned (.bool false) ∧ w' = w := by
  go_enter Try.func15, Try.ntmps15
  go_wp2
  all_goals go_ret
  all_goals exact ⟨rfl, rfl⟩

set_option maxRecDepth 100000 in
set_option maxHeartbeats 1000000 in
theorem New_no (f g : Int) (w : World) (h : ¬ (1 ≤ f ∧ f ≤ 1024 ∧ 0 ≤ g ∧ g ≤ 1024)) : Calls Try.prog 10 #[.int .i64 f, .int .i64 g] w fun e w' => e = .returned (.tuple #[.pointer none, .int .i64 1]) ∧ w' = w := by
  by_cases h1 : f < 1
  · clear h
    go_enter Try.func10, Try.ntmps10
    go_wp2
    all_goals go_ret2
    all_goals exact ⟨rfl, rfl⟩
  by_cases h2 : 1024 < f
  · clear h
    have b1 : decide (f < 1) = false := decide_eq_false h1
    go_enter Try.func10, Try.ntmps10
    go_wp2
    all_goals go_ret2
    all_goals exact ⟨rfl, rfl⟩
  by_cases h3 : g < 0
  · clear h
    have b1 : decide (f < 1) = false := decide_eq_false h1
    have b2 : decide (1024 < f) = false := decide_eq_false h2
    go_enter Try.func10, Try.ntmps10
    go_wp2
    all_goals go_ret2
    all_goals exact ⟨rfl, rfl⟩
  · have h4 : 1024 < g := by omega
    clear h
    have b1 : decide (f < 1) = false := decide_eq_false h1
    have b2 : decide (1024 < f) = false := decide_eq_false h2
    have b3 : decide (g < 0) = false := decide_eq_false h3
    go_enter Try.func10, Try.ntmps10
    go_wp2
    all_goals go_ret2
    all_goals exact ⟨rfl, rfl⟩

theorem DS.made (w : World) (F G : Nat) : DS (w.alloc (.cells #[.int .i64 F, .int .i64 G, .slice none 0 0] 68)) w.heap.size [w.heap.size] F G (.slice none 0 0) [] :=
  ⟨Blk.new w _ _, World.ownsRow_nil _ _ _ _, fun q hq => by simp at hq, by simp, fun b hb => by simp [Value.ownBlock] at hb, fun b hb => by simp at hb; subst hb; simp, ⟨by simp, fun q hq => by simp at hq⟩, fun q hq => by simp at hq⟩

set_option maxRecDepth 100000 in
set_option maxHeartbeats 1000000 in
theorem New_yes (F G : Nat) (w : World) (h1 : 1 ≤ F) (h2 : F ≤ 1024) (h3 : G ≤ 1024) : Calls Try.prog 10 #[.int .i64 F, .int .i64 G] w fun e w' => ∃ p, e = .returned (.tuple #[.pointer (some ⟨p, 0, none⟩), .int .i64 0]) ∧ DS w' p [p] F G (.slice none 0 0) [] ∧ Bw w w' ∧ w.heap.size ≤ p := by
  have b1 : ¬ (F : Int) < 1 := by omega
  have b2 : ¬ (1024 : Int) < F := by omega
  have b3 : ¬ (G : Int) < 0 := by omega
  have b4 : ¬ (1024 : Int) < G := by omega
  go_enter Try.func10, Try.ntmps10
  go_wp2
  all_goals go_ret2
  all_goals exact ⟨_, rfl, DS.made w F G, Bw.alloc (Bw.refl _) _, Nat.le_refl _⟩

/-- Is it a version, and valid? -/
def validL (K : List VV) (i : Int) : Bool := oneOf i K.length && (match K[i.toNat]? with | some x => x.ok | none => false)
theorem validL_no {K : List VV} {i : Int} (h : oneOf i K.length = false) : validL K i = false := by simp [validL, h]
theorem validL_nat {K : List VV} {n : Nat} (h : n < K.length) : validL K n = K[n].ok := by
  have h1 : oneOf (n : Int) K.length = true := oneOf_yes (by omega) (by omega)
  simp [validL, h1, h]

theorem own_parts {w : World} {base : Nat} {e : TypeId} {size : Nat} {v : Value} {n : Nat} {xs : List Value} (h : w.ownsRow base e size v n xs) (hn : n ≠ 0) :
    ∃ g cap cur, v = .slice (some ⟨g, 0, none⟩) n cap ∧ base ≤ g ∧ Blk w g cur e ∧ n ≤ cap ∧ cap ≤ maxLen ∧ cur.size = cap * size ∧ cur.toList.take (n * size) = xs := by
  rcases h.2 with ⟨_, h0⟩ | h
  · exact absurd h0 hn
  · exact h

theorem DS.at {w : World} {p F G : Nat} {bs : List Nat} {a : Option Addr} {c : Nat} {L : List (VV × Value)} (h : DS w p bs F G (.slice a L.length c) L) {n : Nat} (hn : n < L.length) :
    ∃ g, a = some ⟨g, 0, none⟩ ∧ g < w.heap.size ∧ w.cell? ⟨g, n * 3, none⟩ = some (.int .i64 L[n].1.f) ∧ w.cell? ⟨g, n * 3 + 1, none⟩ = some L[n].2 ∧ w.cell? ⟨g, n * 3 + 2, none⟩ = some (.bool L[n].1.ok) ∧ (∀ j, w.frozen? ⟨g, j, none⟩ = false) ∧ g ≠ p ∧ g ∈ bs := by
  obtain ⟨g, cap, cur, e, _, hb, hc1, hc2, hsz, ht⟩ := own_parts h.row (by omega)
  cases e
  obtain ⟨q0, q1, q2⟩ := rowC_get L n hn
  have hm := h.mr g rfl
  have key : ∀ j, j < 3 → w.cell? ⟨g, n * 3 + j, none⟩ = (rowC L)[n * 3 + j]? := by
    intro j hj
    rw [hb.cell, ← ht, List.getElem?_take, if_pos (by omega)]
    simp
  exact ⟨g, rfl, hb.lt, (key 0 (by omega)).trans q0, (key 1 (by omega)).trans q1, (key 2 (by omega)).trans q2, hb.free, hm.2, hm.1⟩

section
variable {w : World} {p F G : Nat} {bs : List Nat} {rv : Value} {L : List (VV × Value)}

set_option maxRecDepth 100000 in
set_option maxHeartbeats 1000000 in
theorem Valid_any (h : DS w p bs F G rv L) (i : Int) : Calls Try.prog 15 #[.pointer (some ⟨p, 0, none⟩), .int .i64 i] w fun e w' => e = .returned (.bool (validL (L.map Prod.fst) i)) ∧ w' = w := by
  obtain ⟨a, c, rfl⟩ := own_form h.row
  have c2 := h.blk.cell 2
  simp only [List.getElem?_toArray, List.getElem?_cons_zero, List.getElem?_cons_succ] at c2
  have hlp := h.blk.lt
  have HP := hid h
  have hl : (L.map Prod.fst).length = L.length := by simp
  clear h
  cases h1 : oneOf i L.length
  · have hv : validL (L.map Prod.fst) i = false := validL_no (by rw [hl]; exact h1)
    have ho1 := fun w => h1 ▸ one_any i L.length w
    rw [hv]
    clear hv hl
    go_enter Try.func15, Try.ntmps15
    go_wp2_with (first
      | (go_at_call 28; refine (ho1 _).mono ?_; rintro e w1 ⟨rfl, hw⟩; subst w1)
      | fail)
    all_goals go_ret
    all_goals exact ⟨rfl, rfl⟩
  · obtain ⟨z1, z2⟩ := oneOf_iff.1 h1
    obtain ⟨n, rfl⟩ : ∃ n : Nat, i = n := ⟨i.toNat, by omega⟩
    have hn : n < L.length := by omega
    have ho1 := fun w => h1 ▸ one_any n L.length w
    obtain ⟨g, e, hlg, x0, x1, x2, _⟩ := HP.out.at hn
    subst e
    have hv : validL (L.map Prod.fst) n = L[n].1.ok := by rw [validL_nat (by rw [hl]; exact hn)]; simp
    rw [hv]
    generalize L[n].1.ok = bb at x2
    clear hv hl x0 x1
    go_enter Try.func15, Try.ntmps15
    go_wp2_with (first
      | (go_at_call 28; refine (ho1 _).mono ?_; rintro e w1 ⟨rfl, hw⟩; subst w1)
      | fail)
    all_goals go_ret
    all_goals exact ⟨rfl, rfl⟩

set_option maxRecDepth 100000 in
set_option maxHeartbeats 1000000 in
theorem Versions_any (h : DS w p bs F G rv L) (i : Int) : Calls Try.prog 18 #[.pointer (some ⟨p, 0, none⟩), .int .i64 i] w fun e w' => e = .returned (.tuple #[.int .i64 (if oneOf i F then (cnt i (L.map Prod.fst) : Nat) else 0 : Nat), .int .i64 (if oneOf i F then 0 else 1)]) ∧ Bw w w' := by
  have c0 := h.blk.cell 0
  simp only [List.getElem?_toArray, List.getElem?_cons_zero, List.getElem?_cons_succ] at c0
  have hlp := h.blk.lt
  have HP := hid h
  clear h
  have ho1 := fun w => one_any i F w
  cases h1 : oneOf i F
  · rw [h1] at ho1
    simp only [if_neg Bool.false_ne_true]
    clear h1
    go_enter Try.func18, Try.ntmps18
    go_wp2_with (first
      | (go_at_call 28; refine (ho1 _).mono ?_; rintro e w1 ⟨rfl, hw⟩; subst w1)
      | fail)
    all_goals go_ret2
    all_goals exact ⟨rfl, Bw.refl _⟩
  · rw [h1] at ho1
    simp only [if_true]
    have hfA := hid (findA HP.out i)
    unfold cnt
    generalize all (aof i) (L.map Prod.fst) = J at hfA
    clear h1
    go_enter Try.func18, Try.ntmps18
    go_wp2_with (first
      | (go_at_call 28; refine (ho1 _).mono ?_; rintro e w1 ⟨rfl, hw⟩; subst w1)
      | (go_at_call 30; refine hfA.out.mono ?_; rintro e w1 ⟨r, rfl, ho, hb⟩; obtain ⟨ar, cr, e⟩ := own_form ho; subst e; have HO := hid ho; have HB := hid hb; clear ho hb)
      | fail)
    all_goals go_ret2
    all_goals exact ⟨rfl, HB.out⟩

/-- The valid version of a function. -/
def ofL (K : List VV) (f : Int) : Value := match all (vof f) K with | [] => .tuple #[.int .i64 0, .bool false] | i :: _ => .tuple #[.int .i64 (i : Nat), .bool true]

set_option maxRecDepth 100000 in
set_option maxHeartbeats 1000000 in
theorem Of_any (h : DS w p bs F G rv L) (i : Int) : Calls Try.prog 19 #[.pointer (some ⟨p, 0, none⟩), .int .i64 i] w fun e w' => e = .returned (ofL (L.map Prod.fst) i) ∧ Bw w w' := by
  have hlp := h.blk.lt
  have hfV := hid (findV h i)
  unfold ofL
  generalize all (vof i) (L.map Prod.fst) = J at hfV
  clear h
  cases J with
  | nil =>
    simp only
    go_enter Try.func19, Try.ntmps19
    go_wp2_with (first
      | (go_at_call 30; refine hfV.out.mono ?_; rintro e w1 ⟨r, rfl, ho, hb⟩; obtain ⟨ar, cr, e⟩ := own_form ho; simp only [List.length_nil] at e; subst e; have HO := hid ho; have HB := hid hb; clear ho hb)
      | fail)
    all_goals go_ret2
    all_goals exact ⟨rfl, HB.out⟩
  | cons j J =>
    simp only
    obtain ⟨N, hN⟩ : ∃ N, (j :: J).length = N + 1 := ⟨J.length, rfl⟩
    have HN := hid hN
    rw [hN] at hfV
    clear hN
    have p0 : ((N : Int) + 1 == 0) = false := by simp; omega
    have p1 : ¬ ((N : Int) + 1 ≤ 0) := by omega
    have p2 : (0 : Int) < (N : Int) + 1 := by omega
    go_enter Try.func19, Try.ntmps19
    go_wp2_with (first
      | (go_at_call 30; refine hfV.out.mono ?_; rintro e w1 ⟨r, rfl, ho, hb⟩; obtain ⟨g, cap, cur, e, _, hbk, hc1, hc2, hsz, ht⟩ := own_parts ho (by omega); subst e; have HO := hid ho; have HB := hid hb; have hg := hbk.lt; have hc0 := (show w1.cell? ⟨g, 0, none⟩ = some (.int .i64 (j : Nat)) by rw [hbk.cell]; have := congrArg (·[0]?) ht; simp only [List.getElem?_take] at this; rw [if_pos (by omega)] at this; simpa [ints] using this); clear ho hb hbk hc1 hc2 hsz ht)
      | fail)
    all_goals go_ret2
    all_goals exact ⟨rfl, HB.out⟩

set_option maxRecDepth 100000 in
set_option maxHeartbeats 1000000 in
theorem On_any (h : DS w p bs F G rv L) (i : Int) : Calls Try.prog 20 #[.pointer (some ⟨p, 0, none⟩), .int .i64 i] w fun e w' => ∃ r l, e = .returned r ∧ w'.ownsRow w.heap.size 61 2 r l.length (depC l) ∧ Bw w w' ∧ l.length ≤ 1000 ∧ (oneOf i L.length = false → l = []) ∧ ∀ (n : Nat) (hn : n < L.length), i = n → l = L[n].1.on := by
  obtain ⟨a, c, rfl⟩ := own_form h.row
  have c2 := h.blk.cell 2
  simp only [List.getElem?_toArray, List.getElem?_cons_zero, List.getElem?_cons_succ] at c2
  have hlp := h.blk.lt
  have HP := hid h
  clear h
  cases h1 : oneOf i L.length
  · have ho1 := fun w => h1 ▸ one_any i L.length w
    have HX := hid (show ∀ (n : Nat) (hn : n < L.length), i = n → [] = L[n].1.on from fun n hn e => by
      subst e
      rw [oneOf_yes (by omega) (by omega)] at h1
      cases h1)
    go_enter Try.func20, Try.ntmps20
    go_wp2_with (first
      | (go_at_call 28; refine (ho1 _).mono ?_; rintro e w1 ⟨rfl, hw⟩; subst w1)
      | fail)
    all_goals go_ret
    all_goals exact ⟨_, [], rfl, World.ownsRow_nil _ _ _ _, Bw.refl _, by simp, fun _ => rfl, HX.out⟩
  · obtain ⟨z1, z2⟩ := oneOf_iff.1 h1
    obtain ⟨n, rfl⟩ : ∃ n : Nat, i = n := ⟨i.toNat, by omega⟩
    have hn : n < L.length := by omega
    have ho1 := fun w => h1 ▸ one_any n L.length w
    obtain ⟨g, e, hlg, x0, x1, x2, _⟩ := HP.out.at hn
    subst e
    have hm : L[n] ∈ L := List.getElem_mem hn
    have HC := hid (clone_any L[n].2 L[n].1.on (HP.out.ons _ hm) (HP.out.big.2 _ hm))
    have HM := hid (HP.out.big.2 _ hm)
    have HX := hid (show ∀ (m : Nat) (hm : m < L.length), (n : Int) = m → L[n].1.on = L[m].1.on from fun m hm e => by
      obtain rfl : n = m := by omega
      rfl)
    generalize L[n].1.on = l at HC HM HX
    generalize L[n].2 = lv at x1 HC
    clear x0 x2 hm
    go_enter Try.func20, Try.ntmps20
    go_wp2_with (first
      | (go_at_call 28; refine (ho1 _).mono ?_; rintro e w1 ⟨rfl, hw⟩; subst w1)
      | (go_at_call 31; refine HC.out.mono ?_; rintro e w1 ⟨r, rfl, ho, hb⟩; obtain ⟨ar, cr, e⟩ := own_form ho; subst e; have HO := hid ho; have HB := hid hb; clear ho hb)
      | fail)
    all_goals go_ret
    all_goals exact ⟨_, l, rfl, HO.out, HB.out, HM.out, (fun h => by cases h), HX.out⟩

theorem own_set {w : World} {base : Nat} {e : TypeId} {size g n cap : Nat} {xs : List Value} (h : w.ownsRow base e size (.slice (some ⟨g, 0, none⟩) n cap) n xs) {j : Nat} (hj : j < n * size) (u : Value) :
    (w.setCell ⟨g, j, none⟩ u).ownsRow base e size (.slice (some ⟨g, 0, none⟩) n cap) n (xs.set j u) := by
  refine ⟨by rw [List.length_set]; exact h.1, .inr ?_⟩
  rcases h.2 with ⟨h1, _⟩ | ⟨g', cap', cur, e1, hbb, hg, h1, h2, h3, h4⟩
  · cases h1
  · cases e1
    refine ⟨g, cap, cur.setIfInBounds j u, rfl, hbb, Blk.set (w := w) (show Blk w g cur e from hg) j u, h1, h2, by simpa using h3, ?_⟩
    rw [Array.toList_setIfInBounds, ← h4, List.take_set]

theorem DS.off {g n c : Nat} (h : DS w p bs F G (.slice (some ⟨g, 0, none⟩) L.length c) L) (hn : n < L.length) : DS (w.setCell ⟨g, n * 3 + 2, none⟩ (.bool false)) p bs F G (.slice (some ⟨g, 0, none⟩) L.length c) (L.modify n offq) := by
  have hg := h.mr g rfl
  have hk : ∀ b, b ≠ g → (w.setCell ⟨g, n * 3 + 2, none⟩ (.bool false)).heap[b]? = w.heap[b]? := fun b hb => Below.heap_setCell w _ _ b hb
  have hmem : ∀ q ∈ L.modify n offq, ∃ q0 ∈ L, q.2 = q0.2 ∧ q.1.on = q0.1.on := by
    intro q hq
    obtain ⟨i, hi, rfl⟩ := List.getElem_of_mem hq
    rw [List.getElem_modify]
    have hi2 : i < L.length := by simpa using hi
    refine ⟨L[i], List.getElem_mem hi2, ?_⟩
    split <;> exact ⟨rfl, rfl⟩
  refine ⟨h.blk.keep (hk p (Ne.symm hg.2)), ?_, ?_, h.mp, h.mr, fun b hb => by simpa using h.lt b hb, ⟨by simpa using h.big.1, ?_⟩, ?_⟩
  · rw [rowC_off L n hn, List.length_modify]
    exact own_set h.row (by omega) _
  · intro q hq
    obtain ⟨q0, h0, e1, e2⟩ := hmem q hq
    rw [e1, e2]
    refine (h.ons q0 h0).keep (by simp) (fun b _ hb => hk b (fun e => hb.2.2 (by rw [e]; rfl))) (fun _ _ g => g)
  · intro q hq
    obtain ⟨q0, h0, e1, e2⟩ := hmem q hq
    rw [e2]
    exact h.big.2 q0 h0
  · intro q hq
    obtain ⟨q0, h0, e1, e2⟩ := hmem q hq
    rw [e2]
    exact h.once q0 h0

set_option maxRecDepth 100000 in
set_option maxHeartbeats 1000000 in
theorem Drop_any (h : DS w p bs F G rv L) (i : Int) : Calls Try.prog 21 #[.pointer (some ⟨p, 0, none⟩), .int .i64 i] w fun e w' => ∃ L', e = .returned (.int .i64 (if oneOf i L.length then 0 else 1)) ∧ DS w' p bs F G rv L' ∧ Nx bs w w' bs ∧ L'.map Prod.fst = (if oneOf i L.length then (L.map Prod.fst).modify i.toNat off else L.map Prod.fst) := by
  obtain ⟨a, c, rfl⟩ := own_form h.row
  have c2 := h.blk.cell 2
  simp only [List.getElem?_toArray, List.getElem?_cons_zero, List.getElem?_cons_succ] at c2
  have hlp := h.blk.lt
  have HP := hid h
  clear h
  cases h1 : oneOf i L.length
  · have ho1 := fun w => h1 ▸ one_any i L.length w
    simp only [if_neg Bool.false_ne_true]
    go_enter Try.func21, Try.ntmps21
    go_wp2_with (first
      | (go_at_call 28; refine (ho1 _).mono ?_; rintro e w1 ⟨rfl, hw⟩; subst w1)
      | fail)
    all_goals go_ret
    all_goals exact ⟨L, rfl, HP.out, Nx.refl _ _, rfl⟩
  · obtain ⟨z1, z2⟩ := oneOf_iff.1 h1
    obtain ⟨n, rfl⟩ : ∃ n : Nat, i = n := ⟨i.toNat, by omega⟩
    have hn : n < L.length := by omega
    have ho1 := fun w => h1 ▸ one_any n L.length w
    obtain ⟨g, e, hlg, x0, x1, x2, hfz, hgp, hgb⟩ := HP.out.at hn
    subst e
    have HD := hid (HP.out.off hn)
    have HX := hid (show Nx bs w (w.setCell ⟨g, n * 3 + 2, none⟩ (.bool false)) bs from ⟨Ex.set (Ex.refl _ _) (.inl hgb) _ _, fun b hb => .inl hb⟩)
    simp only [if_true]
    clear x0 x1
    go_enter Try.func21, Try.ntmps21
    go_wp2_with (first
      | (go_at_call 28; refine (ho1 _).mono ?_; rintro e w1 ⟨rfl, hw⟩; subst w1)
      | fail)
    all_goals go_ret
    all_goals exact ⟨_, rfl, HD.out, HX.out, by rw [map_offq]; rfl⟩

end

end Go.Proofs.Ytaeifhfhahcoiaa
