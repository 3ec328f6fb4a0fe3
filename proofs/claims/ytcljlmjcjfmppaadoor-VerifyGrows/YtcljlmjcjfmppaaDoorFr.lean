/- How the statements' frames are opened: the table out of the condition; images, instructions, bytes. -/
import Derived.Test.YtcljlmjcjfmppaaDoorTb
import Derived.Test.YtcljlmjcjfmppaaDoorSc
import Derived.Test.YtcljlmjcjfmppaaDoorTie
import Derived.Test.YtcljlmjcjfmppaaDoorCards
import Derived.ProofKit
import Derived.LaidMore
import Derived.OpenShut
import Derived.ShutString
import Derived.ChangeOld
import Derived.Below
import Derived.SevenTiedAt
set_option linter.unusedVariables false
set_option linter.unusedSimpArgs false
namespace Go.Proofs.YtcljlmjcjfmppaaDoor
open Go.ChangeShapes Go.WideShapes Go.ChangeAt Go.RowKit

theorem ownK : ownKnob Tryd.prog.godebug = none := by kernel_rfl
theorem laidOut : laidOutB Tryd.prog = true := by kernel_rfl

abbrev laidS : List (String × DataW Unit) := [("jacquard/code.operations", Rows.laid_jacquard_code_operations)]

theorem gOps : Tryd.prog.globalNamed "jacquard/code.operations" = some 0 := by kernel_rfl
theorem tOps : (Tryd.prog.globals[0]?).map (·.type) = some 76 := by kernel_rfl
set_option maxRecDepth 100000 in
theorem cellsOp : Tryd.prog.cellsOf 75 = 4 := by kernel_rfl
theorem cells9 : Tryd.prog.cellsOf 9 = 1 := by kernel_rfl
theorem cells3 : Tryd.prog.cellsOf 3 = 1 := by kernel_rfl
theorem cells4 : Tryd.prog.cellsOf 4 = 1 := by kernel_rfl
theorem under3 : Tryd.prog.underlying 3 = some (.int .i64) := by kernel_rfl
theorem under4 : Tryd.prog.underlying 4 = some .bool := by kernel_rfl
set_option maxRecDepth 100000 in
theorem underOps : Tryd.prog.underlying 76 = some (.array 33 75) := by kernel_rfl

/-- The door's own heap meets the condition. -/
theorem door_met (os : Os) (args : Array Value) : laidMetH Tryd.prog laidS ((World.doorLaid Tryd.prog 400 os).forCall (fun _ _ => 0) ⟨#[], args, []⟩).memory :=
  laidMetH_of_parts3 (fuel := 8) (laidMet_of_run' 8 (by kernel_rfl) (by kernel_rfl)) (by kernel_rfl) (by kernel_rfl)

theorem ops_datum : (Rows.laid_jacquard_code_operations : DataW Unit) = .agg (opsL.map fun x => .agg [.lit (.string (strOfNums x.1).data.toList), .lit (.int .i64 x.2.1), .lit (.int .i64 x.2.2.1), .lit (.bool x.2.2.2)]) := by
  simp [Rows.laid_jacquard_code_operations, opsL, strOfNums]

set_option maxRecDepth 100000 in
/-- What the condition gives: the table. -/
theorem og_of_laid {W : World} (h : laidMetH Tryd.prog laidS W) : Og W := by
  rw [MakeChecks.laidMetH_plain _ _ _ (by kernel_rfl)] at h
  obtain ⟨ps, ⟨g0, t0, cs0, f0, p0, q0, hg0, ht0, hv0, hd0, _, _⟩, _, _⟩ := h
  obtain rfl := Option.some.inj (gOps.symm.trans hg0)
  obtain rfl := Option.some.inj (tOps.symm.trans ht0)
  obtain ⟨xs, m1, rfl, hx1, hlen, hn, hel⟩ := DataW.trod_array underOps hd0
  rw [cellsOp] at hel
  simp only [Prod.mk.injEq] at hx1
  rw [ops_datum] at hx1
  have hxs : (opsL.map fun x => (DataW.agg [.lit (.string (strOfNums x.1).data.toList), .lit (.int .i64 x.2.1), .lit (.int .i64 x.2.2.1), .lit (.bool x.2.2.2)] : DataW Unit)) = xs.map (·.1) := by simpa using hx1.1
  have key : ∀ i x, opsL[i]? = some x → W.cell? ⟨0, i * 4, none⟩ = some (.string (strOfNums x.1)) ∧ W.cell? ⟨0, i * 4 + 1, none⟩ = some (.int .i64 x.2.1) ∧ W.cell? ⟨0, i * 4 + 2, none⟩ = some (.int .i64 x.2.2.1) ∧ W.cell? ⟨0, i * 4 + 3, none⟩ = some (.bool x.2.2.2) := by
    intro i x hs
    have hi : i < 33 := (List.getElem?_eq_some_iff.1 hs).1
    have h1 := hel i hi
    have hxi : i < xs.length := by omega
    rw [List.getElem?_eq_getElem hxi] at h1
    obtain ⟨ys, n, _, hy, hl, hlen2, hf⟩ := DataW.trod_struct Tryd.underlying75 h1
    have hl4 : ys.length = 4 := hlen2
    match ys, hl4 with
    | [y0, y1, y2, y3], _ =>
    obtain ⟨a0, e0, d0, _⟩ := DataW.trod_string under9 (hf 0 _ rfl)
    obtain ⟨a1, e1, d1, _⟩ := DataW.trod_int under3 (hf 1 _ rfl)
    obtain ⟨a2, e2, d2, _⟩ := DataW.trod_int under3 (hf 2 _ rfl)
    obtain ⟨a3, e3, d3⟩ := DataW.trod_bool under4 (hf 3 _ rfl)
    have h2 : (opsL.map fun x => (DataW.agg [.lit (.string (strOfNums x.1).data.toList), .lit (.int .i64 x.2.1), .lit (.int .i64 x.2.2.1), .lit (.bool x.2.2.2)] : DataW Unit))[i]? = (xs.map (·.1))[i]? := by rw [hxs]
    rw [List.getElem?_map, hs, List.getElem?_map, List.getElem?_eq_getElem hxi, hy] at h2
    rw [d0, d1, d2, d3] at h2
    simp only [Option.map_some, Option.some.injEq, List.map_cons, List.map_nil, DataW.agg.injEq, List.cons.injEq, DataW.lit.injEq, Lit.int.injEq, Lit.string.injEq, Lit.bool.injEq, true_and, and_true] at h2
    obtain ⟨r0, r1, r2, r3⟩ := h2
    have hz : a0 = strOfNums x.1 := by
      cases a0
      simp only [strOfNums] at r0 ⊢
      congr 1
      exact Array.toList_inj.1 r0.symm
    replace e0 : List.take 1 (List.drop 0 (List.take 4 (List.drop (i * 4) cs0.toList))) = [Value.string a0] := by
      have q : List.take (Tryd.prog.cellsOf 9) (List.drop 0 (List.take 4 (List.drop (i * 4) cs0.toList))) = [Value.string a0] := e0
      rw [cells9] at q
      exact q
    have f0 := congrArg (·[0]?) e0
    replace e1 : List.take 1 (List.drop 1 (List.take 4 (List.drop (i * 4) cs0.toList))) = [Value.int .i64 a1] := by
      have q : List.take (Tryd.prog.cellsOf 3) (List.drop 1 (List.take 4 (List.drop (i * 4) cs0.toList))) = [Value.int .i64 a1] := e1
      rw [cells3] at q
      exact q
    have f1 := congrArg (·[0]?) e1
    replace e2 : List.take 1 (List.drop 2 (List.take 4 (List.drop (i * 4) cs0.toList))) = [Value.int .i64 a2] := by
      have q : List.take (Tryd.prog.cellsOf 3) (List.drop 2 (List.take 4 (List.drop (i * 4) cs0.toList))) = [Value.int .i64 a2] := e2
      rw [cells3] at q
      exact q
    have f2 := congrArg (·[0]?) e2
    replace e3 : List.take 1 (List.drop 3 (List.take 4 (List.drop (i * 4) cs0.toList))) = [Value.bool a3] := by
      have q : List.take (Tryd.prog.cellsOf 4) (List.drop 3 (List.take 4 (List.drop (i * 4) cs0.toList))) = [Value.bool a3] := e3
      rw [cells4] at q
      exact q
    have f3 := congrArg (·[0]?) e3
    refine ⟨?_, ?_, ?_, ?_⟩
    · rw [World.var?_cell hg0 hv0, ← hz]; simpa [List.getElem?_take, List.getElem?_drop] using f0
    · rw [World.var?_cell hg0 hv0, r1]; simpa [List.getElem?_take, List.getElem?_drop] using f1
    · rw [World.var?_cell hg0 hv0, r2]; simpa [List.getElem?_take, List.getElem?_drop] using f2
    · rw [World.var?_cell hg0 hv0, r3]; simpa [List.getElem?_take, List.getElem?_drop] using f3
  have h0 := (key 0 _ rfl).1
  exact ⟨World.block_lt_of_cell? W _ h0, key⟩

theorem cells_one {w : World} {a : Addr} {v : Value} (h : w.cells? 0 a 1 = some [v]) : w.cell? a = some v := by
  unfold World.cells? at h
  rw [if_pos (Nat.zero_le _), show List.range 1 = [0] from rfl] at h
  have ea : a.add 0 = a := by simp [Addr.add]
  cases h0 : w.cell? (a.add 0) with
  | none => simp [h0] at h
  | some u =>
    simp [h0] at h
    rw [ea, h] at h0
    exact h0

theorem list_of {α : Type} (q : Nat → α → Prop) : ∀ (n : Nat), (∀ i, i < n → ∃ a, q i a) → ∃ l : List α, l.length = n ∧ ∀ i (hi : i < l.length), q i l[i]
  | 0, _ => ⟨[], rfl, fun i hi => by simp at hi⟩
  | n + 1, h => by
    obtain ⟨l, hl, hq⟩ := list_of q n (fun i hi => h i (by omega))
    obtain ⟨a, ha⟩ := h n (by omega)
    refine ⟨l ++ [a], by simp [hl], fun i hi => ?_⟩
    by_cases hi2 : i < l.length
    · rw [List.getElem_append_left hi2]; exact hq i hi2
    · have : i = l.length := by simp at hi; omega
      subst this
      rw [List.getElem_append_right (Nat.le_refl _)]
      simpa [hl] using ha

set_option maxRecDepth 100000 in
theorem trod_list {α H : Type} {enc : TypeId × Value → H} {w : World} {T E : TypeId} {fuel : Nat} {cs : List Value} {x : DataW H × List MemPlace} (mk : α → Value) (ok : α → Prop)
    (ht : Tryd.prog.underlying T = some (.slice E)) (hc : Tryd.prog.cellsOf E = 1)
    (hel : ∀ n cs x, DataW.trod enc Tryd.prog w 0 (fun _ => true) true n E cs = some x → ∃ a, cs = [mk a] ∧ ok a)
    (h : DataW.trod enc Tryd.prog w 0 (fun _ => true) true fuel T cs = some x) :
    ∃ (v : Value) (l : List α), cs = [v] ∧ Sl w (fun _ => True) v l.length 1 (l.map mk) ∧ (∀ a ∈ l, ok a) ∧ l.length ≤ maxLen := by
  rcases DataW.trod_slice ht h with ⟨rfl, _⟩ | ⟨ad, len, cap, elems, rest, n, _, rfl, _, _, hl, hm, hlen, he, _, _⟩
  · exact ⟨_, [], rfl, Sl.nil _ _ 1, fun a ha => by simp at ha, Nat.zero_le _⟩
  · rw [hc] at he
    have key : ∀ i, i < len → ∃ a, w.cell? (ad.add (i * 1)) = some (mk a) ∧ ok a := by
      intro i hi
      have h1 := he i hi
      obtain ⟨y, hy⟩ : ∃ y, elems[i]? = some y := ⟨_, List.getElem?_eq_getElem (by omega)⟩
      rw [hy, Option.bind_eq_some_iff] at h1
      obtain ⟨cs', hcs, htr⟩ := h1
      obtain ⟨a, rfl, hok⟩ := hel _ _ _ htr
      exact ⟨a, cells_one hcs, hok⟩
    obtain ⟨l, hll, hq⟩ := list_of _ len key
    refine ⟨_, l, rfl, ⟨by simp, some ad, cap, by rw [hll], ⟨by omega, fun h => by cases h⟩, ?_⟩, fun a ha => ?_, by omega⟩
    · by_cases h0 : len = 0
      · exact .inl (by omega)
      · have hc0 := (hq 0 (by omega)).1
        obtain ⟨b, off, spot⟩ := ad
        have hspot : spot = none := by simpa [Addr.add] using World.cell?_spot hc0
        subst hspot
        have hlt : b < w.heap.size := by simpa [Addr.add] using World.block_lt_of_cell? w _ hc0
        refine .inr ⟨b, off, rfl, hlt, trivial, fun i hi => ?_⟩
        have hil : i < l.length := by omega
        have := (hq i hil).1
        have e1 : (⟨b, off, none⟩ : Addr).add (i * 1) = ⟨b, off + i, none⟩ := by
          rw [Nat.mul_one]
          unfold Addr.add
          split
          · rename_i h0; subst h0; rfl
          · rfl
        rw [e1] at this
        rw [this]; simp [hil]
    · obtain ⟨i, hi, rfl⟩ := List.getElem_of_mem ha
      exact (hq i hi).2

theorem cells5 : Tryd.prog.cellsOf 5 = 1 := by kernel_rfl



set_option maxRecDepth 100000 in
theorem open_text {H : Type} {enc : TypeId × Value → H} {W : World} {base : Nat} {v : Value} {d : DataW H} {ps : List MemPlace}
    (hval : Value.okWide Tryd.prog W .any base 9 v) (h : DataW.Trod enc Tryd.prog W 0 (fun _ => true) true 9 v d ps) :
    ∃ l : List Int, v = .string (strOfNums l) ∧ (∀ c ∈ l, 0 ≤ c ∧ c ≤ 255) ∧ l.length ≤ maxLen := by
  obtain ⟨s, rfl, _, _, hm⟩ := Go.ChangeMaps.open_string under9 hval h
  refine ⟨s.data.toList.map fun u => (u.toNat : Int), ?_, ?_, by rw [List.length_map, Array.length_toList]; exact hm⟩
  · congr 1
    cases s
    simp [strOfNums, List.map_map, Function.comp_def]
  · intro c hc
    obtain ⟨u, _, rfl⟩ := List.mem_map.1 hc
    have := u.toNat_lt
    omega


/-- A list of things of 'size' cells each. -/
theorem trod_rl {α H : Type} {enc : TypeId × Value → H} {w : World} {T E : TypeId} {fuel size : Nat} {cs : List Value} {x : DataW H × List MemPlace} (mk : α → List Value) (ok : α → Prop) (hpos : 0 < size)
    (ht : Tryd.prog.underlying T = some (.slice E)) (hc : Tryd.prog.cellsOf E = size) (hmk : ∀ a, (mk a).length = size)
    (hel : ∀ n cs x, DataW.trod enc Tryd.prog w 0 (fun _ => true) true n E cs = some x → ∃ a, cs = mk a ∧ ok a)
    (h : DataW.trod enc Tryd.prog w 0 (fun _ => true) true fuel T cs = some x) :
    ∃ (v : Value) (l : List α), cs = [v] ∧ RL w (fun _ => True) v size mk ok l := by
  rcases DataW.trod_slice ht h with ⟨rfl, _⟩ | ⟨ad, len, cap, elems, rest, n, _, rfl, _, _, hl, hm, hlen, he, _, _⟩
  · exact ⟨_, [], rfl, Sl.nil _ _ size, fun a ha => by simp at ha, Nat.zero_le _, hmk⟩
  · rw [hc] at he
    have key : ∀ i, i < len → ∃ q : α, (∀ j, j < size → w.cell? ((ad.add (i * size)).add j) = (mk q)[j]?) ∧ ok q := by
      intro i hi
      have h1 := he i hi
      obtain ⟨y, hy⟩ : ∃ y, elems[i]? = some y := ⟨_, List.getElem?_eq_getElem (by omega)⟩
      rw [hy, Option.bind_eq_some_iff] at h1
      obtain ⟨cs', hcs, htr⟩ := h1
      obtain ⟨a, rfl, hok⟩ := hel _ _ _ htr
      exact ⟨a, (World.cells?_some hcs).2.2, hok⟩
    obtain ⟨qs, hql, hq⟩ := list_of _ len key
    have hfl : (qs.flatMap mk).length = qs.length * size := by
      clear hq hql
      induction qs with
      | nil => simp
      | cons a r ih => rw [List.flatMap_cons, List.length_append, ih, hmk, List.length_cons, Nat.succ_mul]; omega
    refine ⟨.slice (some ad) len cap, qs, rfl, ⟨hfl, some ad, cap, by rw [hql], ⟨by omega, fun h => by cases h⟩, ?_⟩, fun a ha => ?_, by omega, hmk⟩
    · by_cases h0 : len = 0
      · exact .inl (by omega)
      · have hc0 := (hq 0 (by omega)).1 0 hpos
        obtain ⟨b, off, spot⟩ := ad
        obtain ⟨v0, hv0⟩ : ∃ v0, (mk (qs[0]'(by omega)))[0]? = some v0 := ⟨(mk (qs[0]'(by omega)))[0]'(by rw [hmk]; exact hpos), List.getElem?_eq_getElem _⟩
        have hsome : w.cell? ⟨b, off, spot⟩ = some v0 := by
          rw [hv0] at hc0
          simpa [Addr.add] using hc0
        have hspot : spot = none := World.cell?_spot hsome
        subst hspot
        have hlt : b < w.heap.size := World.block_lt_of_cell? w _ hsome
        have e1 : ∀ k j, ((⟨b, off, none⟩ : Addr).add k).add j = ⟨b, off + (k + j), none⟩ := by
          intro k j
          simp [Addr.add]
          split <;> split <;> simp_all <;> omega
        refine .inr ⟨b, off, rfl, hlt, trivial, fun i hi => ?_⟩
        have hi1 : i / size < qs.length := Nat.div_lt_of_lt_mul (by rw [Nat.mul_comm]; exact hi)
        have hi2 : i % size < size := Nat.mod_lt _ hpos
        have h1 := (hq (i / size) hi1).1 (i % size) hi2
        rw [e1, ← flat_at hmk qs (i / size) (i % size) hi1 hi2] at h1
        have h2 : i / size * size + i % size = i := by rw [Nat.mul_comm]; exact Nat.div_add_mod i size
        rw [h2] at h1
        exact h1
    · obtain ⟨i, hi, rfl⟩ := List.getElem_of_mem ha
      exact (hq i hi).2

set_option maxRecDepth 100000 in
theorem cellsCa : Tryd.prog.cellsOf 64 = 2 := by kernel_rfl
set_option maxRecDepth 100000 in
theorem cellsIn : Tryd.prog.cellsOf 40 = 3 := by kernel_rfl
set_option maxRecDepth 100000 in
theorem cellsTr : Tryd.prog.cellsOf 55 = 4 := by kernel_rfl
set_option maxRecDepth 100000 in
theorem cellsCo : Tryd.prog.cellsOf 38 = 6 := by kernel_rfl
set_option maxRecDepth 100000 in
theorem cellsIm : Tryd.prog.cellsOf 26 = 4 := by kernel_rfl
theorem cellsIs : Tryd.prog.cellsOf 33 = 1 := by kernel_rfl
theorem cellsCas : Tryd.prog.cellsOf 34 = 1 := by kernel_rfl
theorem cellsIns : Tryd.prog.cellsOf 35 = 1 := by kernel_rfl
theorem cellsTrs : Tryd.prog.cellsOf 36 = 1 := by kernel_rfl
theorem cellsSs : Tryd.prog.cellsOf 23 = 1 := by kernel_rfl
theorem cellsLs : Tryd.prog.cellsOf 24 = 1 := by kernel_rfl
theorem cellsCos : Tryd.prog.cellsOf 22 = 1 := by kernel_rfl

section
variable {H : Type} {enc : TypeId × Value → H} {w : World} {fuel : Nat} {cs : List Value} {y : DataW H × List MemPlace}

theorem trod_ints (h : DataW.trod enc Tryd.prog w 0 (fun _ => true) true fuel 33 cs = some y) : ∃ v l, cs = [v] ∧ RInts w (fun _ => True) v l :=
  trod_rl (fun n => [.int .i64 n]) I64 (by decide) Tryd.underlying33 cells3 (fun _ => rfl) (fun n cs x h => by
    obtain ⟨a, rfl, _, wa⟩ := DataW.trod_int under3 h
    exact ⟨a, rfl, bounds_i64 wa⟩) h

theorem trod_strs (h : DataW.trod enc Tryd.prog w 0 (fun _ => true) true fuel 23 cs = some y) : ∃ v l, cs = [v] ∧ RStrs w (fun _ => True) v l :=
  trod_rl (fun s => [.string (strOfNums s)]) _ (by decide) Tryd.underlying23 cells9 (fun _ => rfl) (fun n cs x h => by
    obtain ⟨a, rfl, _, wa⟩ := DataW.trod_string under9 h
    refine ⟨a.data.toList.map fun u => (u.toNat : Int), ?_, ?_, by rw [List.length_map, Array.length_toList]; exact wa⟩
    · cases a
      simp [strOfNums, List.map_map, Function.comp_def]
    · intro c hc
      obtain ⟨u, _, rfl⟩ := List.mem_map.1 hc
      have := u.toNat_lt
      omega) h

set_option maxRecDepth 100000 in
theorem trod_cap (h : DataW.trod enc Tryd.prog w 0 (fun _ => true) true fuel 64 cs = some y) : ∃ p : Int × Int, cs = capC p ∧ I64 p.1 ∧ I64 p.2 := by
  obtain ⟨xs, n, _, _, hl, hlen, hf⟩ := DataW.trod_struct Tryd.underlying64 h
  rw [cellsCa] at hl
  match cs, hl with
  | [c0, c1], _ =>
  have hl2 : xs.length = 2 := hlen
  match xs, hl2 with
  | [y0, y1], _ =>
  obtain ⟨a0, e0, _, w0⟩ := DataW.trod_int under3 (hf 0 _ rfl)
  obtain ⟨a1, e1, _, w1⟩ := DataW.trod_int under3 (hf 1 _ rfl)
  simp [cells3] at e0 e1
  subst e0 e1
  exact ⟨(a0, a1), rfl, bounds_i64 w0, bounds_i64 w1⟩

set_option maxRecDepth 100000 in
theorem trod_ins (h : DataW.trod enc Tryd.prog w 0 (fun _ => true) true fuel 40 cs = some y) : ∃ p : Int × Int × Int, cs = insC p ∧ I64 p.1 ∧ I64 p.2.1 ∧ I64 p.2.2 := by
  obtain ⟨xs, n, _, _, hl, hlen, hf⟩ := DataW.trod_struct Tryd.underlying40 h
  rw [cellsIn] at hl
  match cs, hl with
  | [c0, c1, c2], _ =>
  have hl2 : xs.length = 3 := hlen
  match xs, hl2 with
  | [y0, y1, y2], _ =>
  obtain ⟨a0, e0, _, w0⟩ := DataW.trod_int under3 (hf 0 _ rfl)
  obtain ⟨a1, e1, _, w1⟩ := DataW.trod_int under3 (hf 1 _ rfl)
  obtain ⟨a2, e2, _, w2⟩ := DataW.trod_int under3 (hf 2 _ rfl)
  simp [cells3] at e0 e1 e2
  subst e0 e1 e2
  exact ⟨(a0, a1, a2), rfl, bounds_i64 w0, bounds_i64 w1, bounds_i64 w2⟩

set_option maxRecDepth 100000 in
theorem trod_try (h : DataW.trod enc Tryd.prog w 0 (fun _ => true) true fuel 55 cs = some y) : ∃ p : Int × Int × Int × Int, cs = tryC p ∧ I64 p.1 ∧ I64 p.2.1 ∧ I64 p.2.2.1 ∧ I64 p.2.2.2 := by
  obtain ⟨xs, n, _, _, hl, hlen, hf⟩ := DataW.trod_struct Tryd.underlying55 h
  rw [cellsTr] at hl
  match cs, hl with
  | [c0, c1, c2, c3], _ =>
  have hl2 : xs.length = 4 := hlen
  match xs, hl2 with
  | [y0, y1, y2, y3], _ =>
  obtain ⟨a0, e0, _, w0⟩ := DataW.trod_int under3 (hf 0 _ rfl)
  obtain ⟨a1, e1, _, w1⟩ := DataW.trod_int under3 (hf 1 _ rfl)
  obtain ⟨a2, e2, _, w2⟩ := DataW.trod_int under3 (hf 2 _ rfl)
  obtain ⟨a3, e3, _, w3⟩ := DataW.trod_int under3 (hf 3 _ rfl)
  simp [cells3] at e0 e1 e2 e3
  subst e0 e1 e2 e3
  exact ⟨(a0, a1, a2, a3), rfl, bounds_i64 w0, bounds_i64 w1, bounds_i64 w2, bounds_i64 w3⟩

theorem trod_caps (h : DataW.trod enc Tryd.prog w 0 (fun _ => true) true fuel 34 cs = some y) : ∃ v l, cs = [v] ∧ RCaps w (fun _ => True) v l :=
  trod_rl capC _ (by decide) Tryd.underlying34 cellsCa (fun _ => rfl) (fun n cs x h => trod_cap h) h
theorem trod_inss (h : DataW.trod enc Tryd.prog w 0 (fun _ => true) true fuel 35 cs = some y) : ∃ v l, cs = [v] ∧ RIns w (fun _ => True) v l :=
  trod_rl insC _ (by decide) Tryd.underlying35 cellsIn (fun _ => rfl) (fun n cs x h => trod_ins h) h
theorem trod_trys (h : DataW.trod enc Tryd.prog w 0 (fun _ => true) true fuel 36 cs = some y) : ∃ v l, cs = [v] ∧ RTry w (fun _ => True) v l :=
  trod_rl tryC _ (by decide) Tryd.underlying36 cellsTr (fun _ => rfl) (fun n cs x h => trod_try h) h

set_option maxRecDepth 100000 in
theorem trod_fn (h : DataW.trod enc Tryd.prog w 0 (fun _ => true) true fuel 38 cs = some y) : ∃ m : MFn, cs = fnC m ∧ RFn w (fun _ => True) m := by
  obtain ⟨xs, n, _, _, hl, hlen, hf⟩ := DataW.trod_struct Tryd.underlying38 h
  rw [cellsCo] at hl
  match cs, hl with
  | [c0, c1, c2, c3, c4, c5], _ =>
  have hl2 : xs.length = 6 := hlen
  match xs, hl2 with
  | [y0, y1, y2, y3, y4, y5], _ =>
  obtain ⟨a0, e0, _, w0⟩ := DataW.trod_int under3 (hf 0 _ rfl)
  obtain ⟨a1, e1, _, w1⟩ := DataW.trod_int under3 (hf 1 _ rfl)
  obtain ⟨v2, l2, e2, s2⟩ := trod_ints (hf 2 _ rfl)
  obtain ⟨v3, l3, e3, s3⟩ := trod_caps (hf 3 _ rfl)
  obtain ⟨v4, l4, e4, s4⟩ := trod_inss (hf 4 _ rfl)
  obtain ⟨v5, l5, e5, s5⟩ := trod_trys (hf 5 _ rfl)
  simp [cells3, cellsIs, cellsCas, cellsIns, cellsTrs] at e0 e1 e2 e3 e4 e5
  subst e0 e1 e2 e3 e4 e5
  exact ⟨⟨⟨a0, a1, l2, l3, l4, l5⟩, c2, c3, c4, c5⟩, rfl, bounds_i64 w0, bounds_i64 w1, s2, s3, s4, s5⟩

theorem trod_keys (h : DataW.trod enc Tryd.prog w 0 (fun _ => true) true fuel 24 cs = some y) : ∃ v l, cs = [v] ∧ RKs w (fun _ => True) v l :=
  trod_rl (fun m : List Int × Value => [m.2]) (fun m => RInts w (fun _ => True) m.2 m.1) (by decide) Tryd.underlying24 cellsIs (fun _ => rfl) (fun n cs x h => by
    obtain ⟨v, l, rfl, hv⟩ := trod_ints h
    exact ⟨(l, v), rfl, hv⟩) h
theorem trod_fns (h : DataW.trod enc Tryd.prog w 0 (fun _ => true) true fuel 22 cs = some y) : ∃ v l, cs = [v] ∧ RFs w (fun _ => True) v l :=
  trod_rl fnC (fun m => RFn w (fun _ => True) m) (by decide) Tryd.underlying22 cellsCo (fun _ => rfl) (fun n cs x h => trod_fn h) h
end

set_option maxRecDepth 100000 in
theorem open_image {H : Type} {enc : TypeId × Value → H} {W : World} {base : Nat} {v : Value} {d : DataW H} {ps : List MemPlace}
    (hval : Value.okWide Tryd.prog W .any base 26 v) (h : DataW.Trod enc Tryd.prog W 0 (fun _ => true) true 26 v d ps) :
    ∃ vf vs vk m, v = imV vf vs vk m ∧ RIm W (fun _ => True) vf vs vk m := by
  obtain ⟨cs, rfl, hsz⟩ := okWide_struct Tryd.underlying26 hval
  obtain ⟨fuel, hf⟩ := h
  obtain ⟨xs, n, _, _, hl, hlen, hfl⟩ := DataW.trod_struct Tryd.underlying26 hf
  rw [cellsIm] at hl
  have hl2 : xs.length = 4 := hlen
  match xs, hl2 with
  | [y0, y1, y2, y3], _ =>
  obtain ⟨l⟩ := cs
  have hcs : (Value.agg l.toArray).cells.toList = l := by simp [Value.cells]
  simp only [hcs] at hl hfl
  match l, hl with
  | [k0, k1, k2, k3], _ =>
  obtain ⟨v0, l0, e0, s0⟩ := trod_fns (hfl 0 _ rfl)
  obtain ⟨v1, l1, e1, s1⟩ := trod_strs (hfl 1 _ rfl)
  obtain ⟨v2, l2, e2, s2⟩ := trod_keys (hfl 2 _ rfl)
  obtain ⟨a3, e3, _, w3⟩ := DataW.trod_int under3 (hfl 3 _ rfl)
  simp [cells3, cellsCos, cellsSs, cellsLs] at e0 e1 e2 e3
  subst e0 e1 e2 e3
  exact ⟨k0, k1, k2, ⟨l0.map (·.f), l1, l2.map (·.1), a3⟩, rfl, ⟨l0, rfl, s0⟩, s1, ⟨l2, rfl, s2⟩, bounds_i64 w3⟩

set_option maxRecDepth 100000 in
theorem open_ins {H : Type} {enc : TypeId × Value → H} {W : World} {base : Nat} {v : Value} {d : DataW H} {ps : List MemPlace}
    (hval : Value.okWide Tryd.prog W .any base 40 v) (h : DataW.Trod enc Tryd.prog W 0 (fun _ => true) true 40 v d ps) :
    ∃ p : Int × Int × Int, v = .agg #[.int .i64 p.1, .int .i64 p.2.1, .int .i64 p.2.2] ∧ I64 p.1 ∧ I64 p.2.1 ∧ I64 p.2.2 := by
  obtain ⟨cs, rfl, hsz⟩ := okWide_struct Tryd.underlying40 hval
  obtain ⟨fuel, hf⟩ := h
  obtain ⟨l⟩ := cs
  have hcs : (Value.agg l.toArray).cells.toList = l := by simp [Value.cells]
  rw [hcs] at hf
  obtain ⟨p, e, hp⟩ := trod_ins hf
  subst e
  exact ⟨p, rfl, hp⟩

end Go.Proofs.YtcljlmjcjfmppaaDoor
