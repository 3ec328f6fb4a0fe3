/- How the statements' frames are opened: the tables out of the condition; lists of words, bytes, texts. -/
import Derived.Test.YtajnpdiepiinjaaGreatDoorKD
import Derived.Test.YtajnpdiepiinjaaGreatDoorTie
import Derived.Test.YtajnpdiepiinjaaGreatDoorCards
import Derived.ProofKit
import Derived.LaidMore
import Derived.OpenShut
import Derived.ShutString
import Derived.ChangeOld
import Derived.Below
import Derived.SevenTiedAt
set_option linter.unusedVariables false
set_option linter.unusedSimpArgs false
namespace Go.Proofs.YtajnpdiepiinjaaGreatDoor
open Go.ChangeShapes Go.WideShapes Go.ChangeAt Go.RowKit

theorem ownK : ownKnob Tryz.prog.godebug = none := by kernel_rfl
theorem laidOut : laidOutB Tryz.prog = true := by kernel_rfl

abbrev laidS : List (String × DataW Unit) := [("math/bits.deBruijn32tab", Rows.laid_math_bits_deBruijn32tab), ("math/bits.deBruijn64tab", Rows.laid_math_bits_deBruijn64tab), ("internal/strconv.uint64pow10", Rows.laid_internal_strconv_uint64pow10), ("jacquard/prim.kindNames", Rows.laid_jacquard_prim_kindNames), ("jacquard/prim.thrownTexts", Rows.laid_jacquard_prim_thrownTexts), ("jacquard/prim.endingTexts", Rows.laid_jacquard_prim_endingTexts), ("jacquard/prim.arities", Rows.laid_jacquard_prim_arities)]
abbrev laidT : List (String × DataW Unit) := [("jacquard/prim.thrownTexts", Rows.laid_jacquard_prim_thrownTexts), ("jacquard/prim.endingTexts", Rows.laid_jacquard_prim_endingTexts)]

/-- The door's own heap meets the condition. -/
theorem door_met (os : Os) (args : Array Value) : laidMetH Tryz.prog laidS ((World.doorLaid Tryz.prog 400 os).forCall (fun _ _ => 0) ⟨#[], args, []⟩).memory :=
  laidMetH_of_parts3 (fuel := 8) (laidMet_of_run' 8 (by kernel_rfl) (by kernel_rfl)) (by kernel_rfl) (by kernel_rfl)
theorem door_metT (os : Os) (args : Array Value) : laidMetH Tryz.prog laidT ((World.doorLaid Tryz.prog 400 os).forCall (fun _ _ => 0) ⟨#[], args, []⟩).memory :=
  laidMetH_of_parts3 (fuel := 8) (laidMet_of_run' 8 (by kernel_rfl) (by kernel_rfl)) (by kernel_rfl) (by kernel_rfl)

theorem gThr : Tryz.prog.globalNamed "jacquard/prim.thrownTexts" = some 0 := by kernel_rfl
theorem tThr : (Tryz.prog.globals[0]?).map (·.type) = some 135 := by kernel_rfl
theorem uThr : Tryz.prog.underlying 135 = some (.array 9 9) := by kernel_rfl
theorem gEnd : Tryz.prog.globalNamed "jacquard/prim.endingTexts" = some 1 := by kernel_rfl
theorem tEnd : (Tryz.prog.globals[1]?).map (·.type) = some 136 := by kernel_rfl
theorem uEnd : Tryz.prog.underlying 136 = some (.array 3 9) := by kernel_rfl
theorem gAri : Tryz.prog.globalNamed "jacquard/prim.arities" = some 2 := by kernel_rfl
theorem tAri : (Tryz.prog.globals[2]?).map (·.type) = some 177 := by kernel_rfl
theorem uAri : Tryz.prog.underlying 177 = some (.array 30 3) := by kernel_rfl
theorem under3 : Tryz.prog.underlying 3 = some (.int .i64) := by kernel_rfl
theorem cells9 : Tryz.prog.cellsOf 9 = 1 := by kernel_rfl
theorem cells3 : Tryz.prog.cellsOf 3 = 1 := by kernel_rfl

theorem thr_datum : (Rows.laid_jacquard_prim_thrownTexts : DataW Unit) = .agg (thr.map fun s => .lit (.string (strOfNums s).data.toList)) := by
  simp [Rows.laid_jacquard_prim_thrownTexts, thr, strOfNums]
theorem edg_datum : (Rows.laid_jacquard_prim_endingTexts : DataW Unit) = .agg (edg.map fun s => .lit (.string (strOfNums s).data.toList)) := by
  simp [Rows.laid_jacquard_prim_endingTexts, edg, strOfNums]
theorem ars_datum : (Rows.laid_jacquard_prim_arities : DataW Unit) = .agg (ars.map fun n => .lit (.int .i64 n)) := by
  rfl

set_option maxRecDepth 100000 in
theorem thr_of {W : World} (h : laidMetH Tryz.prog laidS W) : 0 < W.heap.size ∧ ∀ i s, thr[i]? = some s → W.cell? ⟨0, i, none⟩ = some (.string (strOfNums s)) := by
  rw [MakeChecks.laidMetH_plain _ _ _ (by kernel_rfl)] at h
  obtain ⟨ps, ⟨g, t, c, f, p, q, _, _, _, _, r0, _⟩, _⟩ := h
  obtain ⟨g, t, c, f, p, q, _, _, _, _, r1, _⟩ := r0
  obtain ⟨g, t, c, f, p, q, _, _, _, _, r2, _⟩ := r1
  obtain ⟨g, t, c, f, p, q, _, _, _, _, r3, _⟩ := r2
  obtain ⟨g0, t0, cs0, f0, p0, q0, hg0, ht0, hv0, hd0, _, _⟩ := r3
  obtain rfl := Option.some.inj (gThr.symm.trans hg0)
  obtain rfl := Option.some.inj (tThr.symm.trans ht0)
  obtain ⟨xs, m1, rfl, hx1, hlen, hn, hel⟩ := DataW.trod_array uThr hd0
  rw [cells9] at hel
  simp only [Prod.mk.injEq] at hx1
  rw [thr_datum] at hx1
  have hxs : (thr.map fun s => (DataW.lit (.string (strOfNums s).data.toList) : DataW Unit)) = xs.map (·.1) := by simpa using hx1.1
  have key : ∀ i s, thr[i]? = some s → W.cell? ⟨0, i, none⟩ = some (.string (strOfNums s)) := by
    intro i s hs
    have hi : i < 9 := (List.getElem?_eq_some_iff.1 hs).1
    have h1 := hel i hi
    have hxi : i < xs.length := by omega
    rw [List.getElem?_eq_getElem hxi] at h1
    obtain ⟨z, e1, e2, _⟩ := DataW.trod_string under9 h1
    have h2 : (thr.map fun s => (DataW.lit (.string (strOfNums s).data.toList) : DataW Unit))[i]? = (xs.map (·.1))[i]? := by rw [hxs]
    rw [List.getElem?_map, hs, List.getElem?_map, List.getElem?_eq_getElem hxi, e2] at h2
    simp only [Option.map_some, Option.some.injEq, DataW.lit.injEq, Lit.string.injEq] at h2
    have hz : z = strOfNums s := by
      cases z
      simp only [strOfNums] at h2 ⊢
      congr 1
      exact Array.toList_inj.1 h2.symm
    rw [World.var?_cell hg0 hv0 i, ← hz]
    have e3 := congrArg (·[0]?) e1
    simpa [List.getElem?_take, List.getElem?_drop] using e3
  exact ⟨World.block_lt_of_cell? W _ (key 0 _ rfl), key⟩

set_option maxRecDepth 100000 in
theorem edg_of {W : World} (h : laidMetH Tryz.prog laidS W) : 1 < W.heap.size ∧ ∀ i s, edg[i]? = some s → W.cell? ⟨1, i, none⟩ = some (.string (strOfNums s)) := by
  rw [MakeChecks.laidMetH_plain _ _ _ (by kernel_rfl)] at h
  obtain ⟨ps, ⟨g, t, c, f, p, q, _, _, _, _, r0, _⟩, _⟩ := h
  obtain ⟨g, t, c, f, p, q, _, _, _, _, r1, _⟩ := r0
  obtain ⟨g, t, c, f, p, q, _, _, _, _, r2, _⟩ := r1
  obtain ⟨g, t, c, f, p, q, _, _, _, _, r3, _⟩ := r2
  obtain ⟨g, t, c, f, p, q, _, _, _, _, r4, _⟩ := r3
  obtain ⟨g0, t0, cs0, f0, p0, q0, hg0, ht0, hv0, hd0, _, _⟩ := r4
  obtain rfl := Option.some.inj (gEnd.symm.trans hg0)
  obtain rfl := Option.some.inj (tEnd.symm.trans ht0)
  obtain ⟨xs, m1, rfl, hx1, hlen, hn, hel⟩ := DataW.trod_array uEnd hd0
  rw [cells9] at hel
  simp only [Prod.mk.injEq] at hx1
  rw [edg_datum] at hx1
  have hxs : (edg.map fun s => (DataW.lit (.string (strOfNums s).data.toList) : DataW Unit)) = xs.map (·.1) := by simpa using hx1.1
  have key : ∀ i s, edg[i]? = some s → W.cell? ⟨1, i, none⟩ = some (.string (strOfNums s)) := by
    intro i s hs
    have hi : i < 3 := (List.getElem?_eq_some_iff.1 hs).1
    have h1 := hel i hi
    have hxi : i < xs.length := by omega
    rw [List.getElem?_eq_getElem hxi] at h1
    obtain ⟨z, e1, e2, _⟩ := DataW.trod_string under9 h1
    have h2 : (edg.map fun s => (DataW.lit (.string (strOfNums s).data.toList) : DataW Unit))[i]? = (xs.map (·.1))[i]? := by rw [hxs]
    rw [List.getElem?_map, hs, List.getElem?_map, List.getElem?_eq_getElem hxi, e2] at h2
    simp only [Option.map_some, Option.some.injEq, DataW.lit.injEq, Lit.string.injEq] at h2
    have hz : z = strOfNums s := by
      cases z
      simp only [strOfNums] at h2 ⊢
      congr 1
      exact Array.toList_inj.1 h2.symm
    rw [World.var?_cell hg0 hv0 i, ← hz]
    have e3 := congrArg (·[0]?) e1
    simpa [List.getElem?_take, List.getElem?_drop] using e3
  exact ⟨World.block_lt_of_cell? W _ (key 0 _ rfl), key⟩

set_option maxRecDepth 100000 in
theorem ar_of_laid {W : World} (h : laidMetH Tryz.prog laidS W) : Ar W := by
  rw [MakeChecks.laidMetH_plain _ _ _ (by kernel_rfl)] at h
  obtain ⟨ps, ⟨g, t, c, f, p, q, _, _, _, _, r0, _⟩, _⟩ := h
  obtain ⟨g, t, c, f, p, q, _, _, _, _, r1, _⟩ := r0
  obtain ⟨g, t, c, f, p, q, _, _, _, _, r2, _⟩ := r1
  obtain ⟨g, t, c, f, p, q, _, _, _, _, r3, _⟩ := r2
  obtain ⟨g, t, c, f, p, q, _, _, _, _, r4, _⟩ := r3
  obtain ⟨g, t, c, f, p, q, _, _, _, _, r5, _⟩ := r4
  obtain ⟨g0, t0, cs0, f0, p0, q0, hg0, ht0, hv0, hd0, _, _⟩ := r5
  obtain rfl := Option.some.inj (gAri.symm.trans hg0)
  obtain rfl := Option.some.inj (tAri.symm.trans ht0)
  obtain ⟨xs, m1, rfl, hx1, hlen, hn, hel⟩ := DataW.trod_array uAri hd0
  rw [cells3] at hel
  simp only [Prod.mk.injEq] at hx1
  rw [ars_datum] at hx1
  have hxs : (ars.map fun n => (DataW.lit (.int .i64 n) : DataW Unit)) = xs.map (·.1) := by simpa using hx1.1
  have key : ∀ i n, ars[i]? = some n → W.cell? ⟨2, i, none⟩ = some (.int .i64 n) := by
    intro i s hs
    have hi : i < 30 := (List.getElem?_eq_some_iff.1 hs).1
    have h1 := hel i hi
    have hxi : i < xs.length := by omega
    rw [List.getElem?_eq_getElem hxi] at h1
    obtain ⟨z, e1, e2, _⟩ := DataW.trod_int under3 h1
    have h2 : (ars.map fun n => (DataW.lit (.int .i64 n) : DataW Unit))[i]? = (xs.map (·.1))[i]? := by rw [hxs]
    rw [List.getElem?_map, hs, List.getElem?_map, List.getElem?_eq_getElem hxi, e2] at h2
    simp only [Option.map_some, Option.some.injEq, DataW.lit.injEq, Lit.int.injEq, true_and] at h2
    subst h2
    rw [World.var?_cell hg0 hv0 i]
    have e3 := congrArg (·[0]?) e1
    simpa [List.getElem?_take, List.getElem?_drop] using e3
  exact ⟨World.block_lt_of_cell? W _ (key 0 _ rfl), key⟩

set_option maxRecDepth 100000 in
theorem thr_ofT {W : World} (h : laidMetH Tryz.prog laidT W) : 0 < W.heap.size ∧ ∀ i s, thr[i]? = some s → W.cell? ⟨0, i, none⟩ = some (.string (strOfNums s)) := by
  rw [MakeChecks.laidMetH_plain _ _ _ (by kernel_rfl)] at h
  obtain ⟨ps, ⟨g0, t0, cs0, f0, p0, q0, hg0, ht0, hv0, hd0, _, _⟩, _⟩ := h
  obtain rfl := Option.some.inj (gThr.symm.trans hg0)
  obtain rfl := Option.some.inj (tThr.symm.trans ht0)
  obtain ⟨xs, m1, rfl, hx1, hlen, hn, hel⟩ := DataW.trod_array uThr hd0
  rw [cells9] at hel
  simp only [Prod.mk.injEq] at hx1
  rw [thr_datum] at hx1
  have hxs : (thr.map fun s => (DataW.lit (.string (strOfNums s).data.toList) : DataW Unit)) = xs.map (·.1) := by simpa using hx1.1
  have key : ∀ i s, thr[i]? = some s → W.cell? ⟨0, i, none⟩ = some (.string (strOfNums s)) := by
    intro i s hs
    have hi : i < 9 := (List.getElem?_eq_some_iff.1 hs).1
    have h1 := hel i hi
    have hxi : i < xs.length := by omega
    rw [List.getElem?_eq_getElem hxi] at h1
    obtain ⟨z, e1, e2, _⟩ := DataW.trod_string under9 h1
    have h2 : (thr.map fun s => (DataW.lit (.string (strOfNums s).data.toList) : DataW Unit))[i]? = (xs.map (·.1))[i]? := by rw [hxs]
    rw [List.getElem?_map, hs, List.getElem?_map, List.getElem?_eq_getElem hxi, e2] at h2
    simp only [Option.map_some, Option.some.injEq, DataW.lit.injEq, Lit.string.injEq] at h2
    have hz : z = strOfNums s := by
      cases z
      simp only [strOfNums] at h2 ⊢
      congr 1
      exact Array.toList_inj.1 h2.symm
    rw [World.var?_cell hg0 hv0 i, ← hz]
    have e3 := congrArg (·[0]?) e1
    simpa [List.getElem?_take, List.getElem?_drop] using e3
  exact ⟨World.block_lt_of_cell? W _ (key 0 _ rfl), key⟩

set_option maxRecDepth 100000 in
theorem edg_ofT {W : World} (h : laidMetH Tryz.prog laidT W) : 1 < W.heap.size ∧ ∀ i s, edg[i]? = some s → W.cell? ⟨1, i, none⟩ = some (.string (strOfNums s)) := by
  rw [MakeChecks.laidMetH_plain _ _ _ (by kernel_rfl)] at h
  obtain ⟨ps, ⟨g, t, c, f, p, q, _, _, _, _, r0, _⟩, _⟩ := h
  obtain ⟨g0, t0, cs0, f0, p0, q0, hg0, ht0, hv0, hd0, _, _⟩ := r0
  obtain rfl := Option.some.inj (gEnd.symm.trans hg0)
  obtain rfl := Option.some.inj (tEnd.symm.trans ht0)
  obtain ⟨xs, m1, rfl, hx1, hlen, hn, hel⟩ := DataW.trod_array uEnd hd0
  rw [cells9] at hel
  simp only [Prod.mk.injEq] at hx1
  rw [edg_datum] at hx1
  have hxs : (edg.map fun s => (DataW.lit (.string (strOfNums s).data.toList) : DataW Unit)) = xs.map (·.1) := by simpa using hx1.1
  have key : ∀ i s, edg[i]? = some s → W.cell? ⟨1, i, none⟩ = some (.string (strOfNums s)) := by
    intro i s hs
    have hi : i < 3 := (List.getElem?_eq_some_iff.1 hs).1
    have h1 := hel i hi
    have hxi : i < xs.length := by omega
    rw [List.getElem?_eq_getElem hxi] at h1
    obtain ⟨z, e1, e2, _⟩ := DataW.trod_string under9 h1
    have h2 : (edg.map fun s => (DataW.lit (.string (strOfNums s).data.toList) : DataW Unit))[i]? = (xs.map (·.1))[i]? := by rw [hxs]
    rw [List.getElem?_map, hs, List.getElem?_map, List.getElem?_eq_getElem hxi, e2] at h2
    simp only [Option.map_some, Option.some.injEq, DataW.lit.injEq, Lit.string.injEq] at h2
    have hz : z = strOfNums s := by
      cases z
      simp only [strOfNums] at h2 ⊢
      congr 1
      exact Array.toList_inj.1 h2.symm
    rw [World.var?_cell hg0 hv0 i, ← hz]
    have e3 := congrArg (·[0]?) e1
    simpa [List.getElem?_take, List.getElem?_drop] using e3
  exact ⟨World.block_lt_of_cell? W _ (key 0 _ rfl), key⟩

theorem tf_of_laid {W : World} (h : laidMetH Tryz.prog laidS W) : Tf W := ⟨⟨(thr_of h).1, (edg_of h).1⟩, (thr_of h).2, (edg_of h).2⟩
theorem tf_of_laidT {W : World} (h : laidMetH Tryz.prog laidT W) : Tf W := ⟨⟨(thr_ofT h).1, (edg_ofT h).1⟩, (thr_ofT h).2, (edg_ofT h).2⟩

theorem cells_one {w : World} {a : Addr} {v : Value} (h : w.cells? 0 a 1 = some [v]) : w.cell? a = some v := by
  unfold World.cells? at h
  rw [if_pos (Nat.zero_le _), show List.range 1 = [0] from rfl] at h
  have ea : a.add 0 = a := by simp [Addr.add]
  cases h0 : w.cell? (a.add 0) with
  | none => simp [h0] at h
  | some u =>
    simp [h0] at h
    rw [ea, h] at h0
    exact h0

theorem list_of {α : Type} (q : Nat → α → Prop) : ∀ (n : Nat), (∀ i, i < n → ∃ a, q i a) → ∃ l : List α, l.length = n ∧ ∀ i (hi : i < l.length), q i l[i]
  | 0, _ => ⟨[], rfl, fun i hi => by simp at hi⟩
  | n + 1, h => by
    obtain ⟨l, hl, hq⟩ := list_of q n (fun i hi => h i (by omega))
    obtain ⟨a, ha⟩ := h n (by omega)
    refine ⟨l ++ [a], by simp [hl], fun i hi => ?_⟩
    by_cases hi2 : i < l.length
    · rw [List.getElem_append_left hi2]; exact hq i hi2
    · have : i = l.length := by simp at hi; omega
      subst this
      rw [List.getElem_append_right (Nat.le_refl _)]
      simpa [hl] using ha

theorem trod_list {α H : Type} {enc : TypeId × Value → H} {w : World} {T E : TypeId} {fuel : Nat} {cs : List Value} {x : DataW H × List MemPlace} (mk : α → Value) (ok : α → Prop)
    (ht : Tryz.prog.underlying T = some (.slice E)) (hc : Tryz.prog.cellsOf E = 1)
    (hel : ∀ n cs x, DataW.trod enc Tryz.prog w 0 (fun _ => true) true n E cs = some x → ∃ a, cs = [mk a] ∧ ok a)
    (h : DataW.trod enc Tryz.prog w 0 (fun _ => true) true fuel T cs = some x) :
    ∃ (v : Value) (l : List α), cs = [v] ∧ Sl w (fun _ => True) v l.length 1 (l.map mk) ∧ (∀ a ∈ l, ok a) ∧ l.length ≤ maxLen := by
  rcases DataW.trod_slice ht h with ⟨rfl, _⟩ | ⟨ad, len, cap, elems, rest, n, _, rfl, _, _, hl, hm, hlen, he, _, _⟩
  · exact ⟨_, [], rfl, Sl.nil _ _ 1, fun a ha => by simp at ha, Nat.zero_le _⟩
  · rw [hc] at he
    have key : ∀ i, i < len → ∃ a, w.cell? (ad.add (i * 1)) = some (mk a) ∧ ok a := by
      intro i hi
      have h1 := he i hi
      obtain ⟨y, hy⟩ : ∃ y, elems[i]? = some y := ⟨_, List.getElem?_eq_getElem (by omega)⟩
      rw [hy, Option.bind_eq_some_iff] at h1
      obtain ⟨cs', hcs, htr⟩ := h1
      obtain ⟨a, rfl, hok⟩ := hel _ _ _ htr
      exact ⟨a, cells_one hcs, hok⟩
    obtain ⟨l, hll, hq⟩ := list_of _ len key
    refine ⟨_, l, rfl, ⟨by simp, some ad, cap, by rw [hll], ⟨by omega, fun h => by cases h⟩, ?_⟩, fun a ha => ?_, by omega⟩
    · by_cases h0 : len = 0
      · exact .inl (by omega)
      · have hc0 := (hq 0 (by omega)).1
        obtain ⟨b, off, spot⟩ := ad
        have hspot : spot = none := by simpa [Addr.add] using World.cell?_spot hc0
        subst hspot
        have hlt : b < w.heap.size := by simpa [Addr.add] using World.block_lt_of_cell? w _ hc0
        refine .inr ⟨b, off, rfl, hlt, trivial, fun i hi => ?_⟩
        have hil : i < l.length := by omega
        have := (hq i hil).1
        have e1 : (⟨b, off, none⟩ : Addr).add (i * 1) = ⟨b, off + i, none⟩ := by
          rw [Nat.mul_one]
          unfold Addr.add
          split
          · rename_i h0; subst h0; rfl
          · rfl
        rw [e1] at this
        rw [this]; simp [hil]
    · obtain ⟨i, hi, rfl⟩ := List.getElem_of_mem ha
      exact (hq i hi).2

theorem cells5 : Tryz.prog.cellsOf 5 = 1 := by kernel_rfl

set_option maxRecDepth 100000 in
theorem open_bytes {H : Type} {enc : TypeId × Value → H} {W : World} {base : Nat} {v : Value} {d : DataW H} {ps : List MemPlace}
    (hval : Value.okWide Tryz.prog W .any base 52 v) (h : DataW.Trod enc Tryz.prog W 0 (fun _ => true) true 52 v d ps) :
    ∃ l : List Int, By W v l := by
  obtain ⟨a, len, cap, rfl⟩ := okWide_slice under22 hval
  obtain ⟨fuel, hf⟩ := h
  obtain ⟨v, l, e, h1, h2, h3⟩ := trod_list (Value.int .u8) (fun c => 0 ≤ c ∧ c ≤ 255) under22 cells5 (fun n cs x h => by
    obtain ⟨a, rfl, _, wa⟩ := DataW.trod_int under5 h
    have := bounds_u8 wa
    exact ⟨a, rfl, by omega⟩) hf
  simp [Value.cells] at e
  subst e
  exact ⟨l, h1, h2, by unfold maxLen at h3; omega⟩

set_option maxRecDepth 100000 in
theorem open_text {H : Type} {enc : TypeId × Value → H} {W : World} {base : Nat} {v : Value} {d : DataW H} {ps : List MemPlace}
    (hval : Value.okWide Tryz.prog W .any base 9 v) (h : DataW.Trod enc Tryz.prog W 0 (fun _ => true) true 9 v d ps) :
    ∃ l : List Int, v = .string (strOfNums l) ∧ (∀ c ∈ l, 0 ≤ c ∧ c ≤ 255) ∧ l.length ≤ maxLen := by
  obtain ⟨s, rfl, _, _, hm⟩ := Go.ChangeMaps.open_string under9 hval h
  refine ⟨s.data.toList.map fun u => (u.toNat : Int), ?_, ?_, by rw [List.length_map, Array.length_toList]; exact hm⟩
  · congr 1
    cases s
    simp [strOfNums, List.map_map, Function.comp_def]
  · intro c hc
    obtain ⟨u, _, rfl⟩ := List.mem_map.1 hc
    have := u.toNat_lt
    omega

theorem cellsV : Tryz.prog.cellsOf 27 = 1 := by kernel_rfl
theorem underV : Tryz.prog.underlying 27 = some (.int .u64) := by kernel_rfl

theorem trod_vals {H : Type} {enc : TypeId × Value → H} {w : World} {fuel : Nat} {cs : List Value} {x : DataW H × List MemPlace} (h : DataW.trod enc Tryz.prog w 0 (fun _ => true) true fuel 61 cs = some x) :
    ∃ (v : Value) (l : List Int), cs = [v] ∧ Sl w (fun _ => True) v l.length 1 (l.map (Value.int .u64)) ∧ (∀ a ∈ l, U a) ∧ l.length ≤ maxLen :=
  trod_list (Value.int .u64) U Tryz.underlying61 cellsV (fun n cs x h => by
    obtain ⟨a, rfl, _, wa⟩ := DataW.trod_int underV h
    have := bounds_u64 wa
    exact ⟨a, rfl, by unfold U; omega⟩) h

set_option maxRecDepth 100000 in
theorem open_vals {H : Type} {enc : TypeId × Value → H} {W : World} {base : Nat} {v : Value} {d : DataW H} {ps : List MemPlace}
    (hval : Value.okWide Tryz.prog W .any base 61 v) (h : DataW.Trod enc Tryz.prog W 0 (fun _ => true) true 61 v d ps) :
    ∃ l : List Int, Sl W (fun _ => True) v l.length 1 (l.map (Value.int .u64)) ∧ (∀ a ∈ l, U a) ∧ l.length ≤ maxLen := by
  obtain ⟨a, len, cap, rfl⟩ := okWide_slice Tryz.underlying61 hval
  obtain ⟨fuel, hf⟩ := h
  obtain ⟨v, l, e, h1, h2, h3⟩ := trod_vals hf
  simp [Value.cells] at e
  subst e
  exact ⟨l, h1, h2, h3⟩

theorem cellsSt : Tryz.prog.cellsOf 9 = 1 := by kernel_rfl

set_option maxRecDepth 100000 in
theorem open_strs {H : Type} {enc : TypeId × Value → H} {W : World} {base : Nat} {v : Value} {d : DataW H} {ps : List MemPlace}
    (hval : Value.okWide Tryz.prog W .any base 67 v) (h : DataW.Trod enc Tryz.prog W 0 (fun _ => true) true 67 v d ps) :
    ∃ l : List ByteArray, Sl W (fun _ => True) v l.length 1 (l.map Value.string) ∧ l.length ≤ maxLen := by
  obtain ⟨a, len, cap, rfl⟩ := okWide_slice Tryz.underlying67 hval
  obtain ⟨fuel, hf⟩ := h
  obtain ⟨v, l, e, h1, h2, h3⟩ := trod_list Value.string (fun _ => True) Tryz.underlying67 cellsSt (fun n cs x h => by
    obtain ⟨a, rfl, _⟩ := DataW.trod_string under9 h
    exact ⟨a, rfl, trivial⟩) hf
  simp [Value.cells] at e
  subst e
  exact ⟨l, h1, h3⟩

end Go.Proofs.YtajnpdiepiinjaaGreatDoor
