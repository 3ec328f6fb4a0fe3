/- How the statements' frames are opened: what the walks themselves do not want. -/
import Derived.Test.YtdhkcdehedbpcaaDoorAll
import Derived.ProofKit
import Derived.LaidMore
import Derived.OpenShut
import Derived.ShutString
import Derived.ChangeOld
import Derived.Below
import Derived.SevenTiedAt
set_option linter.unusedVariables false
set_option linter.unusedSimpArgs false
namespace Go.Proofs.YtdhkcdehedbpcaaDoor
open Go.ChangeShapes Go.WideShapes Go.ChangeAt Go.RowKit

set_option maxRecDepth 100000 in
theorem ownK : ownKnob Tryd.prog.godebug = none := by kernel_rfl

set_option maxRecDepth 100000 in
theorem laidOut : laidOutB Tryd.prog = true := by kernel_rfl

set_option maxRecDepth 100000 in
theorem gSigns : Tryd.prog.globalNamed "jacquard/scope.primitives" = some 0 := by kernel_rfl

set_option maxRecDepth 100000 in
theorem tSigns : (Tryd.prog.globals[0]?).map (·.type) = some 97 := by kernel_rfl

set_option maxRecDepth 100000 in
theorem cells9 : Tryd.prog.cellsOf 9 = 1 := by kernel_rfl

set_option maxRecDepth 100000 in
/-- The door's own heap meets the condition. -/
theorem door_met (os : Os) (args : Array Value) : laidMetH Tryd.prog laidS ((World.doorLaid Tryd.prog 400 os).forCall (fun _ _ => 0) ⟨#[], args, []⟩).memory :=
  laidMetH_of_parts3 (fuel := 8) (laidMet_of_run' 8 (by kernel_rfl) (by kernel_rfl)) (by kernel_rfl) (by kernel_rfl)

set_option maxRecDepth 100000 in
/-- The bytes of the signs, as the table's datum has them. -/
theorem sgs_datum : (Rows.laid_jacquard_scope_primitives : DataW Unit) = .agg (prs.map fun s => .lit (.string s.data.toList)) := by
  simp [Rows.laid_jacquard_scope_primitives, prs]

set_option maxRecDepth 100000 in
/-- What the condition gives: the primitives. -/
theorem pr_of_laid {W : World} (h : laidMetH Tryd.prog laidS W) : PrM W := by
  rw [MakeChecks.laidMetH_plain _ _ _ (by kernel_rfl)] at h
  obtain ⟨ps, ⟨g1, t1, cs1, f1, p1, q1, hg1, ht1, hv1, hd1, ⟨g0, t0, cs0, f0, p0, q0, hg0, ht0, hv0, hd0, _, _⟩, _⟩, _⟩ := h
  obtain rfl := Option.some.inj (gSigns.symm.trans hg0)
  obtain rfl := Option.some.inj (tSigns.symm.trans ht0)
  obtain ⟨xs, m1, rfl, hx1, hlen, hn, hel⟩ := DataW.trod_array Tryd.underlying97 hd0
  rw [cells9] at hel
  simp only [Prod.mk.injEq] at hx1
  rw [sgs_datum] at hx1
  have hxs : (prs.map fun s => (DataW.lit (.string s.data.toList) : DataW Unit)) = xs.map (·.1) := by simpa using hx1.1
  have key : ∀ i s, prs[i]? = some s → W.cell? ⟨0, i, none⟩ = some (.string s) := by
    intro i s hs
    have hi : i < 30 := (List.getElem?_eq_some_iff.1 hs).1
    have h1 := hel i hi
    have hxi : i < xs.length := by omega
    rw [List.getElem?_eq_getElem hxi] at h1
    obtain ⟨z, e1, e2, _⟩ := DataW.trod_string Tryd.underlying9 h1
    have h2 : (prs.map fun s => (DataW.lit (.string s.data.toList) : DataW Unit))[i]? = (xs.map (·.1))[i]? := by rw [hxs]
    rw [List.getElem?_map, hs, List.getElem?_map, List.getElem?_eq_getElem hxi, e2] at h2
    simp only [Option.map_some, Option.some.injEq, DataW.lit.injEq, Lit.string.injEq] at h2
    have hz : z = s := by
      cases z
      cases s
      congr 1
      exact Array.toList_inj.1 h2.symm
    rw [World.var?_cell hg0 hv0 i, ← hz]
    have e3 := congrArg (·[0]?) e1
    simpa [List.getElem?_take, List.getElem?_drop] using e3
  have h0 := key 0 ⟨#[112, 114, 105, 110, 116]⟩ rfl
  exact ⟨World.block_lt_of_cell? W _ h0, key⟩

theorem cells3 : Tryd.prog.cellsOf 3 = 1 := by kernel_rfl

theorem under3' : Tryd.prog.underlying 3 = some (.int .i64) := by kernel_rfl

set_option maxRecDepth 100000 in
theorem gShapes : Tryd.prog.globalNamed "jacquard/parse.shapes" = some 1 := by kernel_rfl

set_option maxRecDepth 100000 in
theorem tShapes : (Tryd.prog.globals[1]?).map (·.type) = some 132 := by kernel_rfl

set_option maxRecDepth 100000 in
theorem cellsShp : Tryd.prog.cellsOf 131 = 4 := by kernel_rfl

set_option maxRecDepth 100000 in
theorem shp_datum : (Rows.laid_jacquard_parse_shapes : DataW Unit) = .agg (shpT.map fun r => .agg [.lit (.int .i64 r.1), .lit (.int .i64 r.2.1), .lit (.int .i64 r.2.2.1), .lit (.int .i64 r.2.2.2)]) := by
  simp [Rows.laid_jacquard_parse_shapes, shpT]

set_option maxRecDepth 100000 in
theorem sh_of_laid {W : World} (h : laidMetH Tryd.prog laidS W) : Sh W := by
  rw [MakeChecks.laidMetH_plain _ _ _ (by kernel_rfl)] at h
  obtain ⟨ps, ⟨g1, t1, cs1, f1, p1, q1, hg1, ht1, hv1, hd1, _, _⟩, _⟩ := h
  obtain rfl := Option.some.inj (gShapes.symm.trans hg1)
  obtain rfl := Option.some.inj (tShapes.symm.trans ht1)
  obtain ⟨xs, m1, rfl, hx1, hlen, hn, hel⟩ := DataW.trod_array Tryd.underlying132 hd1
  rw [cellsShp] at hel
  simp only [Prod.mk.injEq] at hx1
  rw [shp_datum] at hx1
  have hxs : (shpT.map fun r => (DataW.agg [.lit (.int .i64 r.1), .lit (.int .i64 r.2.1), .lit (.int .i64 r.2.2.1), .lit (.int .i64 r.2.2.2)] : DataW Unit)) = xs.map (·.1) := by simpa using hx1.1
  have key : ∀ k : Nat, k < 33 → ∃ c0 c1 c2 c3 : Int, (c0, c1, c2, c3) = shpA k ∧ W.cell? ⟨1, k * 4, none⟩ = some (.int .i64 c0) ∧ W.cell? ⟨1, k * 4 + 1, none⟩ = some (.int .i64 c1) ∧ W.cell? ⟨1, k * 4 + 2, none⟩ = some (.int .i64 c2) ∧ W.cell? ⟨1, k * 4 + 3, none⟩ = some (.int .i64 c3) := by
    intro k hk
    have h1 := hel k hk
    have hxi : k < xs.length := by omega
    rw [List.getElem?_eq_getElem hxi] at h1
    obtain ⟨ys, n, _, hy, hl, hlen2, hf⟩ := DataW.trod_struct Tryd.underlying131 h1
    have hl4 : ys.length = 4 := hlen2
    match ys, hl4 with
    | [y0, y1, y2, y3], _ =>
    obtain ⟨a0, e0, d0, _⟩ := DataW.trod_int under3' (hf 0 _ rfl)
    obtain ⟨a1, e1, d1, _⟩ := DataW.trod_int under3' (hf 1 _ rfl)
    obtain ⟨a2, e2, d2, _⟩ := DataW.trod_int under3' (hf 2 _ rfl)
    obtain ⟨a3, e3, d3, _⟩ := DataW.trod_int under3' (hf 3 _ rfl)
    have hsk : shpT[k]? = some (shpA k) := by
      unfold shpA
      rw [show ((k : Nat) : Int).toNat = k from rfl, List.getD_eq_getElem?_getD, List.getElem?_eq_getElem (show k < shpT.length from hk)]
      rfl
    have h2 : (shpT.map fun r => (DataW.agg [.lit (.int .i64 r.1), .lit (.int .i64 r.2.1), .lit (.int .i64 r.2.2.1), .lit (.int .i64 r.2.2.2)] : DataW Unit))[k]? = (xs.map (·.1))[k]? := by rw [hxs]
    rw [List.getElem?_map, hsk, List.getElem?_map, List.getElem?_eq_getElem hxi, hy] at h2
    rw [d0, d1, d2, d3] at h2
    simp only [Option.map_some, Option.some.injEq, List.map_cons, List.map_nil, DataW.agg.injEq, List.cons.injEq, DataW.lit.injEq, Lit.int.injEq, true_and, and_true] at h2
    obtain ⟨r0, r1, r2, r3⟩ := h2
    replace e0 : List.take 1 (List.drop 0 (List.take 4 (List.drop (k * 4) cs1.toList))) = [Value.int .i64 a0] := by
      have q : List.take (Tryd.prog.cellsOf 3) (List.drop 0 (List.take 4 (List.drop (k * 4) cs1.toList))) = [Value.int .i64 a0] := e0
      rw [cells3] at q
      exact q
    replace e1 : List.take 1 (List.drop 1 (List.take 4 (List.drop (k * 4) cs1.toList))) = [Value.int .i64 a1] := by
      have q : List.take (Tryd.prog.cellsOf 3) (List.drop 1 (List.take 4 (List.drop (k * 4) cs1.toList))) = [Value.int .i64 a1] := e1
      rw [cells3] at q
      exact q
    replace e2 : List.take 1 (List.drop 2 (List.take 4 (List.drop (k * 4) cs1.toList))) = [Value.int .i64 a2] := by
      have q : List.take (Tryd.prog.cellsOf 3) (List.drop 2 (List.take 4 (List.drop (k * 4) cs1.toList))) = [Value.int .i64 a2] := e2
      rw [cells3] at q
      exact q
    replace e3 : List.take 1 (List.drop 3 (List.take 4 (List.drop (k * 4) cs1.toList))) = [Value.int .i64 a3] := by
      have q : List.take (Tryd.prog.cellsOf 3) (List.drop 3 (List.take 4 (List.drop (k * 4) cs1.toList))) = [Value.int .i64 a3] := e3
      rw [cells3] at q
      exact q
    have f0 := congrArg (·[0]?) e0
    have f1 := congrArg (·[0]?) e1
    have f2 := congrArg (·[0]?) e2
    have f3 := congrArg (·[0]?) e3
    refine ⟨a0, a1, a2, a3, ?_, ?_, ?_, ?_, ?_⟩
    · rw [← r0, ← r1, ← r2, ← r3]
    · rw [World.var?_cell hg1 hv1]; simpa [List.getElem?_take, List.getElem?_drop] using f0
    · rw [World.var?_cell hg1 hv1]; simpa [List.getElem?_take, List.getElem?_drop] using f1
    · rw [World.var?_cell hg1 hv1]; simpa [List.getElem?_take, List.getElem?_drop] using f2
    · rw [World.var?_cell hg1 hv1]; simpa [List.getElem?_take, List.getElem?_drop] using f3
  obtain ⟨z0, z1, z2, z3, _, hz, _⟩ := key 0 (by decide)
  refine ⟨World.block_lt_of_cell? W _ hz, fun k hk => ?_, fun k hk => ?_, fun k hk => ?_, fun k hk => ?_⟩
  · obtain ⟨c0, c1, c2, c3, e, h0, h1, h2, h3⟩ := key k hk
    rw [← e]; exact h0
  · obtain ⟨c0, c1, c2, c3, e, h0, h1, h2, h3⟩ := key k hk
    rw [← e]; exact h1
  · obtain ⟨c0, c1, c2, c3, e, h0, h1, h2, h3⟩ := key k hk
    rw [← e]; exact h2
  · obtain ⟨c0, c1, c2, c3, e, h0, h1, h2, h3⟩ := key k hk
    rw [← e]; exact h3

set_option maxRecDepth 100000 in
theorem cells_one {w : World} {a : Addr} {v : Value} (h : w.cells? 0 a 1 = some [v]) : w.cell? a = some v := by
  unfold World.cells? at h
  rw [if_pos (Nat.zero_le _), show List.range 1 = [0] from rfl] at h
  have ea : a.add 0 = a := by simp [Addr.add]
  cases h0 : w.cell? (a.add 0) with
  | none => simp [h0] at h
  | some u =>
    simp [h0] at h
    rw [ea, h] at h0
    exact h0

set_option maxRecDepth 100000 in
theorem list_of {α : Type} (q : Nat → α → Prop) : ∀ (n : Nat), (∀ i, i < n → ∃ a, q i a) → ∃ l : List α, l.length = n ∧ ∀ i (hi : i < l.length), q i l[i]
  | 0, _ => ⟨[], rfl, fun i hi => by simp at hi⟩
  | n + 1, h => by
    obtain ⟨l, hl, hq⟩ := list_of q n (fun i hi => h i (by omega))
    obtain ⟨a, ha⟩ := h n (by omega)
    refine ⟨l ++ [a], by simp [hl], fun i hi => ?_⟩
    by_cases hi2 : i < l.length
    · rw [List.getElem_append_left hi2]; exact hq i hi2
    · have : i = l.length := by simp at hi; omega
      subst this
      rw [List.getElem_append_right (Nat.le_refl _)]
      simpa [hl] using ha

set_option maxRecDepth 100000 in
theorem cellsN : Tryd.prog.cellsOf 43 = 5 := by kernel_rfl

/-- A list of structs of 'size' cells each. -/
theorem trod_rows {α H : Type} {enc : TypeId × Value → H} {w : World} {T E : TypeId} {fuel size : Nat} {cs : List Value} {x : DataW H × List MemPlace} (mk : α → List Value) (ok : α → Prop) (hpos : 0 < size)
    (ht : Tryd.prog.underlying T = some (.slice E)) (hc : Tryd.prog.cellsOf E = size) (hmk : ∀ a, (mk a).length = size)
    (hel : ∀ n cs x, DataW.trod enc Tryd.prog w 0 (fun _ => true) true n E cs = some x → ∃ a, cs = mk a ∧ ok a)
    (h : DataW.trod enc Tryd.prog w 0 (fun _ => true) true fuel T cs = some x) :
    ∃ (a : Option Addr) (cap : Nat) (l : List α), cs = [.slice a l.length cap] ∧ l.length ≤ maxLen ∧ ∀ i (hi : i < l.length), ∃ b off, a = some ⟨b, off, none⟩ ∧ b < w.heap.size ∧ (∀ j, j < size → w.cell? ⟨b, off + (i * size + j), none⟩ = (mk l[i])[j]?) ∧ ok l[i] := by
  rcases DataW.trod_slice ht h with ⟨rfl, _⟩ | ⟨ad, len, cap, elems, rest, n, _, rfl, _, _, hl, hm, hlen, he, _, _⟩
  · exact ⟨none, 0, [], rfl, Nat.zero_le _, fun i hi => by simp at hi⟩
  · rw [hc] at he
    have key : ∀ i, i < len → ∃ q : α, (∀ j, j < size → w.cell? ((ad.add (i * size)).add j) = (mk q)[j]?) ∧ ok q := by
      intro i hi
      have h1 := he i hi
      obtain ⟨y, hy⟩ : ∃ y, elems[i]? = some y := ⟨_, List.getElem?_eq_getElem (by omega)⟩
      rw [hy, Option.bind_eq_some_iff] at h1
      obtain ⟨cs', hcs, htr⟩ := h1
      obtain ⟨a, rfl, hok⟩ := hel _ _ _ htr
      exact ⟨a, (World.cells?_some hcs).2.2, hok⟩
    obtain ⟨qs, hql, hq⟩ := list_of _ len key
    refine ⟨some ad, cap, qs, by rw [hql], by omega, fun i hi => ?_⟩
    obtain ⟨hc1, hok⟩ := hq i hi
    have hc0 := (hq 0 (by omega)).1 0 hpos
    obtain ⟨b, off, spot⟩ := ad
    obtain ⟨v0, hv0⟩ : ∃ v0, (mk (qs[0]'(by omega)))[0]? = some v0 := ⟨(mk (qs[0]'(by omega)))[0]'(by rw [hmk]; exact hpos), List.getElem?_eq_getElem _⟩
    have hsome : w.cell? ⟨b, off, spot⟩ = some v0 := by
      rw [hv0] at hc0
      simpa [Addr.add] using hc0
    have hspot : spot = none := World.cell?_spot hsome
    subst hspot
    have hlt : b < w.heap.size := World.block_lt_of_cell? w _ hsome
    have e1 : ∀ k j, ((⟨b, off, none⟩ : Addr).add k).add j = ⟨b, off + (k + j), none⟩ := by
      intro k j
      simp [Addr.add]
      split <;> split <;> simp_all <;> omega
    exact ⟨b, off, rfl, hlt, fun j hj => by rw [← e1, hc1 j hj], hok⟩

set_option maxRecDepth 100000 in
theorem trod_node {H : Type} {enc : TypeId × Value → H} {w : World} {fuel : Nat} {cs : List Value} {y : DataW H × List MemPlace} (h : DataW.trod enc Tryd.prog w 0 (fun _ => true) true fuel 43 cs = some y) :
    ∃ n : ANode, cs = ndV n ∧ NdOk n := by
  obtain ⟨xs, n, _, _, hl, hlen, hf⟩ := DataW.trod_struct Tryd.underlying43 h
  rw [cellsN] at hl
  match cs, hl with
  | [c0, c1, c2, c3, c4], _ =>
  have hl5 : xs.length = 5 := hlen
  match xs, hl5 with
  | [y0, y1, y2, y3, y4], _ =>
  obtain ⟨a0, e0, _, w0⟩ := DataW.trod_int under3' (hf 0 _ rfl)
  obtain ⟨a1, e1, _, w1⟩ := DataW.trod_int under3' (hf 1 _ rfl)
  obtain ⟨s2, e2, _, w2⟩ := DataW.trod_string under9 (hf 2 _ rfl)
  obtain ⟨a3, e3, _, w3⟩ := DataW.trod_int under3' (hf 3 _ rfl)
  obtain ⟨a4, e4, _, w4⟩ := DataW.trod_int under3' (hf 4 _ rfl)
  simp [cells3, cells9] at e0 e1 e2 e3 e4
  subst e0 e1 e2 e3 e4
  have es : strOfNums (s2.data.toList.map fun u => (u.toNat : Int)) = s2 := by
    cases s2
    simp [strOfNums, List.map_map, Function.comp_def]
  refine ⟨(a0, a1, s2.data.toList.map fun u => (u.toNat : Int), a3, a4), by simp only [ndV, es], bounds_i64 w0, bounds_i64 w1, ⟨?_, by rw [List.length_map, Array.length_toList]; exact w2⟩, bounds_i64 w3, bounds_i64 w4⟩
  intro c hc
  obtain ⟨u, _, rfl⟩ := List.mem_map.1 hc
  have := u.toNat_lt
  omega

set_option maxRecDepth 100000 in
theorem open_nodes {H : Type} {enc : TypeId × Value → H} {W : World} {base : Nat} {v : Value} {d : DataW H} {ps : List MemPlace}
    (hval : Value.okWide Tryd.prog W .any base 24 v) (h : DataW.Trod enc Tryd.prog W 0 (fun _ => true) true 24 v d ps) :
    ∃ a cap L, v = .slice a (L : List ANode).length cap ∧ L.length ≤ maxLen ∧ NA W a L := by
  obtain ⟨a, len, cap, rfl⟩ := okWide_slice Tryd.underlying24 hval
  obtain ⟨fuel, hf⟩ := h
  obtain ⟨a, cap, L, e, h1, h2⟩ := trod_rows ndV NdOk (by decide) Tryd.underlying24 cellsN (fun n => rfl) (fun n cs x h => trod_node h) hf
  simp [Value.cells] at e
  obtain ⟨rfl, e2, rfl⟩ := e
  exact ⟨a, cap, L, by rw [e2], h1, h2⟩

end Go.Proofs.YtdhkcdehedbpcaaDoor
