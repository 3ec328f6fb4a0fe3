/- The document's Check; the table of kinds out of the condition; both Checks of any list. · The table of kinds out of the condition. -/
import Derived.Test.YtlcieebneclmpaaDoorC5
import Derived.Test.YtlcieebneclmpaaDoorK13
set_option linter.unusedSimpArgs false
set_option linter.unusedVariables false
namespace Go.Proofs.YtlcieebneclmpaaDoor
open Go.ChangeShapes Go.WideShapes Go.ChangeAt Go.RowKit

set_option maxRecDepth 100000 in
set_option maxHeartbeats 8000000 in
theorem rCheck_any (g o cap : Nat) (L : List ANode) (h0 : 0 < L.length) (hl : L.length ≤ 500) (w : World) (h : NC w g o L) :
    Calls Tryd.prog 11 #[.slice (some ⟨g, o, none⟩) L.length cap] w fun e w' => e = .returned (.tuple #[.int .i64 (ckD L).1, .int .i64 (ckD L).2]) ∧ Bw w w' := by
  have hne : L ≠ [] := by intro e; rw [e] at h0; simp at h0
  have hz : ((L.length : Int) == 0) = false := by rw [beq_eq_false_iff_ne]; omega
  have HC := hid (rcheck_any g o cap L hl (L.length + 1) 0 1 w h (Nat.zero_le _) (by omega) ⟨by decide, by decide⟩)
  have herr := ckR_err (L.length + 1) L 0 1 (by omega)
  have hsuf := ckR_suf (L.length + 1) L 0 1
  have hlen := ckR_len (L.length + 1) L 0 1
  rw [show ckD L = match ckR (L.length + 1) L 0 1 with | .bad p e => ((p : Int), e) | .ok r p => if r = [] then (0, 0) else ((p : Int), 6) from if_neg hne]
  rw [List.drop_zero, show plR 1 = 0 from rfl, show ((0 : Nat) : Int) = 0 from rfl] at HC
  clear h hne
  cases hc : ckR (L.length + 1) L 0 1 with
  | bad p e9 =>
    rw [hc] at HC herr
    have hen : (e9 != 0) = true := by rcases herr with h | h | h <;> subst h <;> rfl
    clear hsuf hlen hc herr
    dsimp only [crV] at HC ⊢
    go_enter Tryd.func11, Tryd.ntmps11
    go_wp2_with (first
      | (go_at_call 23; refine HC.out.mono ?_; rintro e w7 ⟨rfl, hb7⟩; have B7 := hid hb7; clear hb7)
      | fail)
    all_goals go_ret2
    all_goals exact ⟨rfl, B7.out⟩
  | ok r p =>
    rw [hc] at HC hsuf hlen
    obtain ⟨hl1, _⟩ := hlen
    clear hc herr
    dsimp only [crV] at HC ⊢
    by_cases hr : r = []
    · rw [if_pos hr]
      have hp : ¬ (p : Int) < (L.length : Int) := by rw [hr] at hl1; simp at hl1; omega
      clear hsuf hl1 hr
      go_enter Tryd.func11, Tryd.ntmps11
      go_wp2_with (first
        | (go_at_call 23; refine HC.out.mono ?_; rintro e w7 ⟨rfl, hb7⟩; have B7 := hid hb7; clear hb7)
        | fail)
      all_goals go_ret2
      all_goals exact ⟨rfl, B7.out⟩
    · rw [if_neg hr]
      have hp : (p : Int) < (L.length : Int) := by
        have : 0 < r.length := List.length_pos_iff.2 hr
        omega
      clear hsuf hl1 hr
      go_enter Tryd.func11, Tryd.ntmps11
      go_wp2_with (first
        | (go_at_call 23; refine HC.out.mono ?_; rintro e w7 ⟨rfl, hb7⟩; have B7 := hid hb7; clear hb7)
        | fail)
      all_goals go_ret2
      all_goals exact ⟨rfl, B7.out⟩

set_option maxRecDepth 100000 in
set_option maxHeartbeats 4000000 in
theorem check_nil (a : Option Addr) (cap : Nat) (w : World) :
    Calls Tryd.prog 10 #[.slice a 0 cap] w fun e w' => e = .returned (.tuple #[.int .i64 0, .int .i64 6]) ∧ w' = w := by
  go_enter Tryd.func10, Tryd.ntmps10
  go_wp2
  all_goals go_ret2
  all_goals exact ⟨rfl, rfl⟩

set_option maxRecDepth 100000 in
set_option maxHeartbeats 4000000 in
theorem rCheck_nil (a : Option Addr) (cap : Nat) (w : World) :
    Calls Tryd.prog 11 #[.slice a 0 cap] w fun e w' => e = .returned (.tuple #[.int .i64 0, .int .i64 6]) ∧ w' = w := by
  go_enter Tryd.func11, Tryd.ntmps11
  go_wp2
  all_goals go_ret2
  all_goals exact ⟨rfl, rfl⟩

theorem na_nc {w : World} {a : Option Addr} {L : List ANode} (h : NA w a L) (h0 : 0 < L.length) : ∃ g o, a = some ⟨g, o, none⟩ ∧ NC w g o L := by
  obtain ⟨g, off, rfl, hg, _, _⟩ := h 0 h0
  refine ⟨g, off, rfl, hg, fun i hi j hj => ?_, fun i hi => ?_⟩
  · obtain ⟨b, o, e, _, hc, _⟩ := h i hi
    injection e with e
    injection e with e1 e2
    subst e1 e2
    have := hc j hj
    rw [← Nat.add_assoc] at this
    exact this
  · obtain ⟨b, o, e, _, _, hk⟩ := h i hi
    exact ⟨hk.2.1, hk.2.2.1.1, by have := hk.2.2.1.2; unfold maxLen at this; omega⟩

/-- Both, of any list. -/
theorem checks_any {w : World} {a : Option Addr} {L : List ANode} (h : NA w a L) (hl : L.length ≤ 500) (hh : Sh w) (cap : Nat) :
    ∃ x y : Int, Calls Tryd.prog 10 #[.slice a L.length cap] w (fun e w' => e = .returned (.tuple #[.int .i64 x, .int .i64 y]) ∧ Bw w w') ∧
      ∀ w1, Bw w w1 → Calls Tryd.prog 11 #[.slice a L.length cap] w1 (fun e w' => e = .returned (.tuple #[.int .i64 x, .int .i64 y]) ∧ Bw w1 w') := by
  by_cases h0 : L.length = 0
  · rw [h0]
    exact ⟨0, 6, (check_nil a cap w).mono fun e w' h => ⟨h.1, h.2 ▸ Bw.refl _⟩, fun w1 _ => (rCheck_nil a cap w1).mono fun e w' h => ⟨h.1, h.2 ▸ Bw.refl _⟩⟩
  · obtain ⟨g, o, rfl, hm⟩ := na_nc h (by omega)
    refine ⟨(ckP L).1, (ckP L).2, check_any g o cap L (by omega) hl w hm hh, fun w1 hb => ?_⟩
    rw [ck_same]
    exact rCheck_any g o cap L (by omega) hl w1 (hm.bw hb)

theorem gShapes : Tryd.prog.globalNamed "jacquard/parse.shapes" = some 0 := by kernel_rfl
theorem tShapes : (Tryd.prog.globals[0]?).map (·.type) = some 65 := by kernel_rfl
theorem cellsShp : Tryd.prog.cellsOf 64 = 4 := by kernel_rfl

/-- The kinds, as the table's datum has them. -/
theorem shp_datum : (Rows.laid_jacquard_parse_shapes : DataW Unit) = .agg (shpT.map fun r => .agg [.lit (.int .i64 r.1), .lit (.int .i64 r.2.1), .lit (.int .i64 r.2.2.1), .lit (.int .i64 r.2.2.2)]) := by
  simp [Rows.laid_jacquard_parse_shapes, shpT]

end Go.Proofs.YtlcieebneclmpaaDoor

set_option linter.unusedSimpArgs false
set_option linter.unusedVariables false
namespace Go.Proofs.YtlcieebneclmpaaDoor
open Go.ChangeShapes Go.WideShapes Go.ChangeAt Go.RowKit

theorem sh_of_laid {W : World} (h : laidMetH Tryd.prog laidS W) : Sh W := by
  rw [MakeChecks.laidMetH_plain _ _ _ (by kernel_rfl)] at h
  obtain ⟨ps, ⟨g0, t0, cs0, f0, p0, q0, hg0, ht0, hv0, hd0, ⟨g1, t1, cs1, f1, p1, q1, hg1, ht1, hv1, hd1, _, _⟩, _⟩, _⟩ := h
  obtain rfl := Option.some.inj (gShapes.symm.trans hg1)
  obtain rfl := Option.some.inj (tShapes.symm.trans ht1)
  obtain ⟨xs, m1, rfl, hx1, hlen, hn, hel⟩ := DataW.trod_array Tryd.underlying65 hd1
  rw [cellsShp] at hel
  simp only [Prod.mk.injEq] at hx1
  rw [shp_datum] at hx1
  have hxs : (shpT.map fun r => (DataW.agg [.lit (.int .i64 r.1), .lit (.int .i64 r.2.1), .lit (.int .i64 r.2.2.1), .lit (.int .i64 r.2.2.2)] : DataW Unit)) = xs.map (·.1) := by simpa using hx1.1
  have key : ∀ k : Nat, k < 33 → ∃ c0 c1 c2 c3 : Int, (c0, c1, c2, c3) = shpA k ∧ W.cell? ⟨0, k * 4, none⟩ = some (.int .i64 c0) ∧ W.cell? ⟨0, k * 4 + 1, none⟩ = some (.int .i64 c1) ∧ W.cell? ⟨0, k * 4 + 2, none⟩ = some (.int .i64 c2) ∧ W.cell? ⟨0, k * 4 + 3, none⟩ = some (.int .i64 c3) := by
    intro k hk
    have h1 := hel k hk
    have hxi : k < xs.length := by omega
    rw [List.getElem?_eq_getElem hxi] at h1
    obtain ⟨ys, n, _, hy, hl, hlen2, hf⟩ := DataW.trod_struct Tryd.underlying64 h1
    have hl4 : ys.length = 4 := hlen2
    match ys, hl4 with
    | [y0, y1, y2, y3], _ =>
    obtain ⟨a0, e0, d0, _⟩ := DataW.trod_int under3' (hf 0 _ rfl)
    obtain ⟨a1, e1, d1, _⟩ := DataW.trod_int under3' (hf 1 _ rfl)
    obtain ⟨a2, e2, d2, _⟩ := DataW.trod_int under3' (hf 2 _ rfl)
    obtain ⟨a3, e3, d3, _⟩ := DataW.trod_int under3' (hf 3 _ rfl)
    have hsk : shpT[k]? = some (shpA k) := by
      unfold shpA
      rw [show ((k : Nat) : Int).toNat = k from rfl, List.getD_eq_getElem?_getD, List.getElem?_eq_getElem (show k < shpT.length from hk)]
      rfl
    have h2 : (shpT.map fun r => (DataW.agg [.lit (.int .i64 r.1), .lit (.int .i64 r.2.1), .lit (.int .i64 r.2.2.1), .lit (.int .i64 r.2.2.2)] : DataW Unit))[k]? = (xs.map (·.1))[k]? := by rw [hxs]
    rw [List.getElem?_map, hsk, List.getElem?_map, List.getElem?_eq_getElem hxi, hy] at h2
    rw [d0, d1, d2, d3] at h2
    simp only [Option.map_some, Option.some.injEq, List.map_cons, List.map_nil, DataW.agg.injEq, List.cons.injEq, DataW.lit.injEq, Lit.int.injEq, true_and, and_true] at h2
    obtain ⟨r0, r1, r2, r3⟩ := h2
    replace e0 : List.take 1 (List.drop 0 (List.take 4 (List.drop (k * 4) cs1.toList))) = [Value.int .i64 a0] := by
      have q : List.take (Tryd.prog.cellsOf 3) (List.drop 0 (List.take 4 (List.drop (k * 4) cs1.toList))) = [Value.int .i64 a0] := e0
      rw [cells3] at q
      exact q
    replace e1 : List.take 1 (List.drop 1 (List.take 4 (List.drop (k * 4) cs1.toList))) = [Value.int .i64 a1] := by
      have q : List.take (Tryd.prog.cellsOf 3) (List.drop 1 (List.take 4 (List.drop (k * 4) cs1.toList))) = [Value.int .i64 a1] := e1
      rw [cells3] at q
      exact q
    replace e2 : List.take 1 (List.drop 2 (List.take 4 (List.drop (k * 4) cs1.toList))) = [Value.int .i64 a2] := by
      have q : List.take (Tryd.prog.cellsOf 3) (List.drop 2 (List.take 4 (List.drop (k * 4) cs1.toList))) = [Value.int .i64 a2] := e2
      rw [cells3] at q
      exact q
    replace e3 : List.take 1 (List.drop 3 (List.take 4 (List.drop (k * 4) cs1.toList))) = [Value.int .i64 a3] := by
      have q : List.take (Tryd.prog.cellsOf 3) (List.drop 3 (List.take 4 (List.drop (k * 4) cs1.toList))) = [Value.int .i64 a3] := e3
      rw [cells3] at q
      exact q
    have f0 := congrArg (·[0]?) e0
    have f1 := congrArg (·[0]?) e1
    have f2 := congrArg (·[0]?) e2
    have f3 := congrArg (·[0]?) e3
    refine ⟨a0, a1, a2, a3, ?_, ?_, ?_, ?_, ?_⟩
    · rw [← r0, ← r1, ← r2, ← r3]
    · rw [World.var?_cell hg1 hv1]; simpa [List.getElem?_take, List.getElem?_drop] using f0
    · rw [World.var?_cell hg1 hv1]; simpa [List.getElem?_take, List.getElem?_drop] using f1
    · rw [World.var?_cell hg1 hv1]; simpa [List.getElem?_take, List.getElem?_drop] using f2
    · rw [World.var?_cell hg1 hv1]; simpa [List.getElem?_take, List.getElem?_drop] using f3
  obtain ⟨z0, z1, z2, z3, _, hz, _⟩ := key 0 (by decide)
  refine ⟨World.block_lt_of_cell? W _ hz, fun k hk => ?_, fun k hk => ?_, fun k hk => ?_, fun k hk => ?_⟩
  · obtain ⟨c0, c1, c2, c3, e, h0, h1, h2, h3⟩ := key k hk
    rw [← e]; exact h0
  · obtain ⟨c0, c1, c2, c3, e, h0, h1, h2, h3⟩ := key k hk
    rw [← e]; exact h1
  · obtain ⟨c0, c1, c2, c3, e, h0, h1, h2, h3⟩ := key k hk
    rw [← e]; exact h2
  · obtain ⟨c0, c1, c2, c3, e, h0, h1, h2, h3⟩ := key k hk
    rw [← e]; exact h3

end Go.Proofs.YtlcieebneclmpaaDoor

