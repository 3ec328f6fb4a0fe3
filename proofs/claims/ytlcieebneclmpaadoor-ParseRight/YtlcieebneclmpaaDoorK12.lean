/- The statements' examples: the contract. · Strings as lists of bytes, one behind the other. · How the statements' frames are opened: the table of signs out of the condition; lists of bytes; texts. -/
import Derived.Test.YtlcieebneclmpaaDoorK11
import Derived.Lib.SlBytesConst
import Derived.Test.YtlcieebneclmpaaDoorTie
import Derived.Test.YtlcieebneclmpaaDoorCards
import Derived.ProofKit
import Derived.LaidMore
import Derived.OpenShut
import Derived.ShutString
import Derived.ChangeOld
import Derived.Below
import Derived.SevenTiedAt
set_option linter.unusedSimpArgs false
set_option linter.unusedVariables false
namespace Go.Proofs.YtlcieebneclmpaaDoor
open Go Go.RowKit

def chkO (r : Res) (l : List ANode) : Bool := match r with | .ok x _ _ => x.flat == l && decide (x.size ≤ 100000) | _ => false
def chkB (r : Res) (n a : Int) : Bool := match r with | .bad k m => k == n && m == a | _ => false

theorem chkO_ok {r : Res} {l : List ANode} (h : chkO r l = true) : ∃ x c j, r = .ok x c j ∧ x.flat = l ∧ x.size ≤ 100000 := by
  cases r with
  | ok x c j =>
    simp [chkO] at h
    exact ⟨x, c, j, rfl, h.1, h.2⟩
  | bad _ _ => cases h
  | out => cases h

theorem chkB_ok {r : Res} {n a : Int} (h : chkB r n a = true) : r = .bad n a := by
  cases r with
  | ok x c j => cases h
  | bad k m =>
    simp [chkB] at h
    rw [h.1, h.2]
  | out => cases h

/-- A closed text that is a program. -/
theorem parse_yes {b : List Int} {T : List ATok} {m : Nat} {l : List ANode} (hlx : lexA b = (T, 0, m)) (h0 : (decide (0 < T.length) && decide (T.length ≤ 20000) && decide (b.length ≤ 1000000)) = true) (hE : EndT T) (hc : chkO (pP T 2000 (.prog []) 0 0) l = true)
    (v : Value) (w : World) (h : By w v b) (hs : Sg w) : Calls Tryd.prog 15 #[v] w fun e w' => ∃ r, e = .returned (.tuple #[r, .int .i64 0, .int .i64 b.length]) ∧ Nd w' w.heap.size r l ∧ Bw w w' := by
  simp only [Bool.and_eq_true, decide_eq_true_eq] at h0
  obtain ⟨x, c, j, e, hf, hz⟩ := chkO_ok hc
  have := parse_good v b w T m 2000 (.ok x c j) h hs h0.2 hlx h0.1.1 h0.1.2 hE e nofun (fun x' c' j' e' => by cases e'; exact hz)
  rw [← hf]
  exact this

/-- A closed text that is none. -/
theorem parse_not {b : List Int} {T : List ATok} {m : Nat} {n a : Int} (hlx : lexA b = (T, 0, m)) (h0 : (decide (0 < T.length) && decide (T.length ≤ 20000) && decide (b.length ≤ 1000000)) = true) (hE : EndT T) (hc : chkB (pP T 2000 (.prog []) 0 0) n a = true)
    (v : Value) (w : World) (h : By w v b) (hs : Sg w) : Calls Tryd.prog 15 #[v] w fun e w' => e = .returned (.tuple #[.slice none 0 0, .int .i64 n, .int .i64 a]) ∧ Bw w w' := by
  simp only [Bool.and_eq_true, decide_eq_true_eq] at h0
  exact parse_good v b w T m 2000 (.bad n a) h hs h0.2 hlx h0.1.1 h0.1.2 hE (chkB_ok hc) nofun (fun x' c' j' e' => by cases e')

def tx1 : List Int := [120, 32, 61, 32, 49, 32, 43, 32, 50, 32, 42, 32, 121, 59]
def tx2 : List Int := [49, 32, 61, 32, 50, 59]
def tx3 : List Int := [97, 32, 60, 32, 98, 32, 60, 32, 99, 59]
def nd1 : List ANode := [(1, 1, [], 0, 0), (4, 2, [], 0, 0), (19, 0, [120], 0, 0), (23, 2, [43], 0, 4), (14, 0, [], 1, 4), (23, 2, [42], 0, 8), (14, 0, [], 2, 8), (19, 0, [121], 0, 12)]

theorem lx1 : lexA tx1 = ([(1, [120], 0, 0), (5, [61], 0, 2), (3, [], 1, 4), (5, [43], 0, 6), (3, [], 2, 8), (5, [42], 0, 10), (1, [121], 0, 12), (5, [59], 0, 13), (0, [], 0, 14)], 0, 14) := by decide +kernel
theorem lx2 : lexA tx2 = ([(3, [], 1, 0), (5, [61], 0, 2), (3, [], 2, 4), (5, [59], 0, 5), (0, [], 0, 6)], 0, 6) := by decide +kernel
theorem lx3 : lexA tx3 = ([(1, [97], 0, 0), (5, [60], 0, 2), (1, [98], 0, 4), (5, [60], 0, 6), (1, [99], 0, 8), (5, [59], 0, 9), (0, [], 0, 10)], 0, 10) := by decide +kernel

theorem nd_get : ∀ (l : List ANode) (i : Nat) (hi : i < l.length) (j : Nat) (hj : j < 5), (l.flatMap ndV)[i * 5 + j]? = (ndV l[i])[j]?
  | [], i, hi, _, _ => by simp at hi
  | t :: u, 0, _, j, hj => by
    rw [List.flatMap_cons, Nat.zero_mul, Nat.zero_add, List.getElem?_append_left (by simp [ndV]; omega)]
    rfl
  | t :: u, i + 1, hi, j, hj => by
    have hi' : i < u.length := by simpa using hi
    rw [List.flatMap_cons, List.getElem?_append_right (by simp [ndV]; omega)]
    have e : (i + 1) * 5 + j - (ndV t).length = i * 5 + j := by simp [ndV]; omega
    rw [e, nd_get u i hi' j hj]
    simp

theorem Nd.at {w : World} {base : Nat} {v : Value} {l : List ANode} (h : Nd w base v l) (hl : 0 < l.length) :
    ∃ g cap, v = .slice (some ⟨g, 0, none⟩) l.length cap ∧ base ≤ g ∧ g < w.heap.size ∧ ∀ i (hi : i < l.length) j, j < 5 → w.cell? ⟨g, i * 5 + j, none⟩ = (ndV l[i])[j]? := by
  rcases h.2 with ⟨_, h0⟩ | ⟨g, cap, cur, rfl, hb, hg, hnc, hmx, hsz, htake⟩
  · omega
  · refine ⟨g, cap, rfl, hb, (Array.getElem?_eq_some_iff.1 hg).1, fun i hi j hj => ?_⟩
    rw [cell_of_row w g (i * 5 + j) cur _ (0, 0) hg, ← nd_get l i hi j hj, ← htake, List.getElem?_take, if_pos (by omega)]
    simp

theorem nd1_at {w : World} {base : Nat} {r : Value} (h : Nd w base r nd1) : ∃ g cap, r = .slice (some ⟨g, 0, none⟩) 8 cap ∧ Hid (g < w.heap.size ∧ w.cell? ⟨g, 5, none⟩ = some (.int .i64 4) ∧ w.cell? ⟨g, 17, none⟩ = some (.string ⟨#[43]⟩) ∧ w.cell? ⟨g, 27, none⟩ = some (.string ⟨#[42]⟩)) := by
  obtain ⟨g, cap, e, _, hg, hc⟩ := h.at (by decide)
  exact ⟨g, cap, e, hid ⟨hg, hc 1 (by decide) 0 (by decide), hc 3 (by decide) 2 (by decide), hc 5 (by decide) 2 (by decide)⟩⟩

theorem cell_bw {w w' : World} {b i : Nat} (h : Bw w w') (hb : b < w.heap.size) : w'.cell? ⟨b, i, none⟩ = w.cell? ⟨b, i, none⟩ :=
  World.cell?_of_block (w := w) (w' := w') (a := ⟨b, i, none⟩) (h.block b hb)

theorem by_alloc (w : World) (l : List Int) (fr : Nat × Nat) (hl : l.length ≤ 9223372036854775807) (hb : ∀ c ∈ l, 0 ≤ c ∧ c ≤ 255) : By (w.alloc (.cells (l.map (Value.int .u8)).toArray 5 fr)) (.slice (some ⟨w.heap.size, 0, none⟩) l.length l.length) l := by
  refine ⟨⟨by simp, _, _, rfl, ⟨Nat.le_refl _, fun h => by cases h⟩, .inr ⟨w.heap.size, 0, rfl, by simp, trivial, fun i hi => ?_⟩⟩, hb, hl⟩
  rw [World.cell?_alloc_mark]
  simp

set_option maxHeartbeats 400000 in
theorem num_any (n : Int) (w : World) :
    Calls Tryd.prog 12 #[.int .i64 n] w fun e w' => e = .returned (.int .i64 n) ∧ w' = w := by
  go_enter Tryd.func12, Tryd.ntmps12
  go_wp2
  go_ret
  exact ⟨rfl, rfl⟩

set_option maxRecDepth 100000 in
set_option maxHeartbeats 8000000 in
theorem live_any (w : World) (hs : Sg w) : Calls Tryd.prog 9 #[] w fun e w' => e = .returned (.bool true) ∧ Bw w w' := by
  have HS := hid hs
  clear hs
  have hcv := fun (W : World) (C : Array Value) (n c : Nat) => Lib.run_convert_bytes_const (P := Tryd.prog) W 34 5 C n c under22 under5
  go_enter Tryd.func9, Tryd.ntmps9
  go_upto_region 2 with (first
    | (go_at_call 15; refine (parse_yes (l := nd1) lx1 (by decide +kernel) (by unfold EndT; decide +kernel) (by decide +kernel) _ _ (by_alloc w tx1 _ (by decide) (by decide)) (HS.out.bw (Bw.alloc (Bw.refl _) _))).mono ?_; rintro e w1 ⟨r1, rfl, ht1, hb1⟩; have HB1 := hid (Bw.trans (Bw.alloc (Bw.refl w) _) hb1); obtain ⟨g1, cp1, e1, H1⟩ := nd1_at ht1; subst e1; clear ht1 hb1)
    | fail)
  go_upto_region 3 with (first
    | (go_at_call 15; refine (parse_not (n := 6) (a := 2) lx2 (by decide +kernel) (by unfold EndT; decide +kernel) (by decide +kernel) _ _ (by_alloc w1 tx2 _ (by decide) (by decide)) (HS.out.bw (Bw.alloc HB1.out _))).mono ?_; rintro e w2 ⟨rfl, hb2⟩; have HB2 := hid (Bw.trans (Bw.alloc (Bw.refl w1) _) hb2); clear hb2)
    | fail)
  go_upto_region 4 with (first
    | (go_at_call 15; refine (parse_not (n := 6) (a := 6) lx3 (by decide +kernel) (by unfold EndT; decide +kernel) (by decide +kernel) _ _ (by_alloc w2 tx3 _ (by decide) (by decide)) (HS.out.bw (Bw.alloc (HB1.out.trans HB2.out) _))).mono ?_; rintro e w3 ⟨rfl, hb3⟩; have HB3 := hid (Bw.trans (Bw.alloc (Bw.refl w2) _) hb3); clear hb3)
    | fail)
  have hgl : g1 < w3.heap.size := Nat.lt_of_lt_of_le H1.out.1 (HB2.out.trans HB3.out).size
  have c1 : w3.cell? ⟨g1, 5, none⟩ = some (.int .i64 4) := (cell_bw (HB2.out.trans HB3.out) H1.out.1).trans H1.out.2.1
  have c2 : w3.cell? ⟨g1, 17, none⟩ = some (.string ⟨#[43]⟩) := (cell_bw (HB2.out.trans HB3.out) H1.out.1).trans H1.out.2.2.1
  have c3 : w3.cell? ⟨g1, 27, none⟩ = some (.string ⟨#[42]⟩) := (cell_bw (HB2.out.trans HB3.out) H1.out.1).trans H1.out.2.2.2
  clear hcv
  go_wp2_with (first
    | (go_at_call 12; refine (num_any _ _).mono ?_; rintro e w' ⟨rfl, hw'⟩; subst w')
    | fail)
  all_goals go_ret
  all_goals exact ⟨rfl, HB1.out.trans (HB2.out.trans HB3.out)⟩

end Go.Proofs.YtlcieebneclmpaaDoor

set_option linter.unusedSimpArgs false
set_option linter.unusedVariables false
namespace Go.Proofs.YtlcieebneclmpaaDoor
open Go Go.RowKit

theorem str_cat (a b : List Int) : strOfNums a ++ strOfNums b = strOfNums (a ++ b) := by
  apply str_inj
  simp [strOfNums, ByteArray.toList_eq]

theorem by_str (w : World) (l : List Int) (hb : ∀ c ∈ l, 0 ≤ c ∧ c ≤ 255) (hl : l.length ≤ 1000000) :
    ∃ cap w', (convert 9 34 (.string (strOfNums l))).run Tryd.prog w = .ok (.slice (some ⟨w.heap.size, 0, none⟩) l.length cap) w' ∧ By w' (.slice (some ⟨w.heap.size, 0, none⟩) l.length cap) l ∧ Bw w w' := by
  refine ⟨_, _, by rw [← strOfNums_size l]; exact run_bytes_of_string w 9 34 5 (strOfNums l) under9 under22 under5, ?_, Bw.alloc (Bw.drew (Bw.refl w)) _⟩
  have hge := grownCap_ge w (strOfNums l).size 0 5
  rw [strOfNums_size] at hge
  refine ⟨⟨by simp, _, _, rfl, ⟨by rw [strOfNums_size]; omega, fun h => by cases h⟩, ?_⟩, hb, by omega⟩
  by_cases h0 : l.length = 0
  · exact .inl h0
  · refine .inr ⟨w.heap.size, 0, rfl, by simp, trivial, fun i hi => ?_⟩
    have hi' : i < l.length := by omega
    have hsz : i < (strOfNums l).data.size := by have := strOfNums_size l; show i < (strOfNums l).size; omega
    rw [Nat.zero_add]
    show (w.drew.alloc _).cell? ⟨w.drew.heap.size, i, none⟩ = _
    rw [World.cell?_alloc_mark, bytesRow_at _ _ _ hsz, List.getElem?_map, List.getElem?_eq_getElem hi']
    have := strOf_get hb i (by rw [strOfNums_size]; exact hi')
    rw [nth_eq hi'] at this
    exact congrArg (fun z => some (Value.int .u8 z)) this

end Go.Proofs.YtlcieebneclmpaaDoor

set_option linter.unusedVariables false
set_option linter.unusedSimpArgs false
namespace Go.Proofs.YtlcieebneclmpaaDoor
open Go.ChangeShapes Go.WideShapes Go.ChangeAt Go.RowKit

set_option maxRecDepth 100000 in
theorem ownK : ownKnob Tryd.prog.godebug = none := by kernel_rfl
set_option maxRecDepth 100000 in
theorem laidOut : laidOutB Tryd.prog = true := by kernel_rfl

abbrev laidS : List (String × DataW Unit) := [("jacquard/lex.signs", Rows.laid_jacquard_lex_signs), ("jacquard/parse.shapes", Rows.laid_jacquard_parse_shapes)]

set_option maxRecDepth 100000 in
theorem gSigns : Tryd.prog.globalNamed "jacquard/lex.signs" = some 1 := by kernel_rfl
set_option maxRecDepth 100000 in
theorem tSigns : (Tryd.prog.globals[1]?).map (·.type) = some 86 := by kernel_rfl
set_option maxRecDepth 100000 in
theorem cells9 : Tryd.prog.cellsOf 9 = 1 := by kernel_rfl

set_option maxRecDepth 100000 in
/-- The door's own heap meets the condition. -/
theorem door_met (os : Os) (args : Array Value) : laidMetH Tryd.prog laidS ((World.doorLaid Tryd.prog 400 os).forCall (fun _ _ => 0) ⟨#[], args, []⟩).memory :=
  laidMetH_of_parts3 (fuel := 8) (laidMet_of_run' 8 (by kernel_rfl) (by kernel_rfl)) (by kernel_rfl) (by kernel_rfl)

set_option maxRecDepth 100000 in
/-- The bytes of the signs, as the table's datum has them. -/
theorem sgs_datum : (Rows.laid_jacquard_lex_signs : DataW Unit) = .agg (sgs.map fun s => .lit (.string (strOfNums s).data.toList)) := by
  simp [Rows.laid_jacquard_lex_signs, sgs, strOfNums]

set_option maxRecDepth 100000 in
/-- What the condition gives: the table. -/
theorem sg_of_laid {W : World} (h : laidMetH Tryd.prog laidS W) : Sg W := by
  rw [MakeChecks.laidMetH_plain _ _ _ (by kernel_rfl)] at h
  obtain ⟨ps, ⟨g0, t0, cs0, f0, p0, q0, hg0, ht0, hv0, hd0, _, _⟩, _, _⟩ := h
  obtain rfl := Option.some.inj (gSigns.symm.trans hg0)
  obtain rfl := Option.some.inj (tSigns.symm.trans ht0)
  obtain ⟨xs, m1, rfl, hx1, hlen, hn, hel⟩ := DataW.trod_array under49 hd0
  rw [cells9] at hel
  simp only [Prod.mk.injEq] at hx1
  rw [sgs_datum] at hx1
  have hxs : (sgs.map fun s => (DataW.lit (.string (strOfNums s).data.toList) : DataW Unit)) = xs.map (·.1) := by simpa using hx1.1
  have key : ∀ i s, sgs[i]? = some s → W.cell? ⟨1, i, none⟩ = some (.string (strOfNums s)) := by
    intro i s hs
    have hi : i < 22 := (List.getElem?_eq_some_iff.1 hs).1
    have h1 := hel i hi
    have hxi : i < xs.length := by omega
    rw [List.getElem?_eq_getElem hxi] at h1
    obtain ⟨z, e1, e2, _⟩ := DataW.trod_string under9 h1
    have h2 : (sgs.map fun s => (DataW.lit (.string (strOfNums s).data.toList) : DataW Unit))[i]? = (xs.map (·.1))[i]? := by rw [hxs]
    rw [List.getElem?_map, hs, List.getElem?_map, List.getElem?_eq_getElem hxi, e2] at h2
    simp only [Option.map_some, Option.some.injEq, DataW.lit.injEq, Lit.string.injEq] at h2
    have hz : z = strOfNums s := by
      cases z
      simp only [strOfNums] at h2 ⊢
      congr 1
      exact Array.toList_inj.1 h2.symm
    rw [World.var?_cell hg0 hv0 i, ← hz]
    have e3 := congrArg (·[0]?) e1
    simpa [List.getElem?_take, List.getElem?_drop] using e3
  have h0 := key 0 [61, 61] rfl
  exact ⟨World.block_lt_of_cell? W _ h0, key⟩

set_option maxRecDepth 100000 in
theorem cells_one {w : World} {a : Addr} {v : Value} (h : w.cells? 0 a 1 = some [v]) : w.cell? a = some v := by
  unfold World.cells? at h
  rw [if_pos (Nat.zero_le _), show List.range 1 = [0] from rfl] at h
  have ea : a.add 0 = a := by simp [Addr.add]
  cases h0 : w.cell? (a.add 0) with
  | none => simp [h0] at h
  | some u =>
    simp [h0] at h
    rw [ea, h] at h0
    exact h0

set_option maxRecDepth 100000 in
theorem list_of {α : Type} (q : Nat → α → Prop) : ∀ (n : Nat), (∀ i, i < n → ∃ a, q i a) → ∃ l : List α, l.length = n ∧ ∀ i (hi : i < l.length), q i l[i]
  | 0, _ => ⟨[], rfl, fun i hi => by simp at hi⟩
  | n + 1, h => by
    obtain ⟨l, hl, hq⟩ := list_of q n (fun i hi => h i (by omega))
    obtain ⟨a, ha⟩ := h n (by omega)
    refine ⟨l ++ [a], by simp [hl], fun i hi => ?_⟩
    by_cases hi2 : i < l.length
    · rw [List.getElem_append_left hi2]; exact hq i hi2
    · have : i = l.length := by simp at hi; omega
      subst this
      rw [List.getElem_append_right (Nat.le_refl _)]
      simpa [hl] using ha

set_option maxRecDepth 100000 in
theorem trod_list {α H : Type} {enc : TypeId × Value → H} {w : World} {T E : TypeId} {fuel : Nat} {cs : List Value} {x : DataW H × List MemPlace} (mk : α → Value) (ok : α → Prop)
    (ht : Tryd.prog.underlying T = some (.slice E)) (hc : Tryd.prog.cellsOf E = 1)
    (hel : ∀ n cs x, DataW.trod enc Tryd.prog w 0 (fun _ => true) true n E cs = some x → ∃ a, cs = [mk a] ∧ ok a)
    (h : DataW.trod enc Tryd.prog w 0 (fun _ => true) true fuel T cs = some x) :
    ∃ (v : Value) (l : List α), cs = [v] ∧ Sl w (fun _ => True) v l.length 1 (l.map mk) ∧ (∀ a ∈ l, ok a) ∧ l.length ≤ maxLen := by
  rcases DataW.trod_slice ht h with ⟨rfl, _⟩ | ⟨ad, len, cap, elems, rest, n, _, rfl, _, _, hl, hm, hlen, he, _, _⟩
  · exact ⟨_, [], rfl, Sl.nil _ _ 1, fun a ha => by simp at ha, Nat.zero_le _⟩
  · rw [hc] at he
    have key : ∀ i, i < len → ∃ a, w.cell? (ad.add (i * 1)) = some (mk a) ∧ ok a := by
      intro i hi
      have h1 := he i hi
      obtain ⟨y, hy⟩ : ∃ y, elems[i]? = some y := ⟨_, List.getElem?_eq_getElem (by omega)⟩
      rw [hy, Option.bind_eq_some_iff] at h1
      obtain ⟨cs', hcs, htr⟩ := h1
      obtain ⟨a, rfl, hok⟩ := hel _ _ _ htr
      exact ⟨a, cells_one hcs, hok⟩
    obtain ⟨l, hll, hq⟩ := list_of _ len key
    refine ⟨_, l, rfl, ⟨by simp, some ad, cap, by rw [hll], ⟨by omega, fun h => by cases h⟩, ?_⟩, fun a ha => ?_, by omega⟩
    · by_cases h0 : len = 0
      · exact .inl (by omega)
      · have hc0 := (hq 0 (by omega)).1
        obtain ⟨b, off, spot⟩ := ad
        have hspot : spot = none := by simpa [Addr.add] using World.cell?_spot hc0
        subst hspot
        have hlt : b < w.heap.size := by simpa [Addr.add] using World.block_lt_of_cell? w _ hc0
        refine .inr ⟨b, off, rfl, hlt, trivial, fun i hi => ?_⟩
        have hil : i < l.length := by omega
        have := (hq i hil).1
        have e1 : (⟨b, off, none⟩ : Addr).add (i * 1) = ⟨b, off + i, none⟩ := by
          rw [Nat.mul_one]
          unfold Addr.add
          split
          · rename_i h0; subst h0; rfl
          · rfl
        rw [e1] at this
        rw [this]; simp [hil]
    · obtain ⟨i, hi, rfl⟩ := List.getElem_of_mem ha
      exact (hq i hi).2

set_option maxRecDepth 100000 in
theorem cells5 : Tryd.prog.cellsOf 5 = 1 := by kernel_rfl

set_option maxRecDepth 100000 in
theorem open_bytes {H : Type} {enc : TypeId × Value → H} {W : World} {base : Nat} {v : Value} {d : DataW H} {ps : List MemPlace}
    (hval : Value.okWide Tryd.prog W .any base 34 v) (h : DataW.Trod enc Tryd.prog W 0 (fun _ => true) true 34 v d ps) :
    ∃ l : List Int, By W v l := by
  obtain ⟨a, len, cap, rfl⟩ := okWide_slice under22 hval
  obtain ⟨fuel, hf⟩ := h
  obtain ⟨v, l, e, h1, h2, h3⟩ := trod_list (Value.int .u8) (fun c => 0 ≤ c ∧ c ≤ 255) under22 cells5 (fun n cs x h => by
    obtain ⟨a, rfl, _, wa⟩ := DataW.trod_int under5 h
    have := bounds_u8 wa
    exact ⟨a, rfl, by omega⟩) hf
  simp [Value.cells] at e
  subst e
  exact ⟨l, h1, h2, by unfold maxLen at h3; omega⟩

set_option maxRecDepth 100000 in
theorem open_text {H : Type} {enc : TypeId × Value → H} {W : World} {base : Nat} {v : Value} {d : DataW H} {ps : List MemPlace}
    (hval : Value.okWide Tryd.prog W .any base 9 v) (h : DataW.Trod enc Tryd.prog W 0 (fun _ => true) true 9 v d ps) :
    ∃ l : List Int, v = .string (strOfNums l) ∧ (∀ c ∈ l, 0 ≤ c ∧ c ≤ 255) ∧ l.length ≤ maxLen := by
  obtain ⟨s, rfl, _, _, hm⟩ := Go.ChangeMaps.open_string under9 hval h
  refine ⟨s.data.toList.map fun u => (u.toNat : Int), ?_, ?_, by rw [List.length_map, Array.length_toList]; exact hm⟩
  · congr 1
    cases s
    simp [strOfNums, List.map_map, Function.comp_def]
  · intro c hc
    obtain ⟨u, _, rfl⟩ := List.mem_map.1 hc
    have := u.toNat_lt
    omega

end Go.Proofs.YtlcieebneclmpaaDoor

