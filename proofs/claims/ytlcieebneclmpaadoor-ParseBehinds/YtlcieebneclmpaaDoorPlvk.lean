/- The statements' examples: the contract. -/
import Derived.Test.YtlcieebneclmpaaDoorK7
import Derived.Lib.SlBytesConst
set_option linter.unusedSimpArgs false
set_option linter.unusedVariables false
namespace Go.Proofs.YtlcieebneclmpaaDoor
open Go Go.RowKit

def chkO (r : Res) (l : List ANode) : Bool := match r with | .ok x _ _ => x.flat == l && decide (x.size ≤ 100000) | _ => false
def chkB (r : Res) (n a : Int) : Bool := match r with | .bad k m => k == n && m == a | _ => false

theorem chkO_ok {r : Res} {l : List ANode} (h : chkO r l = true) : ∃ x c j, r = .ok x c j ∧ x.flat = l ∧ x.size ≤ 100000 := by
  cases r with
  | ok x c j =>
    simp [chkO] at h
    exact ⟨x, c, j, rfl, h.1, h.2⟩
  | bad _ _ => cases h
  | out => cases h

theorem chkB_ok {r : Res} {n a : Int} (h : chkB r n a = true) : r = .bad n a := by
  cases r with
  | ok x c j => cases h
  | bad k m =>
    simp [chkB] at h
    rw [h.1, h.2]
  | out => cases h

/-- A closed text that is a program. -/
theorem parse_yes {b : List Int} {T : List ATok} {m : Nat} {l : List ANode} (hlx : lexA b = (T, 0, m)) (h0 : (decide (0 < T.length) && decide (T.length ≤ 20000) && decide (b.length ≤ 1000000)) = true) (hE : EndT T) (hc : chkO (pP T 2000 (.prog []) 0 0) l = true)
    (v : Value) (w : World) (h : By w v b) (hs : Sg w) : Calls Tryd.prog 15 #[v] w fun e w' => ∃ r, e = .returned (.tuple #[r, .int .i64 0, .int .i64 b.length]) ∧ Nd w' w.heap.size r l ∧ Bw w w' := by
  simp only [Bool.and_eq_true, decide_eq_true_eq] at h0
  obtain ⟨x, c, j, e, hf, hz⟩ := chkO_ok hc
  have := parse_good v b w T m 2000 (.ok x c j) h hs h0.2 hlx h0.1.1 h0.1.2 hE e nofun (fun x' c' j' e' => by cases e'; exact hz)
  rw [← hf]
  exact this

/-- A closed text that is none. -/
theorem parse_not {b : List Int} {T : List ATok} {m : Nat} {n a : Int} (hlx : lexA b = (T, 0, m)) (h0 : (decide (0 < T.length) && decide (T.length ≤ 20000) && decide (b.length ≤ 1000000)) = true) (hE : EndT T) (hc : chkB (pP T 2000 (.prog []) 0 0) n a = true)
    (v : Value) (w : World) (h : By w v b) (hs : Sg w) : Calls Tryd.prog 15 #[v] w fun e w' => e = .returned (.tuple #[.slice none 0 0, .int .i64 n, .int .i64 a]) ∧ Bw w w' := by
  simp only [Bool.and_eq_true, decide_eq_true_eq] at h0
  exact parse_good v b w T m 2000 (.bad n a) h hs h0.2 hlx h0.1.1 h0.1.2 hE (chkB_ok hc) nofun (fun x' c' j' e' => by cases e')

def tx1 : List Int := [120, 32, 61, 32, 49, 32, 43, 32, 50, 32, 42, 32, 121, 59]
def tx2 : List Int := [49, 32, 61, 32, 50, 59]
def tx3 : List Int := [97, 32, 60, 32, 98, 32, 60, 32, 99, 59]
def nd1 : List ANode := [(1, 1, [], 0, 0), (4, 2, [], 0, 0), (19, 0, [120], 0, 0), (23, 2, [43], 0, 4), (14, 0, [], 1, 4), (23, 2, [42], 0, 8), (14, 0, [], 2, 8), (19, 0, [121], 0, 12)]

theorem lx1 : lexA tx1 = ([(1, [120], 0, 0), (5, [61], 0, 2), (3, [], 1, 4), (5, [43], 0, 6), (3, [], 2, 8), (5, [42], 0, 10), (1, [121], 0, 12), (5, [59], 0, 13), (0, [], 0, 14)], 0, 14) := by decide +kernel
theorem lx2 : lexA tx2 = ([(3, [], 1, 0), (5, [61], 0, 2), (3, [], 2, 4), (5, [59], 0, 5), (0, [], 0, 6)], 0, 6) := by decide +kernel
theorem lx3 : lexA tx3 = ([(1, [97], 0, 0), (5, [60], 0, 2), (1, [98], 0, 4), (5, [60], 0, 6), (1, [99], 0, 8), (5, [59], 0, 9), (0, [], 0, 10)], 0, 10) := by decide +kernel

theorem nd_get : ∀ (l : List ANode) (i : Nat) (hi : i < l.length) (j : Nat) (hj : j < 5), (l.flatMap ndV)[i * 5 + j]? = (ndV l[i])[j]?
  | [], i, hi, _, _ => by simp at hi
  | t :: u, 0, _, j, hj => by
    rw [List.flatMap_cons, Nat.zero_mul, Nat.zero_add, List.getElem?_append_left (by simp [ndV]; omega)]
    rfl
  | t :: u, i + 1, hi, j, hj => by
    have hi' : i < u.length := by simpa using hi
    rw [List.flatMap_cons, List.getElem?_append_right (by simp [ndV]; omega)]
    have e : (i + 1) * 5 + j - (ndV t).length = i * 5 + j := by simp [ndV]; omega
    rw [e, nd_get u i hi' j hj]
    simp

theorem Nd.at {w : World} {base : Nat} {v : Value} {l : List ANode} (h : Nd w base v l) (hl : 0 < l.length) :
    ∃ g cap, v = .slice (some ⟨g, 0, none⟩) l.length cap ∧ base ≤ g ∧ g < w.heap.size ∧ ∀ i (hi : i < l.length) j, j < 5 → w.cell? ⟨g, i * 5 + j, none⟩ = (ndV l[i])[j]? := by
  rcases h.2 with ⟨_, h0⟩ | ⟨g, cap, cur, rfl, hb, hg, hnc, hmx, hsz, htake⟩
  · omega
  · refine ⟨g, cap, rfl, hb, (Array.getElem?_eq_some_iff.1 hg).1, fun i hi j hj => ?_⟩
    rw [cell_of_row w g (i * 5 + j) cur _ (0, 0) hg, ← nd_get l i hi j hj, ← htake, List.getElem?_take, if_pos (by omega)]
    simp

theorem nd1_at {w : World} {base : Nat} {r : Value} (h : Nd w base r nd1) : ∃ g cap, r = .slice (some ⟨g, 0, none⟩) 8 cap ∧ Hid (g < w.heap.size ∧ w.cell? ⟨g, 5, none⟩ = some (.int .i64 4) ∧ w.cell? ⟨g, 17, none⟩ = some (.string ⟨#[43]⟩) ∧ w.cell? ⟨g, 27, none⟩ = some (.string ⟨#[42]⟩)) := by
  obtain ⟨g, cap, e, _, hg, hc⟩ := h.at (by decide)
  exact ⟨g, cap, e, hid ⟨hg, hc 1 (by decide) 0 (by decide), hc 3 (by decide) 2 (by decide), hc 5 (by decide) 2 (by decide)⟩⟩

theorem cell_bw {w w' : World} {b i : Nat} (h : Bw w w') (hb : b < w.heap.size) : w'.cell? ⟨b, i, none⟩ = w.cell? ⟨b, i, none⟩ :=
  World.cell?_of_block (w := w) (w' := w') (a := ⟨b, i, none⟩) (h.block b hb)

theorem by_alloc (w : World) (l : List Int) (fr : Nat × Nat) (hl : l.length ≤ 9223372036854775807) (hb : ∀ c ∈ l, 0 ≤ c ∧ c ≤ 255) : By (w.alloc (.cells (l.map (Value.int .u8)).toArray 5 fr)) (.slice (some ⟨w.heap.size, 0, none⟩) l.length l.length) l := by
  refine ⟨⟨by simp, _, _, rfl, ⟨Nat.le_refl _, fun h => by cases h⟩, .inr ⟨w.heap.size, 0, rfl, by simp, trivial, fun i hi => ?_⟩⟩, hb, hl⟩
  rw [World.cell?_alloc_mark]
  simp

set_option maxHeartbeats 400000 in
theorem num_any (n : Int) (w : World) :
    Calls Tryd.prog 12 #[.int .i64 n] w fun e w' => e = .returned (.int .i64 n) ∧ w' = w := by
  go_enter Tryd.func12, Tryd.ntmps12
  go_wp2
  go_ret
  exact ⟨rfl, rfl⟩

set_option maxRecDepth 100000 in
set_option maxHeartbeats 8000000 in
theorem live_any (w : World) (hs : Sg w) : Calls Tryd.prog 9 #[] w fun e w' => e = .returned (.bool true) ∧ Bw w w' := by
  have HS := hid hs
  clear hs
  have hcv := fun (W : World) (C : Array Value) (n c : Nat) => Lib.run_convert_bytes_const (P := Tryd.prog) W 34 5 C n c under22 under5
  go_enter Tryd.func9, Tryd.ntmps9
  go_upto_region 2 with (first
    | (go_at_call 15; refine (parse_yes (l := nd1) lx1 (by decide +kernel) (by unfold EndT; decide +kernel) (by decide +kernel) _ _ (by_alloc w tx1 _ (by decide) (by decide)) (HS.out.bw (Bw.alloc (Bw.refl _) _))).mono ?_; rintro e w1 ⟨r1, rfl, ht1, hb1⟩; have HB1 := hid (Bw.trans (Bw.alloc (Bw.refl w) _) hb1); obtain ⟨g1, cp1, e1, H1⟩ := nd1_at ht1; subst e1; clear ht1 hb1)
    | fail)
  go_upto_region 3 with (first
    | (go_at_call 15; refine (parse_not (n := 6) (a := 2) lx2 (by decide +kernel) (by unfold EndT; decide +kernel) (by decide +kernel) _ _ (by_alloc w1 tx2 _ (by decide) (by decide)) (HS.out.bw (Bw.alloc HB1.out _))).mono ?_; rintro e w2 ⟨rfl, hb2⟩; have HB2 := hid (Bw.trans (Bw.alloc (Bw.refl w1) _) hb2); clear hb2)
    | fail)
  go_upto_region 4 with (first
    | (go_at_call 15; refine (parse_not (n := 6) (a := 6) lx3 (by decide +kernel) (by unfold EndT; decide +kernel) (by decide +kernel) _ _ (by_alloc w2 tx3 _ (by decide) (by decide)) (HS.out.bw (Bw.alloc (HB1.out.trans HB2.out) _))).mono ?_; rintro e w3 ⟨rfl, hb3⟩; have HB3 := hid (Bw.trans (Bw.alloc (Bw.refl w2) _) hb3); clear hb3)
    | fail)
  have hgl : g1 < w3.heap.size := Nat.lt_of_lt_of_le H1.out.1 (HB2.out.trans HB3.out).size
  have c1 : w3.cell? ⟨g1, 5, none⟩ = some (.int .i64 4) := (cell_bw (HB2.out.trans HB3.out) H1.out.1).trans H1.out.2.1
  have c2 : w3.cell? ⟨g1, 17, none⟩ = some (.string ⟨#[43]⟩) := (cell_bw (HB2.out.trans HB3.out) H1.out.1).trans H1.out.2.2.1
  have c3 : w3.cell? ⟨g1, 27, none⟩ = some (.string ⟨#[42]⟩) := (cell_bw (HB2.out.trans HB3.out) H1.out.1).trans H1.out.2.2.2
  clear hcv
  go_wp2_with (first
    | (go_at_call 12; refine (num_any _ _).mono ?_; rintro e w' ⟨rfl, hw'⟩; subst w')
    | fail)
  all_goals go_ret
  all_goals exact ⟨rfl, HB1.out.trans (HB2.out.trans HB3.out)⟩

end Go.Proofs.YtlcieebneclmpaaDoor

