/- The document's objects made, for stage 9: contracts. · The document's numbers: contracts. · The document's complex objects, numbers, orders, for stage 9: contracts. -/
import Derived.Test.YtjcoifdfemejkaaGreatDoorM14
import Derived.Test.YtjcoifdfemejkaaGreatDoorK4k
import Derived.Test.YtjcoifdfemejkaaGreatDoorR3Mk
import Derived.Test.YtjcoifdfemejkaaGreatDoorRTk
import Derived.Test.YtjcoifdfemejkaaGreatDoorKTk
import Derived.Deep.RegionHeld3
import Derived.BigRegion
import Derived.BigQuiet
set_option linter.unusedSimpArgs false
set_option linter.unusedVariables false
namespace Go.Proofs.YtjcoifdfemejkaaGreatDoor
open Go Go.RowKit

def dkR (H : AHeap) (o : AObj) : Int × Int × AHeap := (dMakeV H o, mF (dMakeE H o), dMakeH H o)
/-- What the document's calls answer. -/
def BD (G : Nat → Prop) (w : World) (R : Int × Int × AHeap) (e : Ending) (w' : World) : Prop := ∃ v', e = .returned (.tuple #[v', .int .u64 R.1, .int .i64 R.2.1]) ∧ RdH w' G v' R.2.2 ∧ Bw w w'

theorem Blk.newG {w : World} {g : Nat} (cur : Array Value) (e : TypeId) (h : w.heap.size = g) : Blk (w.alloc (.cells cur e)) g cur e := h ▸ Blk.new w cur e
theorem RdH.form {w : World} {G : Nat → Prop} {v : Value} {H : AHeap} (h : RdH w G v H) : ∃ ah ch, v = .agg #[.int .i64 H.1, .slice ah H.2.length ch] := by
  obtain ⟨va, t, rfl, _, hs, _⟩ := h
  obtain ⟨a, c, rfl⟩ := hs.form
  exact ⟨a, c, rfl⟩
theorem RdH.part {w : World} {G : Nat → Prop} {v : Value} {H : AHeap} (h : RdH w G v H) (g : Nat) (hg : w.heap.size ≤ g) : RdH w (fun b => G b ∧ b ≠ g) v H :=
  h.keep (Nat.le_refl _) (fun _ _ _ => rfl) (fun b hb hG => ⟨hG, by omega⟩)
theorem RdH.put {w : World} {G : Nat → Prop} {v : Value} {H : AHeap} {g : Nat} (h : RdH w (fun b => G b ∧ b ≠ g) v H) (j : Nat) (u : Value) : RdH (w.setCell ⟨g, j, none⟩ u) (fun b => G b ∧ b ≠ g) v H :=
  h.keep (by simp [World.setCell]) (fun b _ hG => Below.heap_setCell w ⟨g, j, none⟩ u b hG.2) (fun _ _ g => g)
theorem RdH.alloc {w : World} {G : Nat → Prop} {v : Value} {H : AHeap} (h : RdH w G v H) (o : Obj) : RdH (w.alloc o) G v H := h.below ((Bw.refl _).alloc o)
theorem RdH.whole {w : World} {G : Nat → Prop} {v : Value} {H : AHeap} {g : Nat} (h : RdH w (fun b => G b ∧ b ≠ g) v H) : RdH w G v H :=
  h.keep (Nat.le_refl _) (fun _ _ _ => rfl) (fun _ _ g => g.1)

section
variable {w w' : World}

set_option maxRecDepth 100000 in
set_option maxHeartbeats 4000000 in
theorem nMake_any (G G2 : Nat → Prop) (hv : Value) (H : AHeap) (o : AObj) (vb vv vk : Value) (hGn : ∀ b, w.heap.size ≤ b → G b) (h : RdH w G hv H) (hol : OL w G2 o vb vv vk) (hU : ∀ v ∈ o.vals, U v) (hm : H.2.length ≤ 1000000) (l1 : o.bytes.length ≤ 1000000) (l2 : o.vals.length ≤ 1000000) (l3 : o.keys.length ≤ 1000000) :
    Calls Tryz.prog 41 #[hv, objV o vb vv vk] w (BD G w (dkR H o)) := by
  have HM := hid (fun (w1 : World) (hb : Bw w w1) (hs : w.heap.size + 3 ≤ w1.heap.size) => rmake_any (fun b => G b ∧ b ≠ w.heap.size + 1 + 1) G2 hv H o vb vv vk w1 (fun b h => ⟨hGn b (by omega), by omega⟩) ((h.part _ (by omega)).below hb) (hol.below hb) hU hm l1 l2 l3)
  have HR := hid h
  obtain ⟨ah, ch, rfl⟩ := h.form
  obtain ⟨ab, cb, rfl⟩ := hol.1.form
  obtain ⟨av, cv, rfl⟩ := hol.2.1.form
  obtain ⟨ak, ck, rfl⟩ := hol.2.2.form
  clear h hol hU hGn hm l1 l2 l3
  unfold BD dkR
  unfold dMakeV dMakeH at *
  unfold objV at *
  generalize hE : dMakeE H o = E at *
  clear hE
  by_cases h0 : E = 0
  · subst h0
    simp only [if_pos] at HM ⊢
    obtain ⟨V, hV⟩ : ∃ V, 4 * (H.2.length : Int) + 2 = V := ⟨_, rfl⟩
    rw [hV] at HM ⊢
    rw [show mF 0 = 0 from rfl]
    clear hV
    generalize ((H.1, H.2 ++ [o]) : AHeap) = H' at HM ⊢
    go_enter Tryz.func41, Tryz.ntmps41
    go_wp2_with (first
      | (go_at_call 24; refine (HM.out _ (by repeat (first | exact Bw.refl _ | apply Bw.alloc | apply Bw.drewN | apply Bw.drew)) (by simp only [World.size_alloc]; omega)).mono ?_; rintro e w1 ⟨v', rfl, hr1, hb1⟩; obtain ⟨a1, c1, rfl⟩ := hr1.form; have R1 := hid hr1; have B1 := hid (show Bw w w1 from Bw.trans (by repeat (first | exact Bw.refl _ | apply Bw.alloc | apply Bw.drewN | apply Bw.drew)) hb1); have P0 := hid (Blk.bw (Blk.alloc (Blk.alloc (Blk.new w #[.int .i64 H.1, .slice ah H.2.length ch] 32) _) _) hb1); have y0 : w1.cell? ⟨w.heap.size, 0, none⟩ = some (.int .i64 H.1) := P0.out.cell 0; have y1 : w1.cell? ⟨w.heap.size, 1, none⟩ = some (.slice ah H.2.length ch) := P0.out.cell 1; have y2 : w.heap.size < w1.heap.size := P0.out.lt; have P2 := hid (Blk.bw (Blk.newG (g := w.heap.size + 1 + 1) #[.int .i64 0, .slice none 0 0] 32 (by simp only [World.size_alloc])) hb1); have z2 : w1.cell? ⟨w.heap.size + 1 + 1, 0, none⟩ = some (.int .i64 0) := P2.out.cell 0; have z3 : w1.cell? ⟨w.heap.size + 1 + 1, 1, none⟩ = some (.slice none 0 0) := P2.out.cell 1; have f2 : w1.frozen? ⟨w.heap.size + 1 + 1, 0, none⟩ = false := P2.out.free 0; have f3 : w1.frozen? ⟨w.heap.size + 1 + 1, 1, none⟩ = false := P2.out.free 1; have s2 : w.heap.size + 1 + 1 < w1.heap.size := P2.out.lt; clear hr1 hb1)
      | fail)
    refine bodyPost_ret (v := .tuple #[.agg #[.int .i64 H'.1, .slice a1 H'.2.length c1], .int .u64 V, .int .i64 0]) (by simp [results, Tryz.results41, go_sem, *]) rfl ?_
    exact ⟨_, rfl, RdH.whole (g := w.heap.size + 1 + 1) (by repeat (first | exact R1.out | apply RdH.put | apply RdH.alloc)), (by repeat (first | exact Bw.refl _ | exact B1.out | apply Bw.alloc | apply Bw.drewN | apply Bw.drew | (refine Bw.setCell ?_ (show w.heap.size ≤ w.heap.size + 1 + 1 by omega) _)))⟩
  rw [if_neg h0, if_neg h0]
  simp only [if_neg h0] at HM
  by_cases h2 : E = 2
  · subst h2
    rw [show mF 2 = 5 from rfl]
    clear h0
    go_enter Tryz.func41, Tryz.ntmps41
    go_wp2_with (first
      | (go_at_call 24; refine (HM.out _ (by repeat (first | exact Bw.refl _ | apply Bw.alloc | apply Bw.drewN | apply Bw.drew)) (by simp only [World.size_alloc]; omega)).mono ?_; rintro e w1 ⟨v', rfl, hr1, hb1⟩; obtain ⟨a1, c1, rfl⟩ := hr1.form; have R1 := hid hr1; have B1 := hid (show Bw w w1 from Bw.trans (by repeat (first | exact Bw.refl _ | apply Bw.alloc | apply Bw.drewN | apply Bw.drew)) hb1); have P0 := hid (Blk.bw (Blk.alloc (Blk.alloc (Blk.new w #[.int .i64 H.1, .slice ah H.2.length ch] 32) _) _) hb1); have y0 : w1.cell? ⟨w.heap.size, 0, none⟩ = some (.int .i64 H.1) := P0.out.cell 0; have y1 : w1.cell? ⟨w.heap.size, 1, none⟩ = some (.slice ah H.2.length ch) := P0.out.cell 1; have y2 : w.heap.size < w1.heap.size := P0.out.lt; have P2 := hid (Blk.bw (Blk.newG (g := w.heap.size + 1 + 1) #[.int .i64 0, .slice none 0 0] 32 (by simp only [World.size_alloc])) hb1); have z2 : w1.cell? ⟨w.heap.size + 1 + 1, 0, none⟩ = some (.int .i64 0) := P2.out.cell 0; have z3 : w1.cell? ⟨w.heap.size + 1 + 1, 1, none⟩ = some (.slice none 0 0) := P2.out.cell 1; have f2 : w1.frozen? ⟨w.heap.size + 1 + 1, 0, none⟩ = false := P2.out.free 0; have f3 : w1.frozen? ⟨w.heap.size + 1 + 1, 1, none⟩ = false := P2.out.free 1; have s2 : w.heap.size + 1 + 1 < w1.heap.size := P2.out.lt; clear hr1 hb1)
      | fail)
    refine bodyPost_ret (v := .tuple #[.agg #[.int .i64 H.1, .slice ah H.2.length ch], .int .u64 0, .int .i64 5]) (by simp [results, Tryz.results41, go_sem, *]) rfl ?_
    exact ⟨_, rfl, RdH.whole (g := w.heap.size + 1 + 1) (by repeat (first | exact RdH.below (RdH.part HR.out _ (by omega)) B1.out | apply RdH.put | apply RdH.alloc)), (by repeat (first | exact Bw.refl _ | exact B1.out | apply Bw.alloc | apply Bw.drewN | apply Bw.drew | (refine Bw.setCell ?_ (show w.heap.size ≤ w.heap.size + 1 + 1 by omega) _)))⟩
  · rw [show mF E = 100 by unfold mF; rw [if_neg h0, if_neg h2]]
    have n0 : (E == 0) = false := by simpa using h0
    have n2 : (E == 2) = false := by simpa using h2
    have n3 : (E != 0) = true := by simpa using h0
    clear h0 h2
    go_enter Tryz.func41, Tryz.ntmps41
    go_wp2_with (first
      | (go_at_call 24; refine (HM.out _ (by repeat (first | exact Bw.refl _ | apply Bw.alloc | apply Bw.drewN | apply Bw.drew)) (by simp only [World.size_alloc]; omega)).mono ?_; rintro e w1 ⟨v', rfl, hr1, hb1⟩; obtain ⟨a1, c1, rfl⟩ := hr1.form; have R1 := hid hr1; have B1 := hid (show Bw w w1 from Bw.trans (by repeat (first | exact Bw.refl _ | apply Bw.alloc | apply Bw.drewN | apply Bw.drew)) hb1); have P0 := hid (Blk.bw (Blk.alloc (Blk.alloc (Blk.new w #[.int .i64 H.1, .slice ah H.2.length ch] 32) _) _) hb1); have y0 : w1.cell? ⟨w.heap.size, 0, none⟩ = some (.int .i64 H.1) := P0.out.cell 0; have y1 : w1.cell? ⟨w.heap.size, 1, none⟩ = some (.slice ah H.2.length ch) := P0.out.cell 1; have y2 : w.heap.size < w1.heap.size := P0.out.lt; have P2 := hid (Blk.bw (Blk.newG (g := w.heap.size + 1 + 1) #[.int .i64 0, .slice none 0 0] 32 (by simp only [World.size_alloc])) hb1); have z2 : w1.cell? ⟨w.heap.size + 1 + 1, 0, none⟩ = some (.int .i64 0) := P2.out.cell 0; have z3 : w1.cell? ⟨w.heap.size + 1 + 1, 1, none⟩ = some (.slice none 0 0) := P2.out.cell 1; have f2 : w1.frozen? ⟨w.heap.size + 1 + 1, 0, none⟩ = false := P2.out.free 0; have f3 : w1.frozen? ⟨w.heap.size + 1 + 1, 1, none⟩ = false := P2.out.free 1; have s2 : w.heap.size + 1 + 1 < w1.heap.size := P2.out.lt; clear hr1 hb1)
      | fail)
    refine bodyPost_ret (v := .tuple #[.agg #[.int .i64 H.1, .slice ah H.2.length ch], .int .u64 0, .int .i64 100]) (by simp [results, Tryz.results41, go_sem, *]) rfl ?_
    exact ⟨_, rfl, RdH.whole (g := w.heap.size + 1 + 1) (by repeat (first | exact RdH.below (RdH.part HR.out _ (by omega)) B1.out | apply RdH.put | apply RdH.alloc)), (by repeat (first | exact Bw.refl _ | exact B1.out | apply Bw.alloc | apply Bw.drewN | apply Bw.drew | (refine Bw.setCell ?_ (show w.heap.size ≤ w.heap.size + 1 + 1 by omega) _)))⟩

end

end Go.Proofs.YtjcoifdfemejkaaGreatDoor

set_option linter.unusedSimpArgs false
set_option linter.unusedVariables false
namespace Go.Proofs.YtjcoifdfemejkaaGreatDoor
open Go Go.RowKit

theorem swrap_lo (q : Int) (h0 : 0 ≤ q) (h1 : q < 4611686018427387904) : wrap64 ((IntKind.u64.wrap q).tmod 4611686018427387904) = q := by
  rw [IntKind.wrap_u64, tmod_of_emod]; unfold wrap64; omega

set_option maxHeartbeats 400000 in
theorem srwrap_any (q : Int) (h0 : 0 ≤ q) (h1 : q < 4611686018427387904) (w : World) :
    Calls Tryz.prog 123 #[.int .i64 q] w fun e w' => e = .returned (.int .i64 (nm (4 * q))) ∧ w' = w := by
  have hw := swrap_lo q h0 h1
  go_enter Tryz.func123, Tryz.ntmps123
  go_wp2
  all_goals
    go_ret
    refine ⟨ret_int ?_, rfl⟩
    clear hw
    unfold nm
    omega

set_option maxHeartbeats 400000 in
theorem srnum_any (v : Int) (hv : U v) (w : World) :
    Calls Tryz.prog 92 #[.int .u64 v] w fun e w' => e = .returned (.tuple #[.int .i64 (numV v), .bool (isN v)]) ∧ w' = w := by
  have h0 : 0 ≤ v := hv.1
  have h1 : v / 4 < 4611686018427387904 := by have := hv.2; omega
  by_cases hn : v % 4 = 0
  · have hb : (v % 4 != 0) = false := by simpa using hn
    go_enter Tryz.func92, Tryz.ntmps92
    go_wp2_with (go_at_call 123; refine (srwrap_any _ (by omega) (by omega) _).mono ?_; rintro e w' ⟨rfl, rfl⟩)
    go_ret2
    refine ⟨ret_ib ?_ ?_, rfl⟩
    · rw [numV, if_pos hn, show 4 * (v / 4) = v by omega]
    · exact (decide_eq_true hn).symm
  · have hb : (v % 4 != 0) = true := by simpa using hn
    go_enter Tryz.func92, Tryz.ntmps92
    go_wp2_with fail
    go_ret2
    refine ⟨ret_ib ?_ ?_, rfl⟩
    · rw [numV, if_neg hn]
    · exact (decide_eq_false hn).symm

set_option maxHeartbeats 400000 in
theorem srbool_any (b : Bool) (w : World) :
    Calls Tryz.prog 33 #[.bool b] w fun e w' => e = .returned (.int .u64 (bv b)) ∧ w' = w := by
  cases b
  all_goals
    go_enter Tryz.func33, Tryz.ntmps33
    go_wp2
    go_ret
    exact ⟨rfl, rfl⟩

set_option maxHeartbeats 400000 in
theorem srless_any (a b : Int) (ha : U a) (hb : U b) (w : World) :
    Calls Tryz.prog 36 #[.int .u64 a, .int .u64 b] w fun e w' => e = .returned (.tuple #[.bool (lessV a b), .int .i64 (er a b)]) ∧ w' = w := by
  by_cases na : a % 4 = 0
  all_goals by_cases nb : b % 4 = 0
  · have ia : isN a = true := decide_eq_true na
    have ib : isN b = true := decide_eq_true nb
    have fin : lessV a b = decide (numV a < numV b) := by simp [lessV, ltB, numV, na, nb]
    have fin' : er a b = 0 := if_pos ⟨na, nb⟩
    rw [fin, fin']; clear fin fin' na nb
    go_enter Tryz.func36, Tryz.ntmps36
    go_wp2_with (go_at_call 92; refine (srnum_any _ (by assumption) _).mono ?_; rintro e w' ⟨rfl, rfl⟩)
    go_ret2
    exact ⟨rfl, rfl⟩
  · have ia : isN a = true := decide_eq_true na
    have ib : isN b = false := decide_eq_false nb
    have fin : lessV a b = false := if_neg (fun h => nb h.2)
    have fin' : er a b = 8 := if_neg (fun h => nb h.2)
    rw [fin, fin']; clear fin fin' na nb
    go_enter Tryz.func36, Tryz.ntmps36
    go_wp2_with (go_at_call 92; refine (srnum_any _ (by assumption) _).mono ?_; rintro e w' ⟨rfl, rfl⟩)
    go_ret2
    exact ⟨rfl, rfl⟩
  all_goals
    have ia : isN a = false := decide_eq_false na
    have fin : lessV a b = false := if_neg (fun h => na h.1)
    have fin' : er a b = 8 := if_neg (fun h => na h.1)
    rw [fin, fin']; clear fin fin' na nb
    go_enter Tryz.func36, Tryz.ntmps36
    go_wp2_with (go_at_call 92; refine (srnum_any _ (by assumption) _).mono ?_; rintro e w' ⟨rfl, rfl⟩)
    go_ret2
    exact ⟨rfl, rfl⟩

theorem srnum_yes (v : Int) (hv : U v) (hn : N v) (w : World) :
    Calls Tryz.prog 92 #[.int .u64 v] w fun e w' => e = .returned (.tuple #[.int .i64 (nm v), .bool true]) ∧ w' = w := by
  have h := srnum_any v hv w
  rw [show numV v = nm v from if_pos hn, show isN v = true from decide_eq_true hn] at h
  exact h

set_option maxHeartbeats 400000 in
theorem srdo_add (a b : Int) (ha : U a) (hb : U b) (na : N a) (nb : N b) (w : World) :
    Calls Tryz.prog 38 #[.int .i64 0, .int .u64 a, .int .u64 b] w fun e w' => e = .returned (.tuple #[.int .u64 (mk (nm a + nm b)), .int .i64 0]) ∧ w' = w := by
  have b1 := nm_bd a
  have b2 := nm_bd b
  go_enter Tryz.func38, Tryz.ntmps38
  go_wp2_with (first | (go_at_call 92; refine (srnum_yes _ (by assumption) (by assumption) _).mono ?_; rintro e w' ⟨rfl, rfl⟩) | (go_at_call 93; refine (rint_any _ _).mono ?_; rintro e w' ⟨rfl, rfl⟩))
  go_ret2
  refine ⟨ret_ii ?_ rfl, rfl⟩
  exact congrArg mk (by omega)

set_option maxHeartbeats 400000 in
theorem srdo_sub (a b : Int) (ha : U a) (hb : U b) (na : N a) (nb : N b) (w : World) :
    Calls Tryz.prog 38 #[.int .i64 1, .int .u64 a, .int .u64 b] w fun e w' => e = .returned (.tuple #[.int .u64 (mk (nm a - nm b)), .int .i64 0]) ∧ w' = w := by
  have b1 := nm_bd a
  have b2 := nm_bd b
  go_enter Tryz.func38, Tryz.ntmps38
  go_wp2_with (first | (go_at_call 92; refine (srnum_yes _ (by assumption) (by assumption) _).mono ?_; rintro e w' ⟨rfl, rfl⟩) | (go_at_call 93; refine (rint_any _ _).mono ?_; rintro e w' ⟨rfl, rfl⟩))
  go_ret2
  refine ⟨ret_ii ?_ rfl, rfl⟩
  exact congrArg mk (by omega)

set_option maxHeartbeats 400000 in
theorem srdo_mul (a b : Int) (ha : U a) (hb : U b) (na : N a) (nb : N b) (w : World) :
    Calls Tryz.prog 38 #[.int .i64 2, .int .u64 a, .int .u64 b] w fun e w' => e = .returned (.tuple #[.int .u64 (mk (nm a * nm b)), .int .i64 0]) ∧ w' = w := by
  have b1 := nm_bd a
  have b2 := nm_bd b
  go_enter Tryz.func38, Tryz.ntmps38
  go_wp2_with (first | (go_at_call 92; refine (srnum_yes _ (by assumption) (by assumption) _).mono ?_; rintro e w' ⟨rfl, rfl⟩) | (go_at_call 93; refine (rint_any _ _).mono ?_; rintro e w' ⟨rfl, rfl⟩))
  go_ret2
  refine ⟨ret_ii ?_ rfl, rfl⟩
  exact mk_wrap64 _

theorem srest_eq (x y : Int) : mk (wrap64 (x - wrap64 (wrap64 (x.tdiv y) * y))) = mk (rest x y) := by
  have hq : ∃ k, wrap64 (x.tdiv y) = x.tdiv y + 18446744073709551616 * k := ⟨-((x.tdiv y + 9223372036854775808) / 18446744073709551616), by unfold wrap64; omega⟩
  obtain ⟨k, hk⟩ := hq
  have hr : rest x y = x - x.tdiv y * y := by unfold rest; rw [Int.tmod_def, Int.mul_comm]
  rw [mk_wrap64, hk, hr, Int.add_mul, Int.mul_assoc]
  generalize x.tdiv y * y = p
  generalize k * y = j
  unfold mk wrap64; omega

set_option maxHeartbeats 400000 in
theorem srdo_div (a b : Int) (ha : U a) (hb : U b) (na : N a) (nb : N b) (hz : ¬ nm b = 0) (w : World) :
    Calls Tryz.prog 38 #[.int .i64 3, .int .u64 a, .int .u64 b] w fun e w' => e = .returned (.tuple #[.int .u64 (mk (quo (nm a) (nm b))), .int .i64 0]) ∧ w' = w := by
  have b1 := nm_bd a
  have b2 := nm_bd b
  have hzb : (nm b == 0) = false := by simpa using hz
  go_enter Tryz.func38, Tryz.ntmps38
  go_wp2_with (first | (go_at_call 92; refine (srnum_yes _ (by assumption) (by assumption) _).mono ?_; rintro e w' ⟨rfl, rfl⟩) | (go_at_call 93; refine (rint_any _ _).mono ?_; rintro e w' ⟨rfl, rfl⟩))
  go_ret2
  refine ⟨ret_ii ?_ rfl, rfl⟩
  exact mk_wrap64 _

set_option maxHeartbeats 400000 in
theorem srdo_zero3 (a b : Int) (ha : U a) (hb : U b) (na : N a) (nb : N b) (hz : (nm b == 0) = true) (w : World) :
    Calls Tryz.prog 38 #[.int .i64 3, .int .u64 a, .int .u64 b] w fun e w' => e = .returned (.tuple #[.int .u64 0, .int .i64 10]) ∧ w' = w := by
  go_enter Tryz.func38, Tryz.ntmps38
  go_wp2_with (go_at_call 92; refine (srnum_yes _ (by assumption) (by assumption) _).mono ?_; rintro e w' ⟨rfl, rfl⟩)
  go_ret2
  exact ⟨rfl, rfl⟩

set_option maxHeartbeats 400000 in
theorem srdo_mod (a b : Int) (ha : U a) (hb : U b) (na : N a) (nb : N b) (hz : ¬ nm b = 0) (w : World) :
    Calls Tryz.prog 38 #[.int .i64 4, .int .u64 a, .int .u64 b] w fun e w' => e = .returned (.tuple #[.int .u64 (mk (rest (nm a) (nm b))), .int .i64 0]) ∧ w' = w := by
  have b1 := nm_bd a
  have b2 := nm_bd b
  have hzb : (nm b == 0) = false := by simpa using hz
  go_enter Tryz.func38, Tryz.ntmps38
  go_wp2_with (first | (go_at_call 92; refine (srnum_yes _ (by assumption) (by assumption) _).mono ?_; rintro e w' ⟨rfl, rfl⟩) | (go_at_call 93; refine (rint_any _ _).mono ?_; rintro e w' ⟨rfl, rfl⟩))
  go_ret2
  refine ⟨ret_ii ?_ rfl, rfl⟩
  exact srest_eq _ _

set_option maxHeartbeats 400000 in
theorem srdo_zero4 (a b : Int) (ha : U a) (hb : U b) (na : N a) (nb : N b) (hz : (nm b == 0) = true) (w : World) :
    Calls Tryz.prog 38 #[.int .i64 4, .int .u64 a, .int .u64 b] w fun e w' => e = .returned (.tuple #[.int .u64 0, .int .i64 10]) ∧ w' = w := by
  go_enter Tryz.func38, Tryz.ntmps38
  go_wp2_with (go_at_call 92; refine (srnum_yes _ (by assumption) (by assumption) _).mono ?_; rintro e w' ⟨rfl, rfl⟩)
  go_ret2
  exact ⟨rfl, rfl⟩

end Go.Proofs.YtjcoifdfemejkaaGreatDoor

set_option linter.unusedSimpArgs false
set_option linter.unusedVariables false
namespace Go.Proofs.YtjcoifdfemejkaaGreatDoor
open Go Go.RowKit

theorem RdH.drew {w : World} {G : Nat → Prop} {v : Value} {H : AHeap} (h : RdH w G v H) : RdH w.drew G v H := h.below (Bw.drew (Bw.refl _))
theorem Blk.dr {w : World} {g : Nat} {cur : Array Value} {e : TypeId} (h : Blk w g cur e) : Blk w.drew g cur e := h
theorem OL.nils (w : World) (G : Nat → Prop) (k n a b : Int) : OL w G (k, [], [], [], n, a, b) (.slice none 0 0) (.slice none 0 0) (.slice none 0 0) := ⟨Sl.nil _ _ _, Sl.nil _ _ _, Sl.nil _ _ _⟩

section
variable {w w' : World}

set_option maxRecDepth 100000 in
set_option maxHeartbeats 4000000 in
theorem ncplx_any (G : Nat → Prop) (hv : Value) (H : AHeap) (x y : Nat) (hGn : ∀ b, w.heap.size ≤ b → G b) (h : RdH w G hv H) (hm : H.2.length ≤ 1000000) :
    Calls Tryz.prog 44 #[hv, zf x y] w (BD G w (dkR H (oCplx (cn x : Nat) (cn y : Nat)))) := by
  have HM := hid (fun (w1 : World) (hb : Bw w w1) (hs : w.heap.size + 3 ≤ w1.heap.size) => nMake_any (w := w1) (fun b => G b ∧ b ≠ w.heap.size + 1 + 1) (fun _ => True) hv H (oCplx (cn x : Nat) (cn y : Nat)) (.slice none 0 0) (.slice none 0 0) (.slice none 0 0) (fun b h => ⟨hGn b (by omega), by omega⟩) ((h.part _ (by omega)).below hb) (OL.nils _ _ _ _ _ _) (fun v hv => by cases hv) hm (Nat.zero_le _) (Nat.zero_le _) (Nat.zero_le _))
  obtain ⟨ah, ch, rfl⟩ := h.form
  clear h hGn hm
  unfold BD at HM ⊢
  unfold objV oCplx at HM
  simp only [AObj.kind, AObj.num, AObj.re, AObj.im, AObj.bytes, AObj.vals, AObj.keys] at HM
  unfold oCplx
  generalize dkR H (6, [], [], [], 0, ((cn x : Nat) : Int), ((cn y : Nat) : Int)) = R at HM ⊢
  obtain ⟨V, F, H'⟩ := R
  simp only at HM ⊢
  go_enter Tryz.func44, Tryz.ntmps44
  go_wp2
  go_region_held3 (fun w' => w'.cell? ⟨w.heap.size, 0, none⟩ = some (.int .i64 H.1) ∧ w'.cell? ⟨w.heap.size, 1, none⟩ = some (.slice ah H.2.length ch) ∧ w'.cell? ⟨w.heap.size + 1, 0, none⟩ = some (.float .f64 x) ∧ w'.cell? ⟨w.heap.size + 1, 1, none⟩ = some (.float .f64 y)) (first | (simp [go_sem, *]; done)) (first
    | (go_at_call_of 96 (Value.float .f64 x); refine (gtold_any x _).mono ?_; rintro e w' ⟨rfl, hw'⟩; subst w')
    | (go_at_call_of 96 (Value.float .f64 y); refine (gtold_any y _).mono ?_; rintro e w' ⟨rfl, hw'⟩; subst w')
    | (go_at_call 41; refine (HM.out _ (by repeat (first | exact Bw.refl _ | apply Bw.alloc | apply Bw.drewN | apply Bw.drew)) (by simp)).mono ?_; rintro e w1 ⟨v', rfl, hr1, hb1⟩; obtain ⟨a1, c1, rfl⟩ := hr1.form; have R1 := hid hr1; have B1 := hid (show Bw w w1 from Bw.trans (by repeat (first | exact Bw.refl _ | apply Bw.alloc | apply Bw.drewN | apply Bw.drew)) hb1); have P0 := hid (show Blk w1 w.heap.size #[.int .i64 H.1, .slice ah H.2.length ch] 32 from (by refine Blk.bw ?_ hb1; repeat (first | exact Blk.newG _ _ (by simp) | apply Blk.alloc | apply Blk.dr))); have y0 : w1.cell? ⟨w.heap.size, 0, none⟩ = some (.int .i64 H.1) := P0.out.cell 0; have y1 : w1.cell? ⟨w.heap.size, 1, none⟩ = some (.slice ah H.2.length ch) := P0.out.cell 1; have y2 : w.heap.size < w1.heap.size := P0.out.lt; have P1 := hid (show Blk w1 (w.heap.size + 1) #[.float .f64 x, .float .f64 y] 87 from (by refine Blk.bw ?_ hb1; repeat (first | exact Blk.newG _ _ (by simp) | apply Blk.alloc | apply Blk.dr))); have y3 : w1.cell? ⟨w.heap.size + 1, 0, none⟩ = some (.float .f64 x) := P1.out.cell 0; have y4 : w1.cell? ⟨w.heap.size + 1, 1, none⟩ = some (.float .f64 y) := P1.out.cell 1; have y5 : w.heap.size + 1 < w1.heap.size := P1.out.lt; have P2 := hid (show Blk w1 (w.heap.size + 1 + 1) #[.int .i64 0, .slice none 0 0] 32 from (by refine Blk.bw ?_ hb1; repeat (first | exact Blk.newG _ _ (by simp) | apply Blk.alloc | apply Blk.dr))); have z2 : w1.cell? ⟨w.heap.size + 1 + 1, 0, none⟩ = some (.int .i64 0) := P2.out.cell 0; have z3 : w1.cell? ⟨w.heap.size + 1 + 1, 1, none⟩ = some (.slice none 0 0) := P2.out.cell 1; have f2 : w1.frozen? ⟨w.heap.size + 1 + 1, 0, none⟩ = false := P2.out.free 0; have f3 : w1.frozen? ⟨w.heap.size + 1 + 1, 1, none⟩ = false := P2.out.free 1; have s2 : w.heap.size + 1 + 1 < w1.heap.size := P2.out.lt; clear hr1 hb1)
    | fail)
  all_goals go_wp2
  all_goals refine bodyPost_ret (v := .tuple #[.agg #[.int .i64 H'.1, .slice a1 H'.2.length c1], .int .u64 V, .int .i64 F]) (by simp [results, Tryz.results44, go_sem, *]) rfl ?_
  all_goals exact ⟨_, rfl, RdH.whole (g := w.heap.size + 1 + 1) (by repeat (first | exact R1.out | apply RdH.put | apply RdH.alloc | apply RdH.drew)), (by repeat (first | exact Bw.refl _ | exact B1.out | apply Bw.alloc | apply Bw.drewN | apply Bw.drew | (refine Bw.setCell ?_ (show w.heap.size ≤ w.heap.size + 1 + 1 by omega) _)))⟩

end

end Go.Proofs.YtjcoifdfemejkaaGreatDoor

