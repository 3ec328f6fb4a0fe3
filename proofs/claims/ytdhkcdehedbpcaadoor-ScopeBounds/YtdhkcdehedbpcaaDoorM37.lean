/- The place behind a node: the document's own recursion. · Lists of nodes that were handed in: for the statements' frames. -/
import Derived.Test.YtdhkcdehedbpcaaDoorM21
import Derived.Test.YtdhkcdehedbpcaaDoorM22
set_option linter.unusedSimpArgs false
set_option linter.unusedVariables false
namespace Go.Proofs.YtdhkcdehedbpcaaDoor
open Go Go.RowKit

set_option maxRecDepth 100000 in
set_option maxHeartbeats 4000000 in
theorem rbehind_out (g off cap : Nat) (L : List ANode) (at_ : Int) (h0 : at_ < 0 ∨ (L.length : Int) ≤ at_) (w : World) :
    Calls Tryd.prog 33 #[.slice (some ⟨g, off, none⟩) L.length cap, .int .i64 at_] w fun e w' => e = .returned (.tuple #[.int .i64 0, .int .i64 1]) ∧ w' = w := by
  by_cases h1 : at_ < 0
  · clear h0
    go_enter Tryd.func33, Tryd.ntmps33
    go_wp2
    all_goals go_ret2
    all_goals exact ⟨rfl, rfl⟩
  · have h2 : (L.length : Int) ≤ at_ := by omega
    clear h0
    go_enter Tryd.func33, Tryd.ntmps33
    go_wp2
    all_goals go_ret2
    all_goals exact ⟨rfl, rfl⟩

/-- One node more is gone over. -/
theorem cns_one (K : List Nat) (k n : Nat) : (cns (K.drop k) (n + 1)).map (k + ·) = ((cns (K.drop k) 1).map (k + ·)).bind fun k' => (cns (K.drop k') n).map (k' + ·) := by
  rw [show n + 1 = 1 + n by omega, cns_add]
  cases cns (K.drop k) 1 with
  | none => rfl
  | some m =>
    simp only [Option.map_some, Option.bind_some, List.drop_drop]
    cases cns (K.drop (k + m)) n <;> simp <;> omega

theorem bhP_lt {L : List ANode} {k k' : Nat} (h : bhP L k = some k') : k < k' ∧ (k ≤ L.length → k' ≤ L.length) := by
  unfold bhP at h
  cases hc : cns ((kidsN L).drop k) 1 with
  | none => rw [hc] at h; simp at h
  | some m =>
    rw [hc] at h
    simp at h
    have q := cns_le _ _ _ hc
    have q2 : ((kidsN L).drop k).length = L.length - k := by simp [kidsN]
    omega

set_option maxRecDepth 100000 in
set_option maxHeartbeats 4000000 in
theorem rbehind_any (g off cap : Nat) (L : List ANode) (hl : L.length ≤ 1000) (w : World) (h : L.length = 0 ∨ NM w g off L) : ∀ (n : Nat) (at_ : Int) (ha : -9223372036854775808 ≤ at_ ∧ at_ ≤ 9223372036854775807) (hn : L.length ≤ at_.toNat + n),
    Calls Tryd.prog 33 #[.slice (some ⟨g, off, none⟩) L.length cap, .int .i64 at_] w fun e w' => e = .returned (.tuple #[.int .i64 (bhV L at_).1, .int .i64 (bhV L at_).2]) ∧ w' = w := by
  intro n
  induction n with
  | zero =>
    intro at_ ha hn
    have h0 : at_ < 0 ∨ (L.length : Int) ≤ at_ := by omega
    rw [show bhV L at_ = (0, 1) from if_pos h0]
    exact rbehind_out g off cap L at_ h0 w
  | succ n ih =>
  intro at_ ha hn
  by_cases h0 : at_ < 0 ∨ (L.length : Int) ≤ at_
  · rw [show bhV L at_ = (0, 1) from if_pos h0]
    exact rbehind_out g off cap L at_ h0 w
  · obtain ⟨a0, rfl⟩ : ∃ a : Nat, at_ = (a : Int) := ⟨at_.toNat, by omega⟩
    have hv : bhV L (a0 : Int) = match (cns ((kidsN L).drop a0) 1).map (a0 + ·) with | some k => ((k : Int), 0) | none => (0, 6) := by
      unfold bhV
      rw [if_neg h0]
      rfl
    rw [hv]
    generalize hR : (cns ((kidsN L).drop a0) 1).map (a0 + ·) = R
    have hlt0 : a0 < L.length := by omega
    have HN := h.resolve_left (by omega)
    have ha1 : (0 : Int) ≤ (a0 : Int) := by omega
    have ha2 : (a0 : Int) < (L.length : Int) := by omega
    have c1 := HN.c a0 hlt0
    have c2 := HN.lt
    have c3 := HN.b a0 hlt0
    have hk := kids_drop hlt0
    rw [hk, cns, Nat.zero_add] at hR
    have IH := hid fun (k : Nat) (hk : a0 < k) (hk2 : k ≤ L.length) => ih (k : Int) (by omega) (by omega)
    clear hv h h0 ha ih hk HN
    generalize L[a0].2.1 = N at c1 c3 hR
    have HR : Hid ((cns ((kidsN L).drop (a0 + 1)) N.toNat).map ((a0 + 1) + ·) = R) := hid (by
      rw [← hR]
      cases cns ((kidsN L).drop (a0 + 1)) N.toNat <;> simp <;> omega)
    clear hR
    go_enter Tryd.func33, Tryd.ntmps33
    go_wp2
    rename_i hx9 hK9 ha9
    clear hx9
    go_loopw [6, 7] (fun u v wr => ∃ k i : Nat, u = .int .i64 (k : Int) ∧ v = .int .i64 (i : Int) ∧ i ≤ N.toNat ∧ a0 < k ∧ k ≤ L.length ∧ (cns ((kidsN L).drop k) (N.toNat - i)).map (k + ·) = R ∧ wr = w) (fun _ v _ => N.toNat - (intOf v).toNat)
    case atStart => exact ⟨a0 + 1, 0, by simp, rfl, by omega, by omega, by omega, HR.out, rfl⟩
    case round =>
      clear HR
      obtain ⟨k, i, rfl, rfl, hi, hk1, hk2, hr, hwr⟩ := hrel
      subst hwr
      by_cases hend : N ≤ (i : Int)
      · have e : R = some k := by
          rw [← hr, show N.toNat - i = 0 by omega]
          cases (kidsN L).drop k <;> simp [cns]
        subst e
        clear hr hi hn
        go_wp2
        all_goals go_ret2
        all_goals exact ⟨rfl, rfl⟩
      · have hend2 : (i : Int) < N := by omega
        rw [show N.toNat - i = (N.toNat - (i + 1)) + 1 by omega, cns_one] at hr
        have hr2 : (bhP L k).bind (fun k' => (cns ((kidsN L).drop k') (N.toNat - (i + 1))).map (k' + ·)) = R := hr
        have HC := hid (IH.out k hk1 hk2)
        clear hr hend
        by_cases hkl : k = L.length
        · have e : R = none := by
            rw [← hr2, hkl]
            have e2 : (kidsN L).drop L.length = [] := List.drop_eq_nil_of_le (by simp [kidsN])
            simp only [bhP, e2, cns, Option.map_none, Option.bind_none]
          subst e
          have HC : Hid (Calls Tryd.prog 33 #[.slice (some ⟨g, off, none⟩) L.length cap, .int .i64 (k : Int)] wr fun e w' => e = .returned (.tuple #[.int .i64 0, .int .i64 1]) ∧ w' = wr) := hid (by have q := HC.out; rw [show bhV L (k : Int) = (0, 1) from if_pos (.inr (by omega))] at q; exact q)
          clear hr2 hi hn IH hkl hk1 hk2 hlt0
          go_wp2_with (first
            | (go_at_call 33; refine HC.out.mono ?_; rintro e w1 ⟨rfl, rfl⟩))
          all_goals go_ret2
          all_goals exact ⟨rfl, rfl⟩
        · have hb : bhV L (k : Int) = match bhP L k with | some k => ((k : Int), 0) | none => (0, 6) := by
            unfold bhV
            rw [if_neg (by omega)]
            rfl
          cases hp : bhP L k with
          | none =>
            have e : R = none := by
              rw [← hr2, hp]
              rfl
            subst e
            have HC : Hid (Calls Tryd.prog 33 #[.slice (some ⟨g, off, none⟩) L.length cap, .int .i64 (k : Int)] wr fun e w' => e = .returned (.tuple #[.int .i64 0, .int .i64 6]) ∧ w' = wr) := hid (by have q := HC.out; rw [hb, hp] at q; exact q)
            clear hr2 hi hn IH hb hp hkl hk1 hk2 hlt0
            go_wp2_with (first
              | (go_at_call 33; refine HC.out.mono ?_; rintro e w1 ⟨rfl, rfl⟩))
            all_goals go_ret2
            all_goals exact ⟨rfl, rfl⟩
          | some k' =>
            have q := bhP_lt hp
            rw [hp] at hr2
            have HR := hid (show (cns ((kidsN L).drop k') (N.toNat - (i + 1))).map (k' + ·) = R from hr2)
            have HC : Hid (Calls Tryd.prog 33 #[.slice (some ⟨g, off, none⟩) L.length cap, .int .i64 (k : Int)] wr fun e w' => e = .returned (.tuple #[.int .i64 (k' : Int), .int .i64 0]) ∧ w' = wr) := hid (by have q := HC.out; rw [hb, hp] at q; exact q)
            have HQ := hid (show i + 1 ≤ N.toNat ∧ a0 < k' ∧ k' ≤ L.length from ⟨by omega, by omega, q.2 hk2⟩)
            clear hr2 hi hn IH hb hp q hkl hk1 hk2 hlt0
            go_wp2_with (first
              | (go_at_call 33; refine HC.out.mono ?_; rintro e w1 ⟨rfl, rfl⟩))
            case roundEnd =>
              have q := HQ.out
              refine ⟨⟨k', i + 1, rfl, by simp, q.1, q.2.1, q.2.2, HR.out, trivial⟩, ?_⟩
              simp only [intOf]
              omega

end Go.Proofs.YtdhkcdehedbpcaaDoor

set_option linter.unusedVariables false
set_option linter.unusedSimpArgs false
namespace Go.Proofs.YtdhkcdehedbpcaaDoor
open Go.ChangeShapes Go.WideShapes Go.ChangeAt Go.RowKit

/-- A node's fields are such as there are. -/
def NdOk (n : ANode) : Prop :=
  (-9223372036854775808 ≤ n.1 ∧ n.1 ≤ 9223372036854775807) ∧ (-9223372036854775808 ≤ n.2.1 ∧ n.2.1 ≤ 9223372036854775807) ∧ ((∀ c ∈ n.2.2.1, 0 ≤ c ∧ c ≤ 255) ∧ n.2.2.1.length ≤ maxLen) ∧ (-9223372036854775808 ≤ n.2.2.2.1 ∧ n.2.2.2.1 ≤ 9223372036854775807) ∧ (-9223372036854775808 ≤ n.2.2.2.2 ∧ n.2.2.2.2 ≤ 9223372036854775807)

/-- A list of nodes in memory. -/
def NA (w : World) (a : Option Addr) (L : List ANode) : Prop :=
  ∀ i (hi : i < L.length), ∃ b off, a = some ⟨b, off, none⟩ ∧ b < w.heap.size ∧ (∀ j, j < 5 → w.cell? ⟨b, off + (i * 5 + j), none⟩ = (ndV L[i])[j]?) ∧ NdOk L[i]

end Go.Proofs.YtdhkcdehedbpcaaDoor

