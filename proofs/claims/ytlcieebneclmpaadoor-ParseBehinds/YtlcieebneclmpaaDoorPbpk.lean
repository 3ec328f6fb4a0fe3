/- The place behind a node: the program's and the document's calls. -/
import Derived.Test.YtlcieebneclmpaaDoorK1
import Derived.Test.YtlcieebneclmpaaDoorK4
set_option linter.unusedSimpArgs false
set_option linter.unusedVariables false
namespace Go.Proofs.YtlcieebneclmpaaDoor
open Go Go.RowKit

/-- A list of nodes that was handed in: what its nodes are made of can be read. -/
structure NM (w : World) (g off : Nat) (L : List ANode) : Prop where
  lt : g < w.heap.size
  c : ∀ i (hi : i < L.length), w.cell? ⟨g, off + i * 5 + 1, none⟩ = some (.int .i64 L[i].2.1)
  b : ∀ i (hi : i < L.length), -9223372036854775808 ≤ L[i].2.1 ∧ L[i].2.1 ≤ 9223372036854775807

/-- What both answer. -/
def bhV (L : List ANode) (at_ : Int) : Int × Int :=
  if at_ < 0 ∨ (L.length : Int) ≤ at_ then (0, 1) else match bhP L at_.toNat with | some k => ((k : Int), 0) | none => (0, 6)

theorem kids_drop {L : List ANode} {a : Nat} (h : a < L.length) : (kidsN L).drop a = L[a].2.1.toNat :: (kidsN L).drop (a + 1) := by
  unfold kidsN
  rw [List.drop_eq_getElem_cons (by simpa using h)]
  simp

set_option maxRecDepth 100000 in
set_option maxHeartbeats 4000000 in
theorem behind_any (g off cap : Nat) (L : List ANode) (hl : L.length ≤ 500) (at_ : Int) (ha : -9223372036854775808 ≤ at_ ∧ at_ ≤ 9223372036854775807) (w : World) (h : L.length = 0 ∨ NM w g off L) :
    Calls Tryd.prog 13 #[.slice (some ⟨g, off, none⟩) L.length cap, .int .i64 at_] w fun e w' => e = .returned (.tuple #[.int .i64 (bhV L at_).1, .int .i64 (bhV L at_).2]) ∧ w' = w := by
  by_cases h0 : at_ < 0 ∨ (L.length : Int) ≤ at_
  · rw [show bhV L at_ = (0, 1) from if_pos h0]
    by_cases h1 : at_ < 0
    · clear h h0 ha hl
      go_enter Tryd.func13, Tryd.ntmps13
      go_wp2
      all_goals go_ret2
      all_goals exact ⟨rfl, rfl⟩
    · have h2 : (L.length : Int) ≤ at_ := by omega
      clear h h0 ha hl
      go_enter Tryd.func13, Tryd.ntmps13
      go_wp2
      all_goals go_ret2
      all_goals exact ⟨rfl, rfl⟩
  · obtain ⟨a0, rfl⟩ : ∃ a : Nat, at_ = (a : Int) := ⟨at_.toNat, by omega⟩
    have hv : bhV L (a0 : Int) = match (cns ((kidsN L).drop a0) 1).map (a0 + ·) with | some k => ((k : Int), 0) | none => (0, 6) := by
      unfold bhV
      rw [if_neg h0]
      simp [bhP]
    rw [hv]
    generalize hR : (cns ((kidsN L).drop a0) 1).map (a0 + ·) = R
    have HR := hid hR
    have hlt0 : a0 < L.length := by omega
    have HN := hid (h.resolve_left (by omega))
    have ha1 : (0 : Int) ≤ (a0 : Int) := by omega
    have ha2 : (a0 : Int) < (L.length : Int) := by omega
    clear hv h h0 ha hR
    go_enter Tryd.func13, Tryd.ntmps13
    go_wp2
    go_loopw [1, 6] (fun u v wr => ∃ a d : Nat, u = .int .i64 (a : Int) ∧ v = .int .i64 (d : Int) ∧ a + d ≤ L.length ∧ (cns ((kidsN L).drop a) d).map (a + ·) = R ∧ wr = w) (fun u _ _ => L.length - (intOf u).toNat)
    case atStart => exact ⟨a0, 1, rfl, rfl, by omega, HR.out, rfl⟩
    case round =>
      clear HR ha1 ha2 hlt0
      obtain ⟨a, d, rfl, rfl, hle, hr, hwr⟩ := hrel
      subst hwr
      have HR := hid hr
      clear hr
      cases d with
      | zero =>
        have e : R = some a := by rw [← HR.out]; cases (kidsN L).drop a <;> simp [cns]
        subst e
        go_wp2
        all_goals go_ret2
        all_goals exact ⟨rfl, rfl⟩
      | succ d =>
        have hlt : a < L.length := by omega
        have b1 : (0 : Int) ≤ (a : Int) := by omega
        have b2 : (a : Int) < (L.length : Int) := by omega
        have c1 := HN.out.c a hlt
        have c2 := HN.out.lt
        have c3 := HN.out.b a hlt
        have hk := kids_drop hlt
        have HRk := HR.out
        rw [hk, cns] at HRk
        have HB := hid (cns_le ((kidsN L).drop (a + 1)) (d + L[a].2.1.toNat))
        have hdl : ((kidsN L).drop (a + 1)).length = L.length - (a + 1) := by simp [kidsN]
        have HDL := hid hdl
        have HRK := hid HRk
        clear hk HRk hdl
        generalize hN : L[a].2.1 = N at c1 c3 HB HRK
        clear hN
        by_cases hgt : (L.length : Int) - (a : Int) - ((d : Int) + 1) < N
        · have e : R = none := by
            rw [← HRK.out]
            cases hc : cns ((kidsN L).drop (a + 1)) (d + N.toNat) with
            | none => rfl
            | some m =>
              have q := HB.out m hc
              have q2 := HDL.out
              omega
          subst e
          clear HRK HB HDL HR
          go_wp2
          all_goals go_ret2
          all_goals exact ⟨rfl, rfl⟩
        · have hle2 : N ≤ (L.length : Int) - (a : Int) - ((d : Int) + 1) := by omega
          clear hgt HB HDL HR
          go_wp2
          case roundEnd =>
            refine ⟨⟨a + 1, d + N.toNat, by rw [Int.natCast_add]; rfl, ?_, by omega, ?_, trivial⟩, ?_⟩
            · congr 1
              split <;> omega
            · rw [← HRK.out]
              cases cns ((kidsN L).drop (a + 1)) (d + N.toNat) <;> simp <;> omega
            · simp only [intOf]
              omega

end Go.Proofs.YtlcieebneclmpaaDoor

