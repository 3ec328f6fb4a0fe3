/- The program's profile and the document's, side by side. -/
import Derived.Test.YtfkcbioefdkabaaQh
set_option linter.unusedSimpArgs false
set_option linter.unusedVariables false
namespace Go.Proofs.Ytfkcbioefdkabaa
open Go Go.RowKit

/-- What telling may change: the program's rows and map, the document's variable. -/
abbrev PP.bb (q : PP) (B : Nat) : List Nat := [q.hb, q.wb, q.mb, B]

/-- The program's profile at q and the document's in the variable B, to both of which L was told. -/
structure DW (w wr : World) (q : PP) (F G B : Nat) (vL : Value) (L : List AA) : Prop where
  bw : Bw w wr
  ps : PS wr q.p q.hb q.wb q.mb F G L
  box : Blk wr B #[.int .i64 F, .int .i64 G, vL] 29
  rl : RLs wr (fun b => b ∉ q.bb B) vL L
  pair : PairOk L
  nB : B ∉ q.all
  qa : ∀ x ∈ q.bb B, w.heap.size ≤ x

section
variable {w wr w1 w2 w3 : World} {q : PP} {F G B : Nat} {vL v' : Value} {L : List AA}

theorem DW.next (h : DW w wr q F G B vL L) (k : Bw wr w1) : DW w w1 q F G B vL L := ⟨h.bw.trans k, h.ps.bw k, h.box.bw k, h.rl.bw k, h.pair, h.nB, h.qa⟩

theorem DW.lts (h : DW w wr q F G B vL L) : ∀ x ∈ q.bb B, x < wr.heap.size := by
  obtain ⟨l1, l2, l3, l4⟩ := h.ps.lts
  intro x hx
  simp at hx
  rcases hx with rfl | rfl | rfl | rfl
  · exact l2
  · exact l3
  · exact l4
  · exact h.box.lt

theorem pair_told {x : AA} (h : PairOk L) : PairOk (tellL F G L x) := by
  unfold tellL
  split
  · rename_i hk
    intro y hy hd
    rcases List.mem_append.1 hy with hy | hy
    · exact h y hy hd
    · obtain rfl := List.mem_singleton.1 hy
      unfold okT at hk
      rw [if_pos hd] at hk
      have := of_decide_eq_true hk
      omega
  · exact h

/-- Behind a tell of the program's. -/
theorem DW.mid (h : DW w wr q F G B vL L) (k : Ex q.bs wr w1) : Bw w w1 ∧ Blk w1 B #[.int .i64 F, .int .i64 G, vL] 29 ∧ RLs w1 (fun b => b ∉ q.bb B) vL L := by
  refine ⟨h.bw.ex k (fun x hx => h.qa x (by simp at hx ⊢; omega)), h.box.ex k (fun hm => h.nB (by simp at hm ⊢; omega)), h.rl.ex (k.mono (fun x hx => by simp at hx ⊢; omega))⟩

theorem DW.tell (h : DW w wr q F G B vL L) (x : AA) (k : Ex q.bs wr w1) (hp : PS w1 q.p q.hb q.wb q.mb F G (tellL F G L x)) (k2 : Bw w1 w2) (hr : RLs w2 (fun b => b ∉ q.bb B ∨ w1.heap.size ≤ b) v' (tellL F G L x)) (k3 : Bw w2 w3) :
    DW w (((w3.setCell ⟨B, 0, none⟩ (.int .i64 F)).setCell ⟨B, 1, none⟩ (.int .i64 G)).setCell ⟨B, 2, none⟩ v') q F G B v' (tellL F G L x) := by
  obtain ⟨m1, m2, m3⟩ := h.mid k
  have hlt := h.lts
  have hs1 := k.size
  have hB := h.qa B (by simp)
  have hr3 : RLs w3 (fun b => b ∉ q.bb B) v' (tellL F G L x) := (hr.imp (fun b _ hG => by
    rcases hG with hG | hG
    · exact hG
    · intro hm
      have := hlt b hm
      omega)).bw k3
  have hex : Ex [B] w3 (((w3.setCell ⟨B, 0, none⟩ (.int .i64 F)).setCell ⟨B, 1, none⟩ (.int .i64 G)).setCell ⟨B, 2, none⟩ v') := Ex.set (Ex.set (Ex.set (Ex.refl _ _) (.inl (by simp)) _ _) (.inl (by simp)) _ _) (.inl (by simp)) _ _
  have hbx := (m2.bw k2).bw k3
  refine ⟨Bw.setCell (Bw.setCell (Bw.setCell ((m1.trans k2).trans k3) hB _) hB _) hB _, ((hp.bw k2).bw k3).ex hex (fun b hb hm => h.nB (by simp at hm; subst hm; exact hb)), ?_, hr3.ex (hex.mono (fun x hx => by simp at hx ⊢; omega)), pair_told h.pair, h.nB, h.qa⟩
  exact ((hbx.set 0 _).set 1 _).set 2 _

theorem DW.cells (h : DW w wr q F G B vL L) : B < wr.heap.size ∧ wr.cell? ⟨B, 0, none⟩ = some (.int .i64 F) ∧ wr.cell? ⟨B, 1, none⟩ = some (.int .i64 G) ∧ wr.cell? ⟨B, 2, none⟩ = some vL ∧ ∀ j, wr.frozen? ⟨B, j, none⟩ = false :=
  ⟨h.box.lt, h.box.cell 0, h.box.cell 1, h.box.cell 2, h.box.free⟩
end

theorem DW.made {w w1 w2 : World} {p hb wb mb F G : Nat} (k1 : Bw w w1) (s1 : PS w1 p hb wb mb F G []) (o1 : w.heap.size ≤ p ∧ w.heap.size ≤ hb ∧ w.heap.size ≤ wb ∧ w.heap.size ≤ mb) (k2 : Bw w1 w2) :
    DW w (w2.alloc (.cells #[.int .i64 F, .int .i64 G, .slice none 0 0] 29)) ⟨p, hb, wb, mb⟩ F G w2.heap.size (.slice none 0 0) [] := by
  obtain ⟨l1, l2, l3, l4⟩ := s1.lts
  have hs1 := k1.size
  have hs2 := k2.size
  refine ⟨Bw.alloc (k1.trans k2) _, (s1.bw k2).bw (Bw.alloc (Bw.refl _) _), Blk.new _ _ _, RLs.nil _ _, fun x hx => by simp at hx, by simp; omega, fun x hx => by simp at hx; omega⟩

theorem nrm_04 {x : AA} (h : 0 ≤ x.d ∧ x.d ≤ 4) : nrm x = x := by
  unfold nrm
  by_cases h3 : 0 ≤ x.d ∧ x.d ≤ 3
  · rw [if_pos h3]
  · rw [if_neg h3]
    have : x.d = 4 := by omega
    obtain ⟨d, f, t, a, b, v⟩ := x
    simp only at this
    subst this
    rfl

/-- A row that one may write over. -/
def OwnB (w : World) (base : Nat) (e : TypeId) (size : Nat) (v : Value) (n : Nat) : Prop := n = 0 ∨ ∃ g cap cur, v = .slice (some ⟨g, 0, none⟩) n cap ∧ base ≤ g ∧ Blk w g cur e ∧ n * size ≤ cur.size

theorem own_ownB {w : World} {base : Nat} {e : TypeId} {size : Nat} {v : Value} {n : Nat} {xs : List Value} (h : w.ownsRow base e size v n xs) : OwnB w base e size v n := by
  rcases h.2 with ⟨_, rfl⟩ | ⟨g, cap, cur, e1, hb, hg, hnc, hm, hs, htake⟩
  · exact .inl rfl
  · refine .inr ⟨g, cap, cur, e1, hb, hg, ?_⟩
    have h1 := h.1
    rw [← htake, List.length_take] at h1
    simp at h1
    omega

end Go.Proofs.Ytfkcbioefdkabaa
