/- Lists in memory as plain data: a slice that reads as these cells; that it stays so where its block does; a list appended to one that the call owns. Nothing of the program is in it. -/
import Derived.WalkKit
import Derived.WalkLawsBesides
import Derived.Below
import Derived.OwnWalk
import Derived.Laws.AppendOwn
import Derived.Laws.AppendOwnNone
import Derived.Deep.Draws
set_option linter.unusedSimpArgs false
set_option linter.unusedVariables false
namespace Go.Proofs.Yteeeijbjokkomaa
open Go Go.RowKit

/-- The slice v has n elements of 'size' cells each, the cells cs; they lie in a block of which G holds. -/
def Sl (w : World) (G : Nat → Prop) (v : Value) (n size : Nat) (cs : List Value) : Prop :=
  cs.length = n * size ∧ ∃ a cap, v = .slice a n cap ∧ (n ≤ cap ∧ (a = none → cap = 0)) ∧
    (n = 0 ∨ ∃ b o, a = some ⟨b, o, none⟩ ∧ b < w.heap.size ∧ G b ∧ ∀ i, i < n * size → w.cell? ⟨b, o + i, none⟩ = cs[i]?)

theorem Sl.keep {w w' : World} {G G' : Nat → Prop} {v : Value} {n size : Nat} {cs : List Value} (h : Sl w G v n size cs)
    (hs : w.heap.size ≤ w'.heap.size) (hb : ∀ b, b < w.heap.size → G b → w'.heap[b]? = w.heap[b]?) (hG : ∀ b, b < w.heap.size → G b → G' b) : Sl w' G' v n size cs := by
  obtain ⟨hl, a, cap, rfl, hn, h⟩ := h
  refine ⟨hl, a, cap, rfl, hn, ?_⟩
  rcases h with h | ⟨b, o, rfl, hlt, hg, hc⟩
  · exact .inl h
  · refine .inr ⟨b, o, rfl, by omega, hG b hlt hg, fun i hi => ?_⟩
    rw [← hc i hi]
    exact World.cell?_of_block (w := w) (w' := w') (a := ⟨b, o + i, none⟩) (hb b hlt hg)

theorem Sl.below {w w' : World} {G : Nat → Prop} {v : Value} {n size : Nat} {cs : List Value} (h : Sl w G v n size cs) (hb : Below w.heap.size w w') : Sl w' G v n size cs :=
  h.keep hb.size (fun b hlt _ => hb.block b hlt) (fun _ _ g => g)

theorem Sl.nil (w : World) (G : Nat → Prop) (size : Nat) : Sl w G (.slice none 0 0) 0 size [] := ⟨by simp, none, 0, rfl, ⟨Nat.le_refl _, fun _ => rfl⟩, .inl rfl⟩

theorem own_sl {w : World} {G : Nat → Prop} {base : Nat} {e : TypeId} {size : Nat} {v : Value} {n : Nat} {xs : List Value}
    (h : w.ownsRow base e size v n xs) (hG : ∀ b, base ≤ b → G b) : Sl w G v n size xs := by
  refine ⟨h.1, ?_⟩
  rcases h.2 with ⟨rfl, rfl⟩ | ⟨g, cap, cur, rfl, hb, hg, hnc, hm, hsz, htake⟩
  · exact ⟨none, 0, rfl, ⟨Nat.le_refl _, fun _ => rfl⟩, .inl rfl⟩
  · refine ⟨_, cap, rfl, ⟨hnc, fun k => (by cases k)⟩, .inr ⟨g, 0, rfl, (Array.getElem?_eq_some_iff.1 hg).1, hG g hb, fun i hi => ?_⟩⟩
    rw [cell_of_row w g (0 + i) cur e (0, 0) hg, ← htake, List.getElem?_take, if_pos hi]
    simp

/-- The cell of an element. -/
theorem Sl.form {w : World} {G : Nat → Prop} {v : Value} {n size : Nat} {cs : List Value} (h : Sl w G v n size cs) : ∃ a cap, v = .slice a n cap := by
  obtain ⟨_, a, cap, rfl, _, _⟩ := h
  exact ⟨a, cap, rfl⟩

theorem grown_refl (w : World) (row : Option Nat) : w.grownBy w row := ⟨rfl, rfl, rfl, Nat.le_refl _, fun _ _ _ => rfl⟩

section
variable {P : Program} (w : World)
/-- append(s, x...), s the call's own, x any list that reads as 'news'. -/
theorem wpList_append_sl {G : Nat → Prop} {ops : Array Oper} {rest : List Oper} {o : Oper} {a : Act} {Q : Exit → Act → World → Prop} (hgd : o.guard = none) (s x : Operand) (t : TypeId)
    (ho : o.op = .call { callee := .builtin .append, args := #[s, x], argTypes := #[t, t] })
    (base : Nat) (e : TypeId) (i : TypeInfo) (z : Value) (size bytes : Nat) (ht : P.underlying t = some (.slice e)) (hi : P.info? e = some i) (hz : i.zero = some z)
    (hsize : i.size = size) (hby : i.bytes = bytes) (hzs : z.cells.size = size) (hsz : 0 < size)
    (v : Value) (n : Nat) (xs : List Value) (hs : a.eval s = v) (hown : w.ownsRow base e size v n xs)
    (xv : Value) (m : Nat) (news : List Value) (hx : a.eval x = xv) (hsl : Sl w G xv m size news) (h1 : ∀ u ∈ news, u.oneCell' = true)
    (h63 : n + m ≤ maxLen) (hbytes : (n + m) * bytes ≤ 140737488355328) (hbase : base ≤ w.heap.size)
    (h : ∀ v' w', w'.ownsRow base e size v' (n + m) (xs ++ news) → w.grownBy w' v.ownBlock → wpList P ops Q rest (a.put o.dst v') w') : wpList P ops Q (o :: rest) a w := by
  obtain ⟨hl, ad, cap, rfl, hn, hc⟩ := hsl
  cases ad with
  | none =>
    obtain rfl : cap = 0 := hn.2 rfl
    obtain rfl : m = 0 := by have := hn.1; omega
    have hnews : news = [] := List.eq_nil_of_length_eq_zero (by simpa using hl)
    subst hnews
    refine wpList_append_own_none hgd s x t ho base e i size ht hi v n xs hs hown hx ?_
    exact h v w (by simpa using hown) (grown_refl w _)
  | some ad =>
    refine wpList_append_own w hgd s x t ho base e i z size bytes ht hi hz hsize hby hzs hsz v n xs hs hown ad m cap news hx hl ?_ h1 h63 hbytes hbase fun v' w' h2 h3 _ => h v' w' h2 h3
    intro j u hj
    have hjl : j < news.length := (List.getElem?_eq_some_iff.1 hj).1
    rcases hc with rfl | ⟨b, off, he, hlt, hg, hcs⟩
    · have h0 : news.length = 0 := by rw [hl]; omega
      omega
    · cases he
      have e1 : (⟨b, off, none⟩ : Addr).add j = ⟨b, off + j, none⟩ := by
        unfold Addr.add
        split
        · rename_i h0; subst h0; rfl
        · rfl
      rw [e1, hcs j (by omega), hj]
end

end Go.Proofs.Yteeeijbjokkomaa
