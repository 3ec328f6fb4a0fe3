/- Rows that were made; appends, with where the row lies. Nothing of the program is in it. -/
import Derived.Test.YteeeijbjokkomaaAp
import Derived.Test.YteeeijbjokkomaaWA
import Derived.Laws.AppendOwnNone
set_option linter.unusedSimpArgs false
set_option linter.unusedVariables false
namespace Go.Proofs.Yteeeijbjokkomaa
open Go Go.RowKit

theorem step_append_any {P : Program} {ops : Array Oper} {o : Oper} {a : Act} {w : World} {K : Act → World → Prop} {Q : Exit → Act → World → Prop} {E : Prop} {G : Nat → Prop}
    (hgd : o.guard = none) (s x : Operand) (t : TypeId) (ho : o.op = Op.call { callee := Callee.builtin Builtin.append, args := #[s, x], argTypes := #[t, t] })
    (e : TypeId) (i : TypeInfo) (z : Value) (size bytes : Nat) (ht : P.underlying t = some (.slice e)) (hi : P.info? e = some i) (hz : i.zero = some z)
    (hsize : i.size = size) (hby : i.bytes = bytes) (hzs : z.cells.size = size) (hsz : 0 < size)
    (v : Value) (n : Nat) (xs : List Value) (hs : a.eval s = v) (hown : w.ownsRow 0 e size v n xs)
    (xv : Value) (m : Nat) (news : List Value) (hx : a.eval x = xv) (hsl : Sl w G xv m size news) (h1 : ∀ u ∈ news, u.oneCell' = true)
    (h63 : n + m ≤ maxLen) (hbytes : (n + m) * bytes ≤ 140737488355328)
    (h : ∀ v' w', w'.ownsRow 0 e size v' (n + m) (xs ++ news) → w.grownBy w' v.ownBlock → (v'.ownBlock = v.ownBlock ∨ ∀ k, v'.ownBlock = some k → w.heap.size ≤ k) → K (a.put o.dst v') w') :
    if Region.wanted o (yielded ops a.tmps) = true then Oper.wp P o a w K Q else E := by
  obtain ⟨hl, ad, cap, rfl, hn, hc⟩ := hsl
  cases ad with
  | none =>
    have hw : Region.wanted o (yielded ops a.tmps) = true := by simp [Region.wanted, hgd]
    rw [if_pos hw]
    obtain rfl : cap = 0 := hn.2 rfl
    obtain rfl : m = 0 := by have := hn.1; omega
    have hnews : news = [] := List.eq_nil_of_length_eq_zero (by simpa using hl)
    subst hnews
    have hrun := run_append_owned_none (P := P) (w := w) 0 t o.type e i size ht hi v n xs hown
    unfold Oper.wp execOp
    simp only [ho, resolve, invoke, builtin, Sem.run_bind, Sem.run_pure, Result.andThen_ok, List.map_toArray, List.map_cons, List.map_nil, hs, hx, hrun]
    exact h v w (by simpa using hown) (grown_refl w _) (.inl rfl)
  | some ad =>
    refine step_append_row hgd s x t ho e i z size bytes ht hi hz hsize hby hzs hsz v n xs hs hown ad m cap news hx hl ?_ h1 h63 hbytes h
    intro j u hj
    have hjl : j < news.length := (List.getElem?_eq_some_iff.1 hj).1
    rcases hc with rfl | ⟨b, off, he, hlt, hg, hcs⟩
    · have h0 : news.length = 0 := by rw [hl]; omega
      omega
    · cases he
      have e1 : (⟨b, off, none⟩ : Addr).add j = ⟨b, off + j, none⟩ := by
        unfold Addr.add
        split
        · rename_i h0; subst h0; rfl
        · rfl
      rw [e1, hcs j (by omega), hj]

/-- A row that was made behind the world W0. -/
def Rw (W0 w : World) (e : TypeId) (size : Nat) (v : Value) (n : Nat) (xs : List Value) : Prop := w.ownsRow 0 e size v n xs ∧ ∀ b, v.ownBlock = some b → W0.heap.size ≤ b

theorem Rw.lt {W0 w : World} {e : TypeId} {size : Nat} {v : Value} {n : Nat} {xs : List Value} (h : Rw W0 w e size v n xs) {b : Nat} (hb : v.ownBlock = some b) : b < w.heap.size := (h.1.lt b hb).2
theorem Rw.keep {W0 w w' : World} {e : TypeId} {size : Nat} {v : Value} {n : Nat} {xs : List Value} (h : Rw W0 w e size v n xs) (hb : ∀ b, v.ownBlock = some b → w'.heap[b]? = w.heap[b]?) : Rw W0 w' e size v n xs := by
  refine ⟨⟨h.1.1, ?_⟩, h.2⟩
  rcases h.1.2 with h1 | ⟨g, cap, cur, e1, hbb, hg, r⟩
  · exact .inl h1
  · subst e1
    exact .inr ⟨g, cap, cur, rfl, hbb, (hb g rfl).trans hg, r⟩
theorem Rw.bw {W0 w w' : World} {e : TypeId} {size : Nat} {v : Value} {n : Nat} {xs : List Value} (h : Rw W0 w e size v n xs) (hb : Bw w w') : Rw W0 w' e size v n xs := h.keep (fun b e => hb.block b (h.lt e))
/-- Another row grew. -/
theorem Rw.beside {W0 w w' : World} {e : TypeId} {size : Nat} {v : Value} {n : Nat} {xs : List Value} {r : Option Nat} (h : Rw W0 w e size v n xs) (hg : w.grownBy w' r) (hne : ∀ b, v.ownBlock = some b → r ≠ some b) : Rw W0 w' e size v n xs :=
  h.keep (fun b e => hg.block b (h.lt e) (fun k => hne b e k.symm))
/-- Rows of unlike types are apart. -/
theorem Rw.apart {W0 w : World} {e e' : TypeId} {size size' : Nat} {v v' : Value} {n n' : Nat} {xs xs' : List Value} (h : Rw W0 w e size v n xs) (h' : Rw W0 w e' size' v' n' xs') (hne : e ≠ e') : ∀ b, v.ownBlock = some b → v'.ownBlock ≠ some b := by
  intro b hb k
  rcases own_apart h.1 h'.1 hne with h1 | h1
  · rw [h1] at k; cases k
  · exact h1 (k.trans hb.symm)
theorem Rw.bwGrown {W0 w w' : World} {e : TypeId} {size : Nat} {v : Value} {n : Nat} {xs : List Value} (h : Rw W0 w e size v n xs) (hb : Bw W0 w) (hg : w.grownBy w' v.ownBlock) : Bw W0 w' := Below.grown hb hg hb.size (fun k hk => h.2 k hk)
theorem Rw.grown {W0 w w' : World} {e : TypeId} {size : Nat} {v v' : Value} {n n' : Nat} {xs xs' : List Value} (h : Rw W0 w e size v n xs) (hb : Bw W0 w) (how : w'.ownsRow 0 e size v' n' xs') (hvb : v'.ownBlock = v.ownBlock ∨ ∀ k, v'.ownBlock = some k → w.heap.size ≤ k) : Rw W0 w' e size v' n' xs' :=
  ⟨how, fun b e => hvb.elim (fun k => h.2 b (k ▸ e)) (fun k => Nat.le_trans hb.size (k b e))⟩
theorem Rw.empty (W0 w : World) (hb : Bw W0 w) (e : TypeId) (size : Nat) : Rw W0 (w.alloc (.cells #[] e)) e size (.slice (some ⟨w.heap.size, 0, none⟩) 0 0) 0 [] :=
  ⟨own_empty w e size 0 w.heap.size rfl (Nat.zero_le _), fun b e => by cases e; exact hb.size⟩


/-- A row of one's own as a list. -/
theorem Rw.sl {W0 w : World} {e : TypeId} {size : Nat} {v : Value} {n : Nat} {xs : List Value} (h : Rw W0 w e size v n xs) : Sl w (fun b => W0.heap.size ≤ b) v n size xs := by
  refine ⟨h.1.1, ?_⟩
  rcases h.1.2 with ⟨rfl, rfl⟩ | ⟨g, cap, cur, rfl, h1, h3, h4, h5, h6, h7⟩
  · exact ⟨none, 0, rfl, ⟨Nat.le_refl _, fun _ => rfl⟩, .inl rfl⟩
  · refine ⟨_, cap, rfl, ⟨h4, fun e => by cases e⟩, .inr ⟨g, 0, rfl, (Array.getElem?_eq_some_iff.1 h3).1, h.2 g rfl, fun i hi => ?_⟩⟩
    rw [Nat.zero_add, cell_of_row w g i cur _ (0, 0) h3, ← h7, List.getElem?_take, if_pos hi]
    simp

theorem Sl.grown {w w' : World} {G : Nat → Prop} {v : Value} {n size : Nat} {cs : List Value} {r : Option Nat} (h : Sl w G v n size cs) (hg : w.grownBy w' r) (hn : ∀ b, G b → r ≠ some b) : Sl w' G v n size cs :=
  h.keep hg.size (fun b hb hG => hg.block b hb (fun e => hn b hG e.symm)) (fun _ _ g => g)

/-- A list that was just built. -/
theorem sl_new (w : World) (G : Nat → Prop) (cs : List Value) (e : TypeId) (n size : Nat) (h : cs.length = n * size) (hg : G w.heap.size) : Sl (w.alloc (.cells cs.toArray e)) G (.slice (some ⟨w.heap.size, 0, none⟩) n n) n size cs := by
  refine ⟨h, _, n, rfl, ⟨Nat.le_refl _, fun k => by cases k⟩, .inr ⟨w.heap.size, 0, rfl, by simp, hg, fun i hi => ?_⟩⟩
  have hb : Blk (w.alloc (.cells cs.toArray e)) w.heap.size cs.toArray e := Blk.new w _ _
  rw [hb.cell]
  simp


end Go.Proofs.Yteeeijbjokkomaa
