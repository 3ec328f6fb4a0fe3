/- Lists of things as rows of cells; appends, with where the row lies. -/
import Derived.Test.YtfkcbioefdkabaaQc
import Derived.Test.YtfkcbioefdkabaaAp
import Derived.Test.YtfkcbioefdkabaaWA
import Derived.Laws.AppendOwnNone
set_option linter.unusedSimpArgs false
set_option linter.unusedVariables false
namespace Go.Proofs.Ytfkcbioefdkabaa
open Go Go.RowKit

theorem step_append_any {P : Program} {ops : Array Oper} {o : Oper} {a : Act} {w : World} {K : Act → World → Prop} {Q : Exit → Act → World → Prop} {E : Prop} {G : Nat → Prop}
    (hgd : o.guard = none) (s x : Operand) (t : TypeId) (ho : o.op = Op.call { callee := Callee.builtin Builtin.append, args := #[s, x], argTypes := #[t, t] })
    (e : TypeId) (i : TypeInfo) (z : Value) (size bytes : Nat) (ht : P.underlying t = some (.slice e)) (hi : P.info? e = some i) (hz : i.zero = some z)
    (hsize : i.size = size) (hby : i.bytes = bytes) (hzs : z.cells.size = size) (hsz : 0 < size)
    (v : Value) (n : Nat) (xs : List Value) (hs : a.eval s = v) (hown : w.ownsRow 0 e size v n xs)
    (xv : Value) (m : Nat) (news : List Value) (hx : a.eval x = xv) (hsl : Sl w G xv m size news) (h1 : ∀ u ∈ news, u.oneCell' = true)
    (h63 : n + m ≤ maxLen) (hbytes : (n + m) * bytes ≤ 140737488355328)
    (h : ∀ v' w', w'.ownsRow 0 e size v' (n + m) (xs ++ news) → w.grownBy w' v.ownBlock → (v'.ownBlock = v.ownBlock ∨ ∀ k, v'.ownBlock = some k → w.heap.size ≤ k) → K (a.put o.dst v') w') :
    if Region.wanted o (yielded ops a.tmps) = true then Oper.wp P o a w K Q else E := by
  obtain ⟨hl, ad, cap, rfl, hn, hc⟩ := hsl
  cases ad with
  | none =>
    have hw : Region.wanted o (yielded ops a.tmps) = true := by simp [Region.wanted, hgd]
    rw [if_pos hw]
    obtain rfl : cap = 0 := hn.2 rfl
    obtain rfl : m = 0 := by have := hn.1; omega
    have hnews : news = [] := List.eq_nil_of_length_eq_zero (by simpa using hl)
    subst hnews
    have hrun := run_append_owned_none (P := P) (w := w) 0 t o.type e i size ht hi v n xs hown
    unfold Oper.wp execOp
    simp only [ho, resolve, invoke, builtin, Sem.run_bind, Sem.run_pure, Result.andThen_ok, List.map_toArray, List.map_cons, List.map_nil, hs, hx, hrun]
    exact h v w (by simpa using hown) (grown_refl w _) (.inl rfl)
  | some ad =>
    refine step_append_row hgd s x t ho e i z size bytes ht hi hz hsize hby hzs hsz v n xs hs hown ad m cap news hx hl ?_ h1 h63 hbytes h
    intro j u hj
    have hjl : j < news.length := (List.getElem?_eq_some_iff.1 hj).1
    rcases hc with rfl | ⟨b, off, he, hlt, hg, hcs⟩
    · have h0 : news.length = 0 := by rw [hl]; omega
      omega
    · cases he
      have e1 : (⟨b, off, none⟩ : Addr).add j = ⟨b, off + j, none⟩ := by
        unfold Addr.add
        split
        · rename_i h0; subst h0; rfl
        · rfl
      rw [e1, hcs j (by omega), hj]

/-- A row that was made behind the world W0. -/
def Rw (W0 w : World) (e : TypeId) (size : Nat) (v : Value) (n : Nat) (xs : List Value) : Prop := w.ownsRow 0 e size v n xs ∧ ∀ b, v.ownBlock = some b → W0.heap.size ≤ b

theorem Rw.lt {W0 w : World} {e : TypeId} {size : Nat} {v : Value} {n : Nat} {xs : List Value} (h : Rw W0 w e size v n xs) {b : Nat} (hb : v.ownBlock = some b) : b < w.heap.size := (h.1.lt b hb).2
theorem Rw.keep {W0 w w' : World} {e : TypeId} {size : Nat} {v : Value} {n : Nat} {xs : List Value} (h : Rw W0 w e size v n xs) (hb : ∀ b, v.ownBlock = some b → w'.heap[b]? = w.heap[b]?) : Rw W0 w' e size v n xs := by
  refine ⟨⟨h.1.1, ?_⟩, h.2⟩
  rcases h.1.2 with h1 | ⟨g, cap, cur, e1, hbb, hg, r⟩
  · exact .inl h1
  · subst e1
    exact .inr ⟨g, cap, cur, rfl, hbb, (hb g rfl).trans hg, r⟩
theorem Rw.bw {W0 w w' : World} {e : TypeId} {size : Nat} {v : Value} {n : Nat} {xs : List Value} (h : Rw W0 w e size v n xs) (hb : Bw w w') : Rw W0 w' e size v n xs := h.keep (fun b e => hb.block b (h.lt e))
/-- Another row grew. -/
theorem Rw.beside {W0 w w' : World} {e : TypeId} {size : Nat} {v : Value} {n : Nat} {xs : List Value} {r : Option Nat} (h : Rw W0 w e size v n xs) (hg : w.grownBy w' r) (hne : ∀ b, v.ownBlock = some b → r ≠ some b) : Rw W0 w' e size v n xs :=
  h.keep (fun b e => hg.block b (h.lt e) (fun k => hne b e k.symm))
/-- Rows of unlike types are apart. -/
theorem Rw.apart {W0 w : World} {e e' : TypeId} {size size' : Nat} {v v' : Value} {n n' : Nat} {xs xs' : List Value} (h : Rw W0 w e size v n xs) (h' : Rw W0 w e' size' v' n' xs') (hne : e ≠ e') : ∀ b, v.ownBlock = some b → v'.ownBlock ≠ some b := by
  intro b hb k
  rcases own_apart h.1 h'.1 hne with h1 | h1
  · rw [h1] at k; cases k
  · exact h1 (k.trans hb.symm)
theorem Rw.bwGrown {W0 w w' : World} {e : TypeId} {size : Nat} {v : Value} {n : Nat} {xs : List Value} (h : Rw W0 w e size v n xs) (hb : Bw W0 w) (hg : w.grownBy w' v.ownBlock) : Bw W0 w' := Below.grown hb hg hb.size (fun k hk => h.2 k hk)
theorem Rw.grown {W0 w w' : World} {e : TypeId} {size : Nat} {v v' : Value} {n n' : Nat} {xs xs' : List Value} (h : Rw W0 w e size v n xs) (hb : Bw W0 w) (how : w'.ownsRow 0 e size v' n' xs') (hvb : v'.ownBlock = v.ownBlock ∨ ∀ k, v'.ownBlock = some k → w.heap.size ≤ k) : Rw W0 w' e size v' n' xs' :=
  ⟨how, fun b e => hvb.elim (fun k => h.2 b (k ▸ e)) (fun k => Nat.le_trans hb.size (k b e))⟩
theorem Rw.empty (W0 w : World) (hb : Bw W0 w) (e : TypeId) (size : Nat) : Rw W0 (w.alloc (.cells #[] e)) e size (.slice (some ⟨w.heap.size, 0, none⟩) 0 0) 0 [] :=
  ⟨own_empty w e size 0 w.heap.size rfl (Nat.zero_le _), fun b e => by cases e; exact hb.size⟩


/-- Things as cells. -/
def actsC (L : List AA) : List Value := L.flatMap actC
theorem actsC_snoc (L : List AA) (x : AA) : actsC (L ++ [x]) = actsC L ++ actC x := by simp [actsC]
theorem actsC_len (L : List AA) : (actsC L).length = L.length * 6 := by
  induction L with
  | nil => rfl
  | cons x L ih => simp [actsC, actC] at *; omega
theorem actsC_get : ∀ (L : List AA) (i j : Nat) (h : i < L.length), j < 6 → (actsC L)[i * 6 + j]? = (actC L[i])[j]?
  | [], i, j, h, _ => by simp at h
  | x :: L, 0, j, _, hj => by
    simp only [actsC, List.flatMap_cons, Nat.zero_mul, Nat.zero_add, List.getElem_cons_zero]
    rw [List.getElem?_append_left (by simp [actC]; omega)]
  | x :: L, i + 1, j, h, hj => by
    have ih := actsC_get L i j (by simp at h; omega) hj
    simp only [actsC, List.flatMap_cons, List.getElem_cons_succ] at *
    rw [List.getElem?_append_right (by simp [actC]; omega), ← ih]
    congr 1
    simp [actC]
    omega

/-- The document's list of things. -/
def RLs (w : World) (G : Nat → Prop) (v : Value) (L : List AA) : Prop := Sl w G v L.length 6 (actsC L) ∧ L.length ≤ 1000 ∧ ∀ x ∈ L, AOK x

theorem RLs.acts {w : World} {G : Nat → Prop} {v : Value} {L : List AA} (h : RLs w G v L) : Acts w G v L := by
  obtain ⟨⟨hl, a, cap, rfl, hn, hc⟩, hm, hok⟩ := h
  refine ⟨a, cap, rfl, by unfold maxLen; omega, fun i hi => ?_⟩
  rcases hc with h0 | ⟨b, o, rfl, hlt, hg, hcs⟩
  · omega
  · exact ⟨b, o, rfl, hlt, hg, fun j hj => by rw [hcs (i * 6 + j) (by omega)]; exact actsC_get L i j hi hj, hok _ (List.getElem_mem hi)⟩
theorem RLs.nil (w : World) (G : Nat → Prop) : RLs w G (.slice none 0 0) [] := ⟨Sl.nil w G 6, by simp, by simp⟩
theorem RLs.form {w : World} {G : Nat → Prop} {v : Value} {L : List AA} (h : RLs w G v L) : ∃ a cap, v = .slice a L.length cap := h.1.form
theorem RLs.bw {w w' : World} {G : Nat → Prop} {v : Value} {L : List AA} (h : RLs w G v L) (hb : Bw w w') : RLs w' G v L := ⟨h.1.below hb, h.2⟩
theorem RLs.imp {w : World} {G G' : Nat → Prop} {v : Value} {L : List AA} (h : RLs w G v L) (hg : ∀ b, b < w.heap.size → G b → G' b) : RLs w G' v L := ⟨h.1.keep (Nat.le_refl _) (fun _ _ _ => rfl) hg, h.2⟩
theorem RLs.ex {bs : List Nat} {w w' : World} {v : Value} {L : List AA} (h : RLs w (fun b => b ∉ bs) v L) (k : Ex bs w w') : RLs w' (fun b => b ∉ bs) v L := ⟨h.1.ex k, h.2⟩

/-- A row of one's own as a list. -/
theorem Rw.sl {W0 w : World} {e : TypeId} {size : Nat} {v : Value} {n : Nat} {xs : List Value} (h : Rw W0 w e size v n xs) : Sl w (fun b => W0.heap.size ≤ b) v n size xs := by
  refine ⟨h.1.1, ?_⟩
  rcases h.1.2 with ⟨rfl, rfl⟩ | ⟨g, cap, cur, rfl, h1, h3, h4, h5, h6, h7⟩
  · exact ⟨none, 0, rfl, ⟨Nat.le_refl _, fun _ => rfl⟩, .inl rfl⟩
  · refine ⟨_, cap, rfl, ⟨h4, fun e => by cases e⟩, .inr ⟨g, 0, rfl, (Array.getElem?_eq_some_iff.1 h3).1, h.2 g rfl, fun i hi => ?_⟩⟩
    rw [Nat.zero_add, cell_of_row w g i cur _ (0, 0) h3, ← h7, List.getElem?_take, if_pos hi]
    simp

theorem infoAc : (Try.prog.info? 36).map (fun i => (i.zero, i.size, i.bytes)) = some (some (.agg #[.int .i64 0, .int .i64 0, .int .i64 0, .int .i64 0, .int .i64 0, .int .u64 0]), 6, 48) := by kernel_rfl

theorem actC_one (x : AA) : ∀ u ∈ actC x, u.oneCell' = true := by
  intro u hu
  simp [actC] at hu
  rcases hu with rfl | rfl | rfl | rfl | rfl | rfl <;> rfl
theorem actsC_one (L : List AA) : ∀ u ∈ actsC L, u.oneCell' = true := by
  intro u hu
  obtain ⟨x, _, hx⟩ := List.mem_flatMap.1 hu
  exact actC_one x u hx

theorem Sl.grown {w w' : World} {G : Nat → Prop} {v : Value} {n size : Nat} {cs : List Value} {r : Option Nat} (h : Sl w G v n size cs) (hg : w.grownBy w' r) (hn : ∀ b, G b → r ≠ some b) : Sl w' G v n size cs :=
  h.keep hg.size (fun b hb hG => hg.block b hb (fun e => hn b hG e.symm)) (fun _ _ g => g)

end Go.Proofs.Ytfkcbioefdkabaa
