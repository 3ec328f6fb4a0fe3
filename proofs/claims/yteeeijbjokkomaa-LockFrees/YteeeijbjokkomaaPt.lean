/- What changes of a monitor, of a row leave: the monitors in memory. -/
import Derived.Test.YteeeijbjokkomaaPc
import Derived.Test.YteeeijbjokkomaaWA
import Derived.Test.YteeeijbjokkomaaRw
import Derived.OneCell
set_option linter.unusedSimpArgs false
set_option linter.unusedVariables false
namespace Go.Proofs.Yteeeijbjokkomaa
open Go Go.RowKit

theorem row_box {w : World} {base : Nat} {e e' : TypeId} {size : Nat} {v : Value} {n g : Nat} {xs : List Value} {cur : Array Value} (h : w.ownsRow base e size v n xs) (hb : Blk w g cur e') (hne : e ≠ e') : v.ownBlock ≠ some g := by
  rcases own_not h hb hne with h1 | h1
  · rw [h1]; exact fun k => by cases k
  · exact h1
theorem row_row {w : World} {base base' : Nat} {e e' : TypeId} {size size' : Nat} {v v' : Value} {n n' : Nat} {xs xs' : List Value} (h : w.ownsRow base e size v n xs) (h' : w.ownsRow base' e' size' v' n' xs') (hne : e ≠ e') : ∀ b, v.ownBlock = some b → v'.ownBlock ≠ some b := by
  intro b hb k
  rcases h.2 with ⟨rfl, _⟩ | ⟨g, cap, cur, rfl, _, hg, _⟩
  · cases hb
  · cases hb
    exact row_box h' (show Blk w g cur e from hg) hne.symm k

/-- A row that grew; the others, and the box. -/
theorem keep_grown {w w' : World} {base : Nat} {e e' : TypeId} {size size' : Nat} {v v' : Value} {n n' : Nat} {xs xs' : List Value} (hg : w.grownBy w' v.ownBlock) (h : w.ownsRow base e size v n xs) (h' : w.ownsRow 0 e' size' v' n' xs') (hne : e ≠ e') : w'.ownsRow 0 e' size' v' n' xs' :=
  own_keep h' (fun b hb => hg.block b (h'.lt b hb).2 (fun k => row_row h' h hne.symm b hb k.symm))
theorem blk_grown {w w' : World} {base : Nat} {e e' : TypeId} {size : Nat} {v : Value} {n g : Nat} {xs : List Value} {cur : Array Value} (hg : w.grownBy w' v.ownBlock) (h : w.ownsRow base e size v n xs) (hb : Blk w g cur e') (hne : e ≠ e') : Blk w' g cur e' :=
  hb.keep (hg.block g hb.lt (fun k => row_box h hb hne k.symm))

section
variable {w w1 : World} {p : Nat} {bs : List Nat} {mv wv kv v' : Value} {R : List MM} {A : LL}

/-- Another row of those that wait. -/
theorem PS.turnW (h : PS w p bs mv wv kv R A) (W' : List WW) (hb : Blk w1 p #[mv, wv, kv] 65) (rm : w1.ownsRow 0 85 2 mv R.length (R.flatMap mC)) (rk : w1.ownsRow 0 94 5 kv A.K.length (A.K.flatMap kC))
    (ho : w1.ownsRow 0 89 4 v' W'.length (W'.flatMap wC)) (hx : Ex bs w w1) (hv : ∀ b, v'.ownBlock = some b → b ∈ bs ∨ w.heap.size ≤ b) (ok : ∀ x ∈ W', okW A.M.length x) (big : W'.length + A.K.length ≤ 1000) :
    PS (w1.setCell ⟨p, 1, none⟩ v') p (bs ++ v'.ownBlock.toList) mv v' kv R { A with W := W' } ∧ Nx bs w (w1.setCell ⟨p, 1, none⟩ v') (bs ++ v'.ownBlock.toList) := by
  refine ⟨⟨hb.set 1 v', ownsRow_setCell_other (a := ⟨p, 1, none⟩) rm (row_box rm hb (by decide)) v', ownsRow_setCell_other (a := ⟨p, 1, none⟩) ho (row_box ho hb (by decide)) v', ownsRow_setCell_other (a := ⟨p, 1, none⟩) rk (row_box rk hb (by decide)) v', by simp [h.mp], fun b e => by simp [h.mm b e], fun b e => by simp [e], fun b e => by simp [h.mkk b e], ?_, h.eq, h.raw, ⟨h.ok.M, ok, h.ok.K, h.ok.big⟩, big⟩, ⟨hx.set (.inl h.mp) _ _, ?_⟩⟩
  · intro b hb1
    simp only [List.mem_append, Option.mem_toList] at hb1
    rw [show (w1.setCell ⟨p, 1, none⟩ v').heap.size = w1.heap.size by simp]
    rcases hb1 with hb1 | hb1
    · have := h.lt b hb1; have := hx.size; omega
    · exact (ho.lt b hb1).2
  · intro b hb1
    simp only [List.mem_append, Option.mem_toList] at hb1
    rcases hb1 with hb1 | hb1
    · exact .inl hb1
    · exact hv b hb1

/-- Another row of those that were woken. -/
theorem PS.turnK (h : PS w p bs mv wv kv R A) (K' : List KK) (hb : Blk w1 p #[mv, wv, kv] 65) (rm : w1.ownsRow 0 85 2 mv R.length (R.flatMap mC)) (rw' : w1.ownsRow 0 89 4 wv A.W.length (A.W.flatMap wC))
    (ho : w1.ownsRow 0 94 5 v' K'.length (K'.flatMap kC)) (hx : Ex bs w w1) (hv : ∀ b, v'.ownBlock = some b → b ∈ bs ∨ w.heap.size ≤ b) (ok : ∀ x ∈ K', okW A.M.length x.1) (big : A.W.length + K'.length ≤ 1000) :
    PS (w1.setCell ⟨p, 2, none⟩ v') p (bs ++ v'.ownBlock.toList) mv wv v' R { A with K := K' } ∧ Nx bs w (w1.setCell ⟨p, 2, none⟩ v') (bs ++ v'.ownBlock.toList) := by
  refine ⟨⟨hb.set 2 v', ownsRow_setCell_other (a := ⟨p, 2, none⟩) rm (row_box rm hb (by decide)) v', ownsRow_setCell_other (a := ⟨p, 2, none⟩) rw' (row_box rw' hb (by decide)) v', ownsRow_setCell_other (a := ⟨p, 2, none⟩) ho (row_box ho hb (by decide)) v', by simp [h.mp], fun b e => by simp [h.mm b e], fun b e => by simp [h.mw b e], fun b e => by simp [e], ?_, h.eq, h.raw, ⟨h.ok.M, h.ok.W, ok, h.ok.big⟩, big⟩, ⟨hx.set (.inl h.mp) _ _, ?_⟩⟩
  · intro b hb1
    simp only [List.mem_append, Option.mem_toList] at hb1
    rw [show (w1.setCell ⟨p, 2, none⟩ v').heap.size = w1.heap.size by simp]
    rcases hb1 with hb1 | hb1
    · have := h.lt b hb1; have := hx.size; omega
    · exact (ho.lt b hb1).2
  · intro b hb1
    simp only [List.mem_append, Option.mem_toList] at hb1
    rcases hb1 with hb1 | hb1
    · exact .inl hb1
    · exact hv b hb1

theorem okW_mono {n n' : Nat} {x : WW} (h : okW n x) (hn : n ≤ n') : okW n' x := ⟨h.t, h.n, ⟨h.m.1, by have := h.m.2; omega⟩, h.u⟩

/-- One more monitor. -/
theorem PS.turnM (h : PS w p bs mv wv kv R A) (hb : Blk w1 p #[mv, wv, kv] 65) (rw' : w1.ownsRow 0 89 4 wv A.W.length (A.W.flatMap wC)) (rk : w1.ownsRow 0 94 5 kv A.K.length (A.K.flatMap kC))
    (ho : w1.ownsRow 0 85 2 v' (R.length + 1) (R.flatMap mC ++ mC (0, 0))) (hx : Ex bs w w1) (hv : ∀ b, v'.ownBlock = some b → b ∈ bs ∨ w.heap.size ≤ b) (big : R.length < 1024) :
    PS (w1.setCell ⟨p, 0, none⟩ v') p (bs ++ v'.ownBlock.toList) v' wv kv (R ++ [(0, 0)]) { A with M := A.M ++ [(-1, 0)] } ∧ Nx bs w (w1.setCell ⟨p, 0, none⟩ v') (bs ++ v'.ownBlock.toList) := by
  have hl := h.len
  have ho' : w1.ownsRow 0 85 2 v' (R ++ [(0, 0)]).length ((R ++ [((0, 0) : MM)]).flatMap mC) := by rw [fm_snoc, List.length_append]; exact ho
  have hlen : (A.M ++ [((-1, 0) : MM)]).length = A.M.length + 1 := by simp
  refine ⟨⟨hb.set 0 v', ownsRow_setCell_other (a := ⟨p, 0, none⟩) ho' (row_box ho hb (by decide)) v', ownsRow_setCell_other (a := ⟨p, 0, none⟩) rw' (row_box rw' hb (by decide)) v', ownsRow_setCell_other (a := ⟨p, 0, none⟩) rk (row_box rk hb (by decide)) v', by simp [h.mp], fun b e => by simp [e], fun b e => by simp [h.mw b e], fun b e => by simp [h.mkk b e], ?_, ?_, ?_, ⟨?_, ?_, ?_, ?_⟩, h.big⟩, ⟨hx.set (.inl h.mp) _ _, ?_⟩⟩
  · intro b hb1
    simp only [List.mem_append, Option.mem_toList] at hb1
    rw [show (w1.setCell ⟨p, 0, none⟩ v').heap.size = w1.heap.size by simp]
    rcases hb1 with hb1 | hb1
    · have := h.lt b hb1; have := hx.size; omega
    · exact (ho.lt b hb1).2
  · simp [h.eq, nrm]
  · intro x hx1
    rcases List.mem_append.1 hx1 with h1 | h1
    · exact h.raw x h1
    · obtain rfl := List.mem_singleton.1 h1
      exact ⟨⟨by decide, by decide⟩, ⟨by decide, by decide⟩, fun k => absurd rfl k⟩
  · intro x hx1
    rcases List.mem_append.1 hx1 with h1 | h1
    · exact h.ok.M x h1
    · obtain rfl := List.mem_singleton.1 h1
      exact .inl rfl
  · intro x hx1; exact okW_mono (h.ok.W x hx1) (by simp only [hlen]; omega)
  · intro x hx1; exact okW_mono (h.ok.K x hx1) (by simp only [hlen]; omega)
  · simp only [hlen]; omega
  · intro b hb1
    simp only [List.mem_append, Option.mem_toList] at hb1
    rcases hb1 with hb1 | hb1
    · exact .inl hb1
    · exact hv b hb1

theorem putA_M (A : LL) (n : Nat) (x : MM) : putA A (n : Int) x = { A with M := A.M.set n x } := by simp [putA]
theorem set_nrm (R : List MM) (n : Nat) (x : MM) : (R.set n x).map nrm = (R.map nrm).set n (nrm x) := by rw [List.map_set]

/-- A monitor's owner is set. -/
theorem PS.setM {g cm n : Nat} (h : PS w p bs (.slice (some ⟨g, 0, none⟩) R.length cm) wv kv R A) (hn : n < R.length) (x : MM) (hx : RawOk x) :
    PS ((w.setCell ⟨g, n * 2, none⟩ (.int .i64 x.1)).setCell ⟨g, n * 2 + 1, none⟩ (.int .i64 x.2)) p bs (.slice (some ⟨g, 0, none⟩) R.length cm) wv kv (R.set n x) (putA A (n : Int) (nrm x)) ∧ Nx bs w ((w.setCell ⟨g, n * 2, none⟩ (.int .i64 x.1)).setCell ⟨g, n * 2 + 1, none⟩ (.int .i64 x.2)) bs := by
  have hg := h.mm g rfl
  have hl := h.len
  have hE : Ex bs w ((w.setCell ⟨g, n * 2, none⟩ (.int .i64 x.1)).setCell ⟨g, n * 2 + 1, none⟩ (.int .i64 x.2)) := Ex.set (Ex.set (Ex.refl _ _) (.inl hg) _ _) (.inl hg) _ _
  have hk : ∀ b, b ≠ g → ((w.setCell ⟨g, n * 2, none⟩ (.int .i64 x.1)).setCell ⟨g, n * 2 + 1, none⟩ (.int .i64 x.2)).heap[b]? = w.heap[b]? := fun b hb => (Below.heap_setCell _ _ _ b hb).trans (Below.heap_setCell _ _ _ b hb)
  have hpg : p ≠ g := fun e => row_box h.rm h.blk (by decide) (by rw [e]; rfl)
  rw [putA_M]
  refine ⟨⟨h.blk.keep (hk p hpg), ?_, own_keep h.rw (fun b e => hk b (fun k => row_row h.rw h.rm (by decide) b e (by rw [k]; rfl))), own_keep h.rk (fun b e => hk b (fun k => row_row h.rk h.rm (by decide) b e (by rw [k]; rfl))), h.mp, fun b e => h.mm b e, h.mw, h.mkk, fun b hb => Nat.lt_of_lt_of_le (h.lt b hb) hE.size, ?_, ?_, ⟨?_, ?_, ?_, ?_⟩, h.big⟩, ⟨hE, fun b hb => .inl hb⟩⟩
  · rw [← mC_set R n x.1 x.2 hn, List.length_set]
    exact own_set (own_set h.rm (by omega) _) (by omega) _
  · simp only [h.eq, set_nrm]
  · intro y hy
    rcases List.mem_or_eq_of_mem_set hy with h1 | h1
    · exact h.raw y h1
    · exact h1 ▸ hx
  · intro y hy
    rcases List.mem_or_eq_of_mem_set hy with h1 | h1
    · exact h.ok.M y h1
    · exact h1 ▸ nrm_ok hx
  · intro y hy; exact okW_mono (h.ok.W y hy) (by simp)
  · intro y hy; exact okW_mono (h.ok.K y hy) (by simp)
  · simp only [List.length_set]; exact h.ok.big

/-- A monitor's count is set. -/
theorem PS.setM1 {g cm n : Nat} (h : PS w p bs (.slice (some ⟨g, 0, none⟩) R.length cm) wv kv R A) (hn : n < R.length) (b : Int) (hx : RawOk (R[n].1, b)) :
    PS (w.setCell ⟨g, n * 2 + 1, none⟩ (.int .i64 b)) p bs (.slice (some ⟨g, 0, none⟩) R.length cm) wv kv (R.set n (R[n].1, b)) (putA A (n : Int) (nrm (R[n].1, b))) ∧ Nx bs w (w.setCell ⟨g, n * 2 + 1, none⟩ (.int .i64 b)) bs := by
  have hg := h.mm g rfl
  have hl := h.len
  have hE : Ex bs w (w.setCell ⟨g, n * 2 + 1, none⟩ (.int .i64 b)) := Ex.set (Ex.refl _ _) (.inl hg) _ _
  have hk : ∀ c, c ≠ g → (w.setCell ⟨g, n * 2 + 1, none⟩ (.int .i64 b)).heap[c]? = w.heap[c]? := fun c hc => Below.heap_setCell _ _ _ c hc
  have hpg : p ≠ g := fun e => row_box h.rm h.blk (by decide) (by rw [e]; rfl)
  rw [putA_M]
  refine ⟨⟨h.blk.keep (hk p hpg), ?_, own_keep h.rw (fun b e => hk b (fun k => row_row h.rw h.rm (by decide) b e (by rw [k]; rfl))), own_keep h.rk (fun b e => hk b (fun k => row_row h.rk h.rm (by decide) b e (by rw [k]; rfl))), h.mp, fun b e => h.mm b e, h.mw, h.mkk, fun b hb => Nat.lt_of_lt_of_le (h.lt b hb) hE.size, ?_, ?_, ⟨?_, ?_, ?_, ?_⟩, h.big⟩, ⟨hE, fun b hb => .inl hb⟩⟩
  · rw [← mC_set1 R n b hn, List.length_set]
    exact own_set h.rm (by omega) _
  · simp only [h.eq, set_nrm]
  · intro y hy
    rcases List.mem_or_eq_of_mem_set hy with h1 | h1
    · exact h.raw y h1
    · exact h1 ▸ hx
  · intro y hy
    rcases List.mem_or_eq_of_mem_set hy with h1 | h1
    · exact h.ok.M y h1
    · exact h1 ▸ nrm_ok hx
  · intro y hy; exact okW_mono (h.ok.W y hy) (by simp)
  · intro y hy; exact okW_mono (h.ok.K y hy) (by simp)
  · simp only [List.length_set]; exact h.ok.big
end

end Go.Proofs.Yteeeijbjokkomaa
