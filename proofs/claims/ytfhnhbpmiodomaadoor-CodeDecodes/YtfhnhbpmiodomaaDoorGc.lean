/- What is carried while the lists of a struct are read. -/
import Derived.Test.YtfhnhbpmiodomaaDoorGb
set_option linter.unusedSimpArgs false
set_option linter.unusedVariables false
namespace Go.Proofs.YtfhnhbpmiodomaaDoor
open Go Go.RowKit

/-- The reader at r, the struct at cb, the result at rb; w: the world of the entry. -/
structure CI (base r cb rb : Nat) (vb : Value) (b : List Int) (T : TypeId) (w wr : World) (s : St) (cur cur0 : Array Value) : Prop where
  fb : FB base wr r vb b s
  bl : Blk wr cb cur T
  rs : Blk wr rb cur0 T
  kp : Kp r w wr
  rc : r ≠ cb
  rr : r ≠ rb
  cr : cb ≠ rb
  bc : base ≤ cb
  wc : w.heap.size ≤ cb

/-- Of what was there only the blocks r and cb may have turned. -/
structure Ol (r cb : Nat) (wb wr : World) : Prop where
  size : wb.heap.size ≤ wr.heap.size
  block : ∀ k, k < wb.heap.size → k ≠ r → k ≠ cb → wr.heap[k]? = wb.heap[k]?

section
variable {base r cb rb : Nat} {w wb wr w1 w2 : World} {vb : Value} {b : List Int} {s s1 : St} {T : TypeId} {cur cur0 : Array Value}

theorem CI.kpn (h : CI base r cb rb vb b T w wr s cur cur0) (hk : Kp r wr w1) (hf : FB base w1 r vb b s1) : CI base r cb rb vb b T w w1 s1 cur cur0 :=
  ⟨hf, h.bl.kp hk (Ne.symm h.rc), h.rs.kp hk (Ne.symm h.rr), h.kp.trans hk, h.rc, h.rr, h.cr, h.bc, h.wc⟩
theorem CI.bw (h : CI base r cb rb vb b T w wr s cur cur0) (hb : Bw wr w1) : CI base r cb rb vb b T w w1 s cur cur0 := h.kpn (Kp.of_bw hb) (h.fb.bw hb)
theorem CI.set (h : CI base r cb rb vb b T w wr s cur cur0) (j : Nat) (v : Value) : CI base r cb rb vb b T w (wr.setCell ⟨cb, j, none⟩ v) s (cur.setIfInBounds j v) cur0 :=
  ⟨h.fb.other (Ne.symm h.rc) h.bc j v, h.bl.set j v, h.rs.other (p := ⟨cb, j, none⟩) h.cr v, h.kp.setNew h.wc j v, h.rc, h.rr, h.cr, h.bc, h.wc⟩
theorem CI.grown (h : CI base r cb rb vb b T w wr s cur cur0) {l : Value} {M : Nat} (hg : wr.grownBy w1 l.ownBlock) (ob : ∀ n, l.ownBlock = some n → M ≤ n) (h1 : r < M) (h2 : cb < M) (h3 : rb < M) (h4 : w.heap.size ≤ M) : CI base r cb rb vb b T w w1 s cur cur0 := by
  have hk : ∀ k, k < wr.heap.size → k < M → w1.heap[k]? = wr.heap[k]? := fun k hk hl => hg.block k hk (fun e => by have := ob k e.symm; omega)
  have hb := h.fb.base
  exact ⟨⟨h.fb.k.keep (hk r h.fb.k.lt h1), h.fb.sl.keep hg.size (fun x hx hl => hk x hx (by omega)) (fun _ _ g => g), h.fb.bytes, h.fb.len, h.fb.at_, h.fb.f, h.fb.base⟩,
    h.bl.keep (hk cb h.bl.lt h2), h.rs.keep (hk rb h.rs.lt h3), h.kp.grown hg (fun k e => Nat.le_trans h4 (ob k e)), h.rc, h.rr, h.cr, h.bc, h.wc⟩
theorem CI.lt (h : CI base r cb rb vb b T w wr s cur cur0) : r < wr.heap.size ∧ cb < wr.heap.size ∧ rb < wr.heap.size ∧ w.heap.size ≤ wr.heap.size := ⟨h.fb.k.lt, h.bl.lt, h.rs.lt, h.kp.size⟩

theorem Ol.refl (r cb : Nat) (w : World) : Ol r cb w w := ⟨Nat.le_refl _, fun _ _ _ _ => rfl⟩
theorem Ol.kp (h : Ol r cb wb wr) (hk : Kp r wr w1) : Ol r cb wb w1 :=
  ⟨Nat.le_trans h.size hk.size, fun k hk1 h1 h2 => (hk.block k (Nat.lt_of_lt_of_le hk1 h.size) h1).trans (h.block k hk1 h1 h2)⟩
theorem Ol.bw (h : Ol r cb wb wr) (hb : Bw wr w1) : Ol r cb wb w1 := h.kp (Kp.of_bw hb)
theorem Ol.set (h : Ol r cb wb wr) (j : Nat) (v : Value) : Ol r cb wb (wr.setCell ⟨cb, j, none⟩ v) :=
  ⟨by simpa [World.setCell] using h.size, fun k hk1 h1 h2 => (Below.heap_setCell wr ⟨cb, j, none⟩ v k h2).trans (h.block k hk1 h1 h2)⟩
theorem Ol.grown (h : Ol r cb wb wr) {l : Value} (hg : wr.grownBy w1 l.ownBlock) (ob : ∀ n, l.ownBlock = some n → wb.heap.size ≤ n) : Ol r cb wb w1 :=
  ⟨Nat.le_trans h.size hg.size, fun k hk1 h1 h2 => (hg.block k (Nat.lt_of_lt_of_le hk1 h.size) (fun e => by have := ob k e.symm; omega)).trans (h.block k hk1 h1 h2)⟩

theorem LI.set {μ : Type} {E : TypeId} {k : Nat} {c : μ → List Value} {okm : World → (Nat → Prop) → μ → Prop} {l : Value} {ms : List μ} (h : LI E k c okm wb wr l ms) (K : KeepOk okm) (hc : cb < wb.heap.size) (j : Nat) (v : Value) : LI E k c okm wb (wr.setCell ⟨cb, j, none⟩ v) l ms :=
  h.kp (r := cb) K ((Kp.refl cb wr).set j v) hc

/-- One more in a list of the struct. -/
theorem push3 {μ : Type} {E : TypeId} {k : Nat} {c : μ → List Value} {okm : World → (Nat → Prop) → μ → Prop} {l l' : Value} {ms : List μ} {m : μ} {wA : World} (hc : CI base r cb rb vb b T w w1 s cur cur0) (hl : LI E k c okm wb w1 l ms) (ho : Ol r cb wb w1) (K : KeepOk okm)
    (h1 : r < wb.heap.size) (h2 : cb < wb.heap.size) (h3 : rb < wb.heap.size) (h4 : w.heap.size ≤ wb.heap.size)
    (hm : okm w1 (fun x => wb.heap.size ≤ x ∧ l.ownBlock ≠ some x) m) (hb : Bw w1 wA) (hg : wA.grownBy w2 l.ownBlock) (hown : w2.ownsRow 0 E k l' (ms.length + 1) (ms.flatMap c ++ c m))
    (hn : l'.ownBlock = l.ownBlock ∨ ∀ n, l'.ownBlock = some n → wA.heap.size ≤ n) (j : Nat) :
    CI base r cb rb vb b T w w2 s cur cur0 ∧ CI base r cb rb vb b T w (w2.setCell ⟨cb, j, none⟩ l') s (cur.setIfInBounds j l') cur0 ∧ LI E k c okm wb (w2.setCell ⟨cb, j, none⟩ l') l' (ms ++ [m]) ∧ Ol r cb wb (w2.setCell ⟨cb, j, none⟩ l') := by
  have a1 := (hc.bw hb).grown hg hl.ob h1 h2 h3 h4
  exact ⟨a1, a1.set j l', (hl.pushB K ho.size hm hb hg hown hn).set K h2 j l', ((ho.bw hb).grown hg hl.ob).set j l'⟩

/-- A list that was there ahead. -/
theorem RL.ol {α : Type} {v : Value} {k : Nat} {c : α → List Value} {ok : α → Prop} {l : List α} (h : RL wb (fun x => cb < x ∧ x ≠ r) v k c ok l) (ho : Ol r cb wb wr) : RL wr (fun x => cb < x ∧ x ≠ r) v k c ok l :=
  h.keep ho.size (fun x hx hG => ho.block x hx hG.2 (by have := hG.1; omega)) (fun _ _ g => g)
theorem RL.up {α : Type} {v : Value} {k : Nat} {c : α → List Value} {ok : α → Prop} {l : List α} {N : Nat} (h : RL wr (fun x => N ≤ x) v k c ok l) (h1 : cb < N) (h2 : r < N) : RL wr (fun x => cb < x ∧ x ≠ r) v k c ok l :=
  h.keep (Nat.le_refl _) (fun _ _ _ => rfl) (fun x _ hG => ⟨by omega, by omega⟩)
theorem RL.upk {α : Type} {v : Value} {k : Nat} {c : α → List Value} {ok : α → Prop} {l : List α} (h : RL wr (fun x => cb < x ∧ x ≠ r) v k c ok l) (hk : Kp r wr w1) : RL w1 (fun x => cb < x ∧ x ≠ r) v k c ok l :=
  h.keep hk.size (fun x hx hG => hk.block x hx hG.2) (fun _ _ g => g)
theorem RL.ups {α : Type} {v : Value} {k : Nat} {c : α → List Value} {ok : α → Prop} {l : List α} (h : RL wr (fun x => cb < x ∧ x ≠ r) v k c ok l) (j : Nat) (u : Value) : RL (wr.setCell ⟨cb, j, none⟩ u) (fun x => cb < x ∧ x ≠ r) v k c ok l :=
  h.keep (by simp [World.setCell]) (fun x hx hG => Below.heap_setCell wr ⟨cb, j, none⟩ u x (show x ≠ cb by have := hG.1; omega)) (fun _ _ g => g)
theorem RL.down {α : Type} {v : Value} {k : Nat} {c : α → List Value} {ok : α → Prop} {l : List α} {N : Nat} (h : RL wr (fun x => cb < x ∧ x ≠ r) v k c ok l) (h1 : N ≤ cb) : RL wr (fun x => N ≤ x) v k c ok l :=
  h.keep (Nat.le_refl _) (fun _ _ _ => rfl) (fun x _ hG => by have := hG.1; omega)
end

end Go.Proofs.YtfhnhbpmiodomaaDoor
