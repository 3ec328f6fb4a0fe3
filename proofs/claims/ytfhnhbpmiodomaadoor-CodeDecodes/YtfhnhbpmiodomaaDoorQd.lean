/- A list that is being made of what is read. Nothing of the program's calls is in it. -/
import Derived.Test.YtfhnhbpmiodomaaDoorQc
set_option linter.unusedSimpArgs false
set_option linter.unusedVariables false
namespace Go.Proofs.YtfhnhbpmiodomaaDoor
open Go Go.RowKit

theorem own_sl0 {w : World} {G : Nat → Prop} {e : TypeId} {size : Nat} {v : Value} {n : Nat} {xs : List Value}
    (h : w.ownsRow 0 e size v n xs) (hG : ∀ b, v.ownBlock = some b → G b) : Sl w G v n size xs := by
  refine ⟨h.1, ?_⟩
  rcases h.2 with ⟨rfl, rfl⟩ | ⟨g, cap, cur, rfl, hb, hg, hnc, hm, hsz, htake⟩
  · exact ⟨none, 0, rfl, ⟨Nat.le_refl _, fun _ => rfl⟩, .inl rfl⟩
  · refine ⟨_, cap, rfl, ⟨hnc, fun k => (by cases k)⟩, .inr ⟨g, 0, rfl, (Array.getElem?_eq_some_iff.1 hg).1, hG g rfl, fun i hi => ?_⟩⟩
    rw [cell_of_row w g (0 + i) cur e (0, 0) hg, ← htake, List.getElem?_take, if_pos hi]
    simp

/-- What is kept where the blocks of G are. -/
def KeepOk {μ : Type} (okm : World → (Nat → Prop) → μ → Prop) : Prop :=
  ∀ w w' G G' m, okm w G m → w.heap.size ≤ w'.heap.size → (∀ b, b < w.heap.size → G b → w'.heap[b]? = w.heap[b]?) → (∀ b, b < w.heap.size → G b → G' b) → okm w' G' m

/-- The list l, of which the elements are ms; w: the world in which it was begun. -/
structure LI {μ : Type} (T : TypeId) (k : Nat) (c : μ → List Value) (okm : World → (Nat → Prop) → μ → Prop) (w wr : World) (l : Value) (ms : List μ) : Prop where
  own : wr.ownsRow 0 T k l ms.length (ms.flatMap c)
  ob : ∀ n, l.ownBlock = some n → w.heap.size ≤ n
  mem : ∀ m ∈ ms, okm wr (fun x => w.heap.size ≤ x ∧ l.ownBlock ≠ some x) m

section
variable {μ : Type} {T : TypeId} {k : Nat} {c : μ → List Value} {okm : World → (Nat → Prop) → μ → Prop} {w wr w1 w2 : World} {l l' : Value} {ms : List μ} {r : Nat}

theorem LI.nil (w wr : World) : LI (μ := μ) T k c okm w wr (.slice none 0 0) [] :=
  ⟨World.ownsRow_nil _ _ _ _, fun n h => (by cases h), fun m h => (by cases h)⟩

theorem LI.kp (h : LI T k c okm w wr l ms) (K : KeepOk okm) (hk : Kp r wr w1) (hr : r < w.heap.size) : LI T k c okm w w1 l ms := by
  refine ⟨h.own.kept (row := some r) ⟨hk.os, hk.tape, hk.output, hk.size, fun n hn hne => hk.block n hn (fun e => hne (by rw [e]))⟩ ?_, h.ob, fun m hm => K _ _ _ _ _ (h.mem m hm) hk.size (fun x hx hG => hk.block x hx (by have := hG.1; omega)) (fun _ _ g => g)⟩
  cases hl : l.ownBlock with
  | none => exact .inl rfl
  | some n => exact .inr (fun e => by have := h.ob n hl; cases e; omega)

theorem LI.bw (h : LI T k c okm w wr l ms) (K : KeepOk okm) (hb : Bw wr w1) : LI T k c okm w w1 l ms :=
  ⟨h.own.kept (row := none) ⟨hb.os, hb.tape, hb.output, hb.size, fun n hn _ => hb.block n hn⟩ (by cases l.ownBlock <;> simp), h.ob, fun m hm => K _ _ _ _ _ (h.mem m hm) hb.size (fun x hx _ => hb.block x hx) (fun _ _ g => g)⟩

theorem LI.push (h : LI T k c okm w w1 l ms) (K : KeepOk okm) (hsz : w.heap.size ≤ w1.heap.size) {m : μ} (hm : okm w1 (fun x => w.heap.size ≤ x ∧ l.ownBlock ≠ some x) m) (hg : w1.grownBy w2 l.ownBlock)
    (ho : w2.ownsRow 0 T k l' (ms.length + 1) (ms.flatMap c ++ c m)) (hn : l'.ownBlock = l.ownBlock ∨ ∀ n, l'.ownBlock = some n → w1.heap.size ≤ n) : LI T k c okm w w2 l' (ms ++ [m]) := by
  refine ⟨by simpa using ho, fun n e => ?_, fun m' hm' => ?_⟩
  · rcases hn with hn | hn
    · rw [hn] at e; exact h.ob n e
    · have := hn n e; omega
  · have h1 : okm w1 (fun x => w.heap.size ≤ x ∧ l.ownBlock ≠ some x) m' := by
      rcases List.mem_append.1 hm' with h' | h'
      · exact h.mem m' h'
      · simp at h'; rw [h']; exact hm
    refine K _ _ _ _ _ h1 hg.size (fun x hx hG => hg.block x hx (fun e => hG.2 e.symm)) (fun x hx hG => ⟨hG.1, fun e => ?_⟩)
    rcases hn with hn | hn
    · rw [hn] at e; exact hG.2 e
    · have := hn x e; omega

theorem LI.pushB {wA : World} (h : LI T k c okm w w1 l ms) (K : KeepOk okm) (hsz : w.heap.size ≤ w1.heap.size) {m : μ} (hm : okm w1 (fun x => w.heap.size ≤ x ∧ l.ownBlock ≠ some x) m) (hb : Bw w1 wA) (hg : wA.grownBy w2 l.ownBlock)
    (ho : w2.ownsRow 0 T k l' (ms.length + 1) (ms.flatMap c ++ c m)) (hn : l'.ownBlock = l.ownBlock ∨ ∀ n, l'.ownBlock = some n → wA.heap.size ≤ n) : LI T k c okm w w2 l' (ms ++ [m]) :=
  (h.bw K hb).push K (Nat.le_trans hsz hb.size) (K _ _ _ _ _ hm hb.size (fun x hx _ => hb.block x hx) (fun _ _ g => g)) hg ho hn

theorem LI.rl (h : LI T k c okm w wr l ms) (K : KeepOk okm) (hl : ms.length ≤ maxLen) (hc : ∀ m, (c m).length = k) : RL wr (fun x => w.heap.size ≤ x) l k c (fun m => okm wr (fun x => w.heap.size ≤ x) m) ms :=
  ⟨own_sl0 h.own h.ob, fun m hm => K _ _ _ _ _ (h.mem m hm) (Nat.le_refl _) (fun _ _ _ => rfl) (fun _ _ g => g.1), hl, hc⟩

theorem LI.form (h : LI T k c okm w wr l ms) : ∃ a cap, l = .slice a ms.length cap := own_form h.own

/-- The new element's memory is apart from the list's row. -/
theorem LI.fresh (h : LI T k c okm w wr l ms) (K : KeepOk okm) {m : μ} (hm : okm w1 (fun x => wr.heap.size ≤ x) m) (hs : w.heap.size ≤ wr.heap.size) : okm w1 (fun x => w.heap.size ≤ x ∧ l.ownBlock ≠ some x) m :=
  K _ _ _ _ _ hm (Nat.le_refl _) (fun _ _ _ => rfl) (fun x _ hx => ⟨Nat.le_trans hs hx, fun e => by have := (h.own.lt x e).2; omega⟩)
end

/-- The reader where the list's row grows. -/
theorem RB.grown {base r : Nat} {w w1 w2 : World} {vb : Value} {b : List Int} {s : St} {l : Value} (h : RB base w1 r vb b s) (hg : w1.grownBy w2 l.ownBlock) (ho : ∀ n, l.ownBlock = some n → w.heap.size ≤ n) (hr : r < w.heap.size) (hb : base ≤ r) : RB base w2 r vb b s := by
  have hk : ∀ k, k < w1.heap.size → k ≤ r → w2.heap[k]? = w1.heap[k]? := fun k hk hl => hg.block k hk (fun e => by have := ho k e.symm; omega)
  exact ⟨h.k.keep (hk r h.k.lt (Nat.le_refl _)), h.sl.keep hg.size (fun x hx hl => hk x hx (by omega)) (fun _ _ g => g), h.bytes, h.len, h.at_, h.f, h.base⟩

theorem RB.other {base r : Nat} {w : World} {vb : Value} {b : List Int} {s : St} (h : RB base w r vb b s) {g : Nat} (hg : g ≠ r) (hb : base ≤ g) (j : Nat) (v : Value) : RB base (w.setCell ⟨g, j, none⟩ v) r vb b s :=
  ⟨h.k.other (p := ⟨g, j, none⟩) hg v, h.sl.keep (by simp [World.setCell]) (fun x hx hl => Below.heap_setCell w ⟨g, j, none⟩ v x (show x ≠ g by omega)) (fun _ _ g => g), h.bytes, h.len, h.at_, h.f, h.base⟩

theorem rep_zero {α : Type} (one : St → α × St) (acc : List α) (s : St) : rep one 0 acc s = (acc, s) := rfl
theorem rep_ok {α : Type} {one : St → α × St} {k : Nat} {acc : List α} {s s2 : St} {x : α} (h : one s = (x, s2)) (h0 : s2.2 = 0) : rep one (k + 1) acc s = rep one k (acc ++ [x]) s2 := by
  simp [rep, h, h0]
theorem rep_bad {α : Type} {one : St → α × St} {k : Nat} {acc : List α} {s s2 : St} {x : α} (h : one s = (x, s2)) (h0 : s2.2 ≠ 0) : rep one (k + 1) acc s = ([], s2) := by
  simp [rep, h, h0]

end Go.Proofs.YtfhnhbpmiodomaaDoor
