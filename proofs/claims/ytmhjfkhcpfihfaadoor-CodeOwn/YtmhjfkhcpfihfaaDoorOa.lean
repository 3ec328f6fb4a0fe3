/- What is decoded is owned: the rows of instructions can be written. -/
import Derived.Test.YtmhjfkhcpfihfaaDoorQk
set_option linter.unusedSimpArgs false
set_option linter.unusedVariables false
namespace Go.Proofs.YtmhjfkhcpfihfaaDoor
open Go Go.RowKit

/-- The n instructions of v lie in a row of their own, in a block of G. -/
def Wr (w : World) (G : Nat → Prop) (v : Value) (n : Nat) : Prop :=
  (v = .slice none 0 0 ∧ n = 0) ∨ ∃ g cap cur, v = .slice (some ⟨g, 0, none⟩) n cap ∧ g < w.heap.size ∧ G g ∧ w.heap[g]? = some (.cells cur 28 (0, 0)) ∧ n ≤ cap ∧ cur.size = cap * 3

theorem Wr.keep {w w' : World} {G G' : Nat → Prop} {v : Value} {n : Nat} (h : Wr w G v n) (hs : w.heap.size ≤ w'.heap.size) (hb : ∀ b, b < w.heap.size → G b → w'.heap[b]? = w.heap[b]?) (hG : ∀ b, b < w.heap.size → G b → G' b) : Wr w' G' v n := by
  rcases h with h | ⟨g, cap, cur, e, hl, hg, hc, h1, h2⟩
  · exact .inl h
  · exact .inr ⟨g, cap, cur, e, Nat.lt_of_lt_of_le hl hs, hG g hl hg, (hb g hl hg).trans hc, h1, h2⟩
theorem Wr.kpn {N r : Nat} {w w' : World} {v : Value} {n : Nat} (h : Wr w (fun x => N ≤ x) v n) (hk : Kp r w w') (hr : r < N) : Wr w' (fun x => N ≤ x) v n :=
  Wr.keep h hk.size (fun b hb hG => hk.block b hb (by omega)) (fun _ _ g => g)
theorem Wr.setn {N : Nat} {w : World} {v : Value} {n : Nat} (h : Wr w (fun x => N ≤ x) v n) {g : Nat} (hg : g < N) (j : Nat) (u : Value) : Wr (w.setCell ⟨g, j, none⟩ u) (fun x => N ≤ x) v n :=
  Wr.keep h (by simp [World.setCell]) (fun b hb hG => Below.heap_setCell w ⟨g, j, none⟩ u b (show b ≠ g by omega)) (fun _ _ g => g)
theorem Wr.low {N M : Nat} {w : World} {v : Value} {n : Nat} (h : Wr w (fun x => M ≤ x) v n) (hl : N ≤ M) : Wr w (fun x => N ≤ x) v n :=
  Wr.keep h (Nat.le_refl _) (fun _ _ _ => rfl) (fun b _ hb => Nat.le_trans hl hb)
theorem Wr.bw {w w' : World} {G : Nat → Prop} {v : Value} {n : Nat} (h : Wr w G v n) (hb : Bw w w') : Wr w' G v n :=
  Wr.keep h hb.size (fun b hl _ => hb.block b hl) (fun _ _ g => g)

theorem LI.wr {μ : Type} {c : μ → List Value} {okm : World → (Nat → Prop) → μ → Prop} {w wr : World} {l : Value} {ms : List μ} (h : LI 28 3 c okm w wr l ms) : Wr wr (fun x => w.heap.size ≤ x) l ms.length := by
  rcases h.own.2 with ⟨e, hn⟩ | ⟨g, cap, cur, e, hb, hg, hnc, hm, hsz, htake⟩
  · exact .inl ⟨e, hn⟩
  · exact .inr ⟨g, cap, cur, e, (Array.getElem?_eq_some_iff.1 hg).1, h.ob g (by rw [e]; rfl), hg, hnc, hsz⟩

def okO (w : World) (G : Nat → Prop) (m : MFn) : Prop := RFn w G m ∧ Wr w G m.vo m.f.code.length
theorem okO.keep {w w' : World} {G G' : Nat → Prop} {m : MFn} (h : okO w G m) (hs : w.heap.size ≤ w'.heap.size) (hb : ∀ b, b < w.heap.size → G b → w'.heap[b]? = w.heap[b]?) (hG : ∀ b, b < w.heap.size → G b → G' b) : okO w' G' m :=
  ⟨h.1.keep hs hb hG, h.2.keep hs hb hG⟩
theorem okO.kpn {N r : Nat} {w w' : World} {m : MFn} (h : okO w (fun x => N ≤ x) m) (hk : Kp r w w') (hr : r < N) : okO w' (fun x => N ≤ x) m :=
  okO.keep h hk.size (fun b hb hG => hk.block b hb (by omega)) (fun _ _ g => g)
theorem okO.setn {N : Nat} {w : World} {m : MFn} (h : okO w (fun x => N ≤ x) m) {g : Nat} (hg : g < N) (j : Nat) (u : Value) : okO (w.setCell ⟨g, j, none⟩ u) (fun x => N ≤ x) m :=
  okO.keep h (by simp [World.setCell]) (fun b hb hG => Below.heap_setCell w ⟨g, j, none⟩ u b (show b ≠ g by omega)) (fun _ _ g => g)
theorem okO.low {N M : Nat} {w : World} {m : MFn} (h : okO w (fun x => M ≤ x) m) (hl : N ≤ M) : okO w (fun x => N ≤ x) m :=
  okO.keep h (Nat.le_refl _) (fun _ _ _ => rfl) (fun b _ hb => Nat.le_trans hl hb)
theorem okO.bw {w w' : World} {G : Nat → Prop} {m : MFn} (h : okO w G m) (hb : Bw w w') : okO w' G m :=
  okO.keep h hb.size (fun b hl _ => hb.block b hl) (fun _ _ g => g)
theorem keepO : KeepOk (μ := MFn) okO := fun _ _ _ _ _ h hs hb hG => okO.keep h hs hb hG

/-- Functions whose instructions can be written, apart from the row of the functions. -/
def RFo (w : World) (G : Nat → Prop) (v : Value) (ms : List MFn) : Prop :=
  RFs w G v ms ∧ ∀ m ∈ ms, Wr w (fun x => G x ∧ v.ownBlock ≠ some x) m.vo m.f.code.length
theorem RFo.keep {w w' : World} {G G' : Nat → Prop} {v : Value} {ms : List MFn} (h : RFo w G v ms) (hs : w.heap.size ≤ w'.heap.size) (hb : ∀ b, b < w.heap.size → G b → w'.heap[b]? = w.heap[b]?) (hG : ∀ b, b < w.heap.size → G b → G' b) : RFo w' G' v ms :=
  ⟨RFs.keep h.1 hs hb hG, fun m hm => (h.2 m hm).keep hs (fun b hl g => hb b hl g.1) (fun b hl g => ⟨hG b hl g.1, g.2⟩)⟩
theorem RFo.kpn {N r : Nat} {w w' : World} {v : Value} {ms : List MFn} (h : RFo w (fun x => N ≤ x) v ms) (hk : Kp r w w') (hr : r < N) : RFo w' (fun x => N ≤ x) v ms :=
  RFo.keep h hk.size (fun b hb hG => hk.block b hb (by omega)) (fun _ _ g => g)
theorem RFo.setn {N : Nat} {w : World} {v : Value} {ms : List MFn} (h : RFo w (fun x => N ≤ x) v ms) {g : Nat} (hg : g < N) (j : Nat) (u : Value) : RFo (w.setCell ⟨g, j, none⟩ u) (fun x => N ≤ x) v ms :=
  RFo.keep h (by simp [World.setCell]) (fun b hb hG => Below.heap_setCell w ⟨g, j, none⟩ u b (show b ≠ g by omega)) (fun _ _ g => g)
theorem RFo.low {N M : Nat} {w : World} {v : Value} {ms : List MFn} (h : RFo w (fun x => M ≤ x) v ms) (hl : N ≤ M) : RFo w (fun x => N ≤ x) v ms :=
  RFo.keep h (Nat.le_refl _) (fun _ _ _ => rfl) (fun b _ hb => Nat.le_trans hl hb)
theorem RFo.bw {w w' : World} {G : Nat → Prop} {v : Value} {ms : List MFn} (h : RFo w G v ms) (hb : Bw w w') : RFo w' G v ms :=
  RFo.keep h hb.size (fun b hl _ => hb.block b hl) (fun _ _ g => g)
theorem RFo.form {w : World} {G : Nat → Prop} {v : Value} {ms : List MFn} (h : RFo w G v ms) : ∃ a c, v = .slice a ms.length c := RL.form h.1

theorem LI.rfo {w wr : World} {l : Value} {ms : List MFn} (h : LI 63 6 fnC okO w wr l ms) (K : KeepOk (μ := MFn) okO) (hl : ms.length ≤ maxLen) (hc : ∀ m, (fnC m).length = 6) : RFo wr (fun x => w.heap.size ≤ x) l ms := by
  have h' : LI 63 6 fnC (fun w G m => RFn w G m : World → (Nat → Prop) → MFn → Prop) w wr l ms := ⟨h.own, h.ob, fun m hm => (h.mem m hm).1⟩
  exact ⟨h'.rl keepF hl hc, fun m hm => (h.mem m hm).2⟩

/-- An image whose functions' instructions can be written. -/
def RIo (w : World) (G : Nat → Prop) (vf vs vk : Value) (m : AIm) : Prop :=
  (∃ ms : List MFn, ms.map (·.f) = m.funs ∧ RFo w G vf ms) ∧ RStrs w G vs m.strs ∧ RKeys w G vk m.keys ∧ I64 m.globals
theorem RIo.keep {w w' : World} {G G' : Nat → Prop} {vf vs vk : Value} {m : AIm} (h : RIo w G vf vs vk m) (hs : w.heap.size ≤ w'.heap.size) (hb : ∀ b, b < w.heap.size → G b → w'.heap[b]? = w.heap[b]?) (hG : ∀ b, b < w.heap.size → G b → G' b) : RIo w' G' vf vs vk m := by
  obtain ⟨⟨ms, e, h1⟩, h2, h3, h4⟩ := h
  exact ⟨⟨ms, e, h1.keep hs hb hG⟩, RL.keep h2 hs hb hG, h3.keep hs hb hG, h4⟩
theorem RIo.kpn {N r : Nat} {w w' : World} {vf vs vk : Value} {m : AIm} (h : RIo w (fun x => N ≤ x) vf vs vk m) (hk : Kp r w w') (hr : r < N) : RIo w' (fun x => N ≤ x) vf vs vk m :=
  RIo.keep h hk.size (fun b hb hG => hk.block b hb (by omega)) (fun _ _ g => g)
theorem RIo.setn {N : Nat} {w : World} {vf vs vk : Value} {m : AIm} (h : RIo w (fun x => N ≤ x) vf vs vk m) {g : Nat} (hg : g < N) (j : Nat) (u : Value) : RIo (w.setCell ⟨g, j, none⟩ u) (fun x => N ≤ x) vf vs vk m :=
  RIo.keep h (by simp [World.setCell]) (fun b hb hG => Below.heap_setCell w ⟨g, j, none⟩ u b (show b ≠ g by omega)) (fun _ _ g => g)
theorem RIo.low {N M : Nat} {w : World} {vf vs vk : Value} {m : AIm} (h : RIo w (fun x => M ≤ x) vf vs vk m) (hl : N ≤ M) : RIo w (fun x => N ≤ x) vf vs vk m :=
  RIo.keep h (Nat.le_refl _) (fun _ _ _ => rfl) (fun b _ hb => Nat.le_trans hl hb)
theorem RIo.bw {w w' : World} {G : Nat → Prop} {vf vs vk : Value} {m : AIm} (h : RIo w G vf vs vk m) (hb : Bw w w') : RIo w' G vf vs vk m :=
  RIo.keep h hb.size (fun b hl _ => hb.block b hl) (fun _ _ g => g)
theorem RIo.im {w : World} {G : Nat → Prop} {vf vs vk : Value} {m : AIm} (h : RIo w G vf vs vk m) : RIm w G vf vs vk m := by
  obtain ⟨⟨ms, e, h1⟩, h2⟩ := h
  exact ⟨⟨ms, e, h1.1⟩, h2⟩
theorem RIo.none (w : World) (G : Nat → Prop) : RIo w G (.slice none 0 0) (.slice none 0 0) (.slice none 0 0) AIm.none := by
  obtain ⟨_, h2⟩ := RIm.none w G
  exact ⟨⟨[], rfl, ⟨Sl.nil _ _ _, by simp, by simp, fun _ => rfl⟩, by simp⟩, h2⟩

end Go.Proofs.YtmhjfkhcpfihfaaDoor
