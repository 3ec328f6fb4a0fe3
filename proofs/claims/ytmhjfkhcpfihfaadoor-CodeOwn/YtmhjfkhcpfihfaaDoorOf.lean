/- What is carried while what was decoded is overwritten. -/
import Derived.Test.YtmhjfkhcpfihfaaDoorFl
import Derived.Test.YtmhjfkhcpfihfaaDoorOe
set_option linter.unusedVariables false
set_option linter.unusedSimpArgs false
namespace Go.Proofs.YtmhjfkhcpfihfaaDoor
open Go Go.RowKit

theorem dec_o {w : World} {v : Value} {b : List Int} (h : Bs w v b) (hb : Byt b) (hl : b.length ≤ 4194304) (s : St) (hs : decS b = s) (x : AIm) (hx : decI b = x) :
    Calls Tryd.prog 20 #[v] w fun e w' => Bw w w' ∧ ∃ n1 n2 n3 a1 a2 a3 c1 c2 c3, e = .returned (.tuple #[ImA n1 n2 n3 a1 a2 a3 c1 c2 c3 x, .int .i64 s.2, .int .i64 s.1]) ∧ RIo w' (fun y => w.heap.size ≤ y) (.slice a1 n1 c1) (.slice a2 n2 c2) (.slice a3 n3 c3) x := by
  subst hs hx
  refine Calls.mono (decode_own v b h hb hl) fun e w' h => ?_
  obtain ⟨hb, vf, vs, vk, he, hi⟩ := h
  obtain ⟨n1, a1, c1, rfl⟩ := hi.im.f1
  obtain ⟨n2, a2, c2, rfl⟩ := hi.im.f2
  obtain ⟨n3, a3, c3, rfl⟩ := hi.im.f3
  exact ⟨hb, n1, n2, n3, a1, a2, a3, c1, c2, c3, he, hi⟩

theorem own_blk {w : World} {N : Nat} {v : Value} {B : List Int} (h : w.ownsRow N 5 1 v B.length (B.map (Value.int .u8))) (hn : 4 ≤ B.length) :
    ∃ g cap cur, v = .slice (some ⟨g, 0, none⟩) B.length cap ∧ N ≤ g ∧ Blk w g cur 5 ∧ B.length ≤ cur.size ∧ Bs w v B := by
  have h0 : Bs w v B := own_sl (G := fun _ => True) h (fun _ _ => trivial)
  rcases h.2 with ⟨_, e⟩ | ⟨g, cap, cur, rfl, hb, hg, hnc, hm, hsz, _⟩
  · omega
  · exact ⟨g, cap, cur, rfl, hb, hg, by omega, h0⟩

theorem bw_setN {a b : World} (h : Bw a b) {g : Nat} (hg : a.heap.size ≤ g) (j : Nat) (v : Value) : Bw a (b.setCell ⟨g, j, none⟩ v) :=
  ⟨h.os, h.tape, h.output, by simpa [World.setCell] using h.size, fun k hk => (Below.heap_setCell b ⟨g, j, none⟩ v k (show k ≠ g by omega)).trans (h.block k hk)⟩

theorem Wr.put {w : World} {G : Nat → Prop} {v : Value} {n : Nat} (h : Wr w G v n) (g j : Nat) (u : Value) : Wr (w.setCell ⟨g, j, none⟩ u) G v n := by
  rcases h with h | ⟨g', cap, cur, e, hl, hG, hc, h1, h2⟩
  · exact .inl h
  · by_cases hg : g' = g
    · subst hg
      exact .inr ⟨g', cap, cur.setIfInBounds j u, e, by simpa [World.setCell] using hl, hG, Blk.set hc j u, h1, by simpa using h2⟩
    · exact .inr ⟨g', cap, cur, e, by simpa [World.setCell] using hl, hG, (Below.heap_setCell w ⟨g, j, none⟩ u g' hg).trans hc, h1, h2⟩

/-- While the bytes are overwritten. -/
structure OS (wE : World) (A D : Nat) (vf vs vk : Value) (m : AIm) (wr : World) : Prop where
  bw : Bw wE wr
  im : RIo wr (fun y => A ≤ y ∧ y < D) vf vs vk m
  box : Blk wr D #[vf, vs, vk, .int .i64 m.globals] 26

section
variable {wE wr wD w' : World} {A D : Nat} {vf vs vk : Value} {m : AIm} {ms : List MFn}

theorem OS.setB (h : OS wE A D vf vs vk m wr) {g : Nat} (h1 : wE.heap.size ≤ g) (h2 : g < A) (h3 : A ≤ D) (j : Nat) (v : Value) : OS wE A D vf vs vk m (wr.setCell ⟨g, j, none⟩ v) :=
  ⟨bw_setN h.bw h1 j v, h.im.keep (by simp [World.setCell]) (fun b hb hG => Below.heap_setCell wr ⟨g, j, none⟩ v b (show b ≠ g by omega)) (fun _ _ g => g), h.box.other (p := ⟨g, j, none⟩) (show g ≠ D by omega) v⟩

theorem OS.start (hb : Bw wE wD) (hi : RIo wD (fun y => A ≤ y) vf vs vk m) :
    OS wE A wD.heap.size vf vs vk m (wD.alloc (.cells #[vf, vs, vk, .int .i64 m.globals] 26)) := by
  have hbw : Bw wD (wD.alloc (.cells #[vf, vs, vk, .int .i64 m.globals] 26)) := Bw.alloc (Bw.refl wD) _
  exact ⟨hb.trans hbw, hi.keep hbw.size (fun b hl _ => hbw.block b hl) (fun b hl g => ⟨g, hl⟩), Blk.new wD _ _⟩

theorem OS.bwr (h : OS wE A D vf vs vk m wr) (hb : Bw wr w') : OS wE A D vf vs vk m w' := ⟨h.bw.trans hb, h.im.bw hb, h.box.bw hb⟩

/-- While the instructions are overwritten. -/
structure QS (wE : World) (D : Nat) (vf vs vk : Value) (m : AIm) (ms : List MFn) (wr : World) : Prop where
  bw : Bw wE wr
  box : Blk wr D #[vf, vs, vk, .int .i64 m.globals] 26
  row : Sl wr (fun x => vf.ownBlock = some x) vf ms.length 6 (ms.flatMap fnC)
  len : ms.length ≤ maxLen
  cl : ∀ m ∈ ms, m.f.code.length ≤ maxLen
  wr : ∀ m ∈ ms, Wr wr (fun x => wE.heap.size ≤ x ∧ x ≠ D ∧ vf.ownBlock ≠ some x) m.vo m.f.code.length

theorem OS.qs (h : OS wE A D vf vs vk m wr) (hE : wE.heap.size ≤ A) : ∃ ms, QS wE D vf vs vk m ms wr := by
  obtain ⟨⟨ms, e, hf, hw⟩, _⟩ := h.im
  refine ⟨ms, h.bw, h.box, ?_, hf.2.2.1, fun m hm => (hf.2.1 m hm).o.2.2.1, fun m hm => (hw m hm).keep (Nat.le_refl _) (fun _ _ _ => rfl) (fun b _ g => ⟨by have := g.1.1; omega, by have := g.1.2; omega, g.2⟩)⟩
  obtain ⟨hl, a, cap, rfl, hn, hc⟩ := hf.1
  refine ⟨hl, a, cap, rfl, hn, ?_⟩
  rcases hc with hc | ⟨g, o, rfl, hlt, hG, hcs⟩
  · exact .inl hc
  · exact .inr ⟨g, o, rfl, hlt, rfl, hcs⟩

theorem QS.bwr (h : QS wE D vf vs vk m ms wr) (hb : Bw wr w') : QS wE D vf vs vk m ms w' :=
  ⟨h.bw.trans hb, h.box.bw hb, h.row.keep hb.size (fun b hl _ => hb.block b hl) (fun _ _ g => g), h.len, h.cl, fun m hm => (h.wr m hm).bw hb⟩

theorem QS.put (h : QS wE D vf vs vk m ms wr) {g : Nat} (hg : wE.heap.size ≤ g ∧ g ≠ D ∧ vf.ownBlock ≠ some g) (j : Nat) (v : Value) : QS wE D vf vs vk m ms (wr.setCell ⟨g, j, none⟩ v) :=
  ⟨bw_setN h.bw hg.1 j v, h.box.other (p := ⟨g, j, none⟩) hg.2.1 v, h.row.keep (by simp [World.setCell]) (fun b hb hG => Below.heap_setCell wr ⟨g, j, none⟩ v b (show b ≠ g from fun e => hg.2.2 (e ▸ hG))) (fun _ _ g => g), h.len, h.cl, fun m hm => (h.wr m hm).put g j v⟩

theorem QS.form {a : Option Addr} {n c : Nat} (h : QS wE D (.slice a n c) vs vk m ms wr) : n = ms.length := by
  obtain ⟨hl, a', cap, e, _⟩ := h.row
  cases e
  rfl

theorem QS.at {a : Option Addr} {n c : Nat} {M : MFn} (h : QS wE D (.slice a n c) vs vk m ms wr) {i : Nat} (hM : ms[i]? = some M) :
    ∃ g o, a = some ⟨g, o, none⟩ ∧ ms.length ≤ c ∧ g < wr.heap.size ∧ wr.cell? ⟨g, o + i * 6 + 4, none⟩ = some M.vo := by
  obtain ⟨hi, rfl⟩ := List.getElem?_eq_some_iff.1 hM
  have hr : RL wr (fun x => (Value.slice a n c).ownBlock = some x) (.slice a n c) 6 fnC (fun _ => True) ms := ⟨h.row, fun _ _ => trivial, h.len, fun _ => rfl⟩
  obtain ⟨g, o, cap, e, hc, hg, _, x⟩ := hr.parts hi (by decide)
  cases e
  have x4 := x 4 (by decide)
  rw [← Nat.add_assoc] at x4
  exact ⟨g, o, rfl, hc, hg, x4⟩

/-- The row of a function's instructions. -/
theorem Wr.at {w : World} {G : Nat → Prop} {v : Value} {n k : Nat} (h : Wr w G v n) (hk : k < n) :
    ∃ g cap cur, v = .slice (some ⟨g, 0, none⟩) n cap ∧ G g ∧ n ≤ cap ∧ Blk w g cur 28 ∧ k * 3 + 3 ≤ cur.size := by
  rcases h with ⟨_, h⟩ | ⟨g, cap, cur, e, hl, hG, hc, h1, h2⟩
  · omega
  · exact ⟨g, cap, cur, e, hG, h1, hc, by omega⟩

theorem Wr.form {w : World} {G : Nat → Prop} {v : Value} {n : Nat} (h : Wr w G v n) : ∃ a cap, v = .slice a n cap := by
  rcases h with ⟨e, h⟩ | ⟨g, cap, cur, e, _⟩
  · subst h; exact ⟨_, _, e⟩
  · exact ⟨_, _, e⟩

end

end Go.Proofs.YtmhjfkhcpfihfaaDoor
