/- The resolver: enter, leave. · The resolver: enter's contract. -/
import Derived.Test.YtdhkcdehedbpcaaDoorM29
import Derived.Maps.RangeWalk
import Derived.Defers
set_option linter.unusedSimpArgs false
set_option linter.unusedVariables false
namespace Go.Proofs.YtdhkcdehedbpcaaDoor
open Go Go.RowKit
section
variable {w : World} {X : ZX} {z : ZS} {B : ZB}

def entρ (names : Option (ByteArray → Option Int)) (old nb : Nat) (ρ : Nat → Nat) : Nat → Nat := fun b => if b = nb then 7 else if names.isSome = true ∧ b = old then 0 else ρ b

def Bk (w : World) (X : ZX) (z : ZS) (nb : Nat) (ρ : Nat → Nat) : Prop := (∀ m, z.names = some m → MS w nb m z.nc ∧ ρ nb = 0 ∧ nb ≠ X.g ∧ nb ≠ X.ab ∧ nb ≠ 0) ∧ z.nc ≤ 100000

theorem RS.entered (h : RS w X z B) (g : Nat) (n : Int) {W : World} (hW : W = (w.alloc (.map #[] 0))) :
  RS (((W.setCell ⟨X.r, 0, none⟩ (.map (some w.heap.size))).setCell ⟨X.r, 1, none⟩ (.int .i64 g)).setCell ⟨X.r, 2, none⟩ (.int .i64 n)) X (zenter z g n) { B with nb := w.heap.size, ρ := entρ z.names B.nb w.heap.size B.ρ } ∧
  NX B.ρ w (((W.setCell ⟨X.r, 0, none⟩ (.map (some w.heap.size))).setCell ⟨X.r, 1, none⟩ (.int .i64 g)).setCell ⟨X.r, 2, none⟩ (.int .i64 n)) (entρ z.names B.nb w.heap.size B.ρ) ∧
  Bk (((W.setCell ⟨X.r, 0, none⟩ (.map (some w.heap.size))).setCell ⟨X.r, 1, none⟩ (.int .i64 g)).setCell ⟨X.r, 2, none⟩ (.int .i64 n)) X z B.nb (entρ z.names B.nb w.heap.size B.ρ) := by
 have hb : Bw w W := by rw [hW]; exact Bw.alloc (Bw.refl w) _
 have hsz : W.heap.size = w.heap.size + 1 := by rw [hW]; simp
 have hM : MS W w.heap.size (fun _ => none) 0 := by rw [hW]; exact MS.new w
 have hH := h.x.bw hb
 have hB := h.blk.bw hb
 have hlt := h.x.rl
 -- roles of what is not names
 have hnew : ∀ {b : Nat}, b < w.heap.size → B.ρ b ≠ 7 → entρ z.names B.nb w.heap.size B.ρ b = B.ρ b := by
  intro b hb1 h7
  unfold entρ
  rw [if_neg (by omega)]
  split
  ·rename_i e
   obtain ⟨e1, e2⟩ := e
   cases hn : z.names with
   | none => rw [hn] at e1; cases e1
   | some m => exact absurd (e2 ▸ (h.x.nams (by decide) m hn).2) h7
  ·rfl
 have row : ∀ {j e size k : Nat} {v : Value} {xs : List Value}, W.ownsRow 0 e size v k xs ∧ (∀ b, v.ownBlock = some b → B.ρ b = j) → w.ownsRow 0 e size v k xs → j ≠ 7 → W.ownsRow 0 e size v k xs ∧ (∀ b, v.ownBlock = some b → entρ z.names B.nb w.heap.size B.ρ b = j) := by
  intro j e size k v xs h1 h0 hj
  exact ⟨h1.1, fun b hb => by rw [hnew (h0.lt b hb).2 (by rw [h1.2 b hb]; exact hj)]; exact h1.2 b hb⟩
 have hx : RX 1 W X (zenter z g n) { B with nb := w.heap.size, ρ := entρ z.names B.nb w.heap.size B.ρ } := by
  refine ⟨(hnew hlt (by rw [h.x.rr]; decide)).trans h.x.rr, by omega, fun e => row (hH.funs (by decide)) (h.x.funs (by decide)).1 (by decide), fun e => row (hH.uses (by decide)) (h.x.uses (by decide)).1 (by decide), fun e => row (hH.globs (by decide)) (h.x.globs (by decide)).1 (by decide), fun e => row (hH.decl (by decide)) (h.x.decl (by decide)).1 (by decide), fun _ => ?_, fun _ m e => ?_, fun i q hq e => row (hH.caps i q hq (by omega)) (h.x.caps i q hq (by omega)).1 (by omega), hH.map0, fun i q hq hi e => ?_, ⟨hH.nc.1, (hnew h.x.nc.1.lt (by rw [h.x.nc.2]; decide)).trans h.x.nc.2⟩, ⟨hH.ah.1, (hnew h.x.ah.1.lt (by rw [h.x.ah.2]; decide)).trans h.x.ah.2⟩, ⟨hH.pr.1, (hnew h.x.pr.1.1 (by rw [h.x.pr.2]; decide)).trans h.x.pr.2⟩, fun b hb2 => ?_, hH.kf, hH.ul, hH.nl, hH.ll, ⟨hH.bd.1, hH.bd.2.1, hH.bd.2.2.1, hH.bd.2.2.2.1, Nat.zero_le _⟩, hH.bf⟩
  ·exact ⟨(hH.seen (by decide)).1, (hnew (h.x.seen (by decide)).1.lt (by rw [(h.x.seen (by decide)).2]; decide)).trans (h.x.seen (by decide)).2⟩
  ·cases e
   exact ⟨hM, by simp [entρ]⟩
  ·obtain ⟨b, h1, h2, h3⟩ := hH.maps i q hq hi (by omega)
   obtain ⟨b', h1', h2', h3'⟩ := h.x.maps i q hq hi (by omega)
   rw [h1] at h1'
   cases h1'
   exact ⟨b, h1, h2, (hnew h2'.lt (by rw [h3]; omega)).trans h3⟩
  ·show entρ z.names B.nb w.heap.size B.ρ b = 0
   unfold entρ
   rw [if_neg (by omega)]
   split
   ·rfl
   ·exact h.x.top b (by omega)
 refine ⟨⟨((hB.set 0 _).set 1 _).set 2 _, ((hx.setR 0 _).setR 1 _).setR 2 _⟩, ?_, ?_⟩
 ·have hr : entρ z.names B.nb w.heap.size B.ρ X.r ≠ 0 := by rw [hnew hlt (by rw [h.x.rr]; decide), h.x.rr]; decide
  refine NX.set (NX.set (NX.set ?_ hr 0 _) hr 1 _) hr 2 _
  refine ⟨hb.os, hb.tape, hb.output, hb.size, fun b hb1 _ => hb.block b hb1, fun b hb1 h0 => ?_⟩
  unfold entρ
  rw [if_neg (by omega)]
  split
  ·rfl
  ·exact h0
 ·refine ⟨fun m hm => ?_, h.x.bd.2.2.2.2⟩
  obtain ⟨h1, h2⟩ := h.x.nams (by decide) m hm
  have hne : B.nb ≠ X.r := fun e => by rw [e, h.x.rr] at h2; cases h2
  refine ⟨h1.keep ?_, ?_, ?_, ?_, ?_⟩
  rotate_left 2
  ·exact fun e => by rw [e, h.x.nc.2] at h2; cases h2
  ·exact fun e => by rw [e, h.x.ah.2] at h2; cases h2
  ·exact fun e => by rw [e, h.x.pr.2] at h2; cases h2
  ·rw [Below.heap_setCell _ _ _ _ hne, Below.heap_setCell _ _ _ _ hne, Below.heap_setCell _ _ _ _ hne]
   exact hb.block _ h1.lt
  ·have := h1.lt
   unfold entρ
   rw [if_neg (by omega), if_pos ⟨by rw [hm]; rfl, rfl⟩]

end
end Go.Proofs.YtdhkcdehedbpcaaDoor

namespace Go.Proofs.YtdhkcdehedbpcaaDoor
open Go Go.RowKit
section
variable {w : World} {X : ZX} {z : ZS} {B : ZB}
theorem alloc_setCell {w : World} {g i : Nat} (hg : g < w.heap.size) (v : Value) (o : Obj) : (w.setCell ⟨g, i, none⟩ v).alloc o = (w.alloc o).setCell ⟨g, i, none⟩ v := (World.setCell_alloc_past o g i v hg).symm

set_option maxRecDepth 100000 in
set_option maxHeartbeats 4000000 in
theorem enter_any (h : RS w X z B) (g : Nat) (n : Int) : Calls Tryd.prog 91 #[.pointer (some ⟨X.r, 0, none⟩), .int .i64 g, .int .i64 n] w fun e' w' => ∃ nb, e' = .returned (.agg #[.map (nmO z.names B.nb), .int .i64 z.fn, .int .i64 z.loops]) ∧ RS w' X (zenter z g n) { B with nb := nb, ρ := entρ z.names B.nb nb B.ρ } ∧ NX B.ρ w w' (entρ z.names B.nb nb B.ρ) ∧ Bk w' X z B.nb (entρ z.names B.nb nb B.ρ) := by
 have c0 : w.cell? ⟨X.r, 0, none⟩ = some (.map (nmO z.names B.nb)) := h.blk.cell 0
 have c1 : w.cell? ⟨X.r, 1, none⟩ = some (.int .i64 z.fn) := h.blk.cell 1
 have c2 : w.cell? ⟨X.r, 2, none⟩ = some (.int .i64 z.loops) := h.blk.cell 2
 have hf := h.blk.free
 have hl := h.blk.lt
 have HB := hid (fun (o1 o2 : Obj) => Bw.alloc (Bw.alloc (Bw.refl w) o1) o2)
 have HE := hid (fun (o1 o2 : Obj) => (h.bw (HB.out o1 o2)).entered g n rfl)
 clear h
 generalize nmO z.names B.nb = nv at c0 ⊢
 have hmm := @run_makeMap Tryd.prog
 go_enter Tryd.func91, Tryd.ntmps91
 go_wp2
 refine bodyPost_ret (v := .agg #[.map nv, .int .i64 z.fn, .int .i64 z.loops]) (by simp [results, Tryd.results91, go_sem]) rfl ?_
 obtain ⟨E1, E2, E3⟩ := HE.out (.cells #[.map nv, .int .i64 z.fn, .int .i64 z.loops] 79) (.cells #[.map nv, .int .i64 z.fn, .int .i64 z.loops] 79)
 have hsz : (((w.alloc (.cells #[.map nv, .int .i64 z.fn, .int .i64 z.loops] 79)).alloc (.cells #[.map nv, .int .i64 z.fn, .int .i64 z.loops] 79))).heap.size = w.heap.size + 1 + 1 := by simp
 refine ⟨w.heap.size + 1 + 1, rfl, ?_⟩
 rw [hsz] at E1 E2 E3
 rw [alloc_setCell (by first | exact hl | simpa using hl | (simp; omega)), alloc_setCell (by first | exact hl | simpa using hl | (simp; omega)), alloc_setCell (by first | exact hl | simpa using hl | (simp; omega))]
 rw [alloc_setCell (by first | exact hl | simpa using hl | (simp; omega)), alloc_setCell (by first | exact hl | simpa using hl | (simp; omega)), alloc_setCell (by first | exact hl | simpa using hl | (simp; omega))]
 rw [alloc_setCell (by first | exact hl | simpa using hl | (simp; omega)), alloc_setCell (by first | exact hl | simpa using hl | (simp; omega)), alloc_setCell (by first | exact hl | simpa using hl | (simp; omega))]
 exact ⟨E1, (NX.of_bw B.ρ (HB.out _ _)).trans E2, E3⟩
end
end Go.Proofs.YtdhkcdehedbpcaaDoor

