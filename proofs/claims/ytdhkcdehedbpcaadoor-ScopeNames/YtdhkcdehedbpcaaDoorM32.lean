/- The resolver: leave. · The resolver: leave's contract. -/
import Derived.Test.YtdhkcdehedbpcaaDoorM31
set_option linter.unusedSimpArgs false
set_option linter.unusedVariables false
namespace Go.Proofs.YtdhkcdehedbpcaaDoor
open Go Go.RowKit
section
variable {w : World} {X : ZX} {z b : ZS} {B : ZB}

def part (left : Lit → Bool) (m seen : ByteArray → Option Int) : ByteArray → Option Int := fun s => if left (.string s.data.toList) then seen s else unhide m seen s

theorem part_all (m seen : ByteArray → Option Int) {D : DataW Unit} (hD : SmD D m) : part (Maps.has D) m seen = seen := by
 funext s
 unfold part unhide
 cases hm : m s with
 | none => simp
 | some h => rw [hD.has, hm]; simp
theorem part_none (m seen : ByteArray → Option Int) {left : Lit → Bool} (hl : ∀ k, left k = false) : part left m seen = unhide m seen := by
 funext s
 unfold part
 rw [hl]
 simp

theorem str_same (s u : ByteArray) : (Lit.string s.data.toList).sameKey (.string u.data.toList) = decide (s = u) := by
 by_cases h : s = u
 ·subst h; simp [Lit.sameKey]
 ·have : ¬ s.data = u.data := fun e => h (by cases s; cases u; simp only [ByteArray.mk.injEq]; exact e)
  simp only [Lit.sameKey, decide_eq_false h]
  simp [this]

theorem part_del (m seen : ByteArray → Option Int) {left : Lit → Bool} {u : ByteArray} (hl : left (.string u.data.toList) = true) (hm : m u = some (-1)) :
  part (fun k => left k && !k.sameKey (.string u.data.toList)) m seen = mdel (part left m seen) u := by
 funext s
 unfold part mdel
 simp only [str_same]
 by_cases h : s = u
 ·subst h; simp [unhide, hm]
 ·simp [h]
theorem part_put (m seen : ByteArray → Option Int) {left : Lit → Bool} {u : ByteArray} (hl : left (.string u.data.toList) = true) {x : Int} (hm : m u = some x) (hx : x ≠ -1) :
  part (fun k => left k && !k.sameKey (.string u.data.toList)) m seen = mput (part left m seen) u x := by
 funext s
 unfold part mput
 simp only [str_same]
 by_cases h : s = u
 ·subst h; simp [unhide, hm, hx]
 ·simp [h]

theorem keyOf_str_inv {key : Value} {kl : Lit} (h : keyOf Tryd.prog 9 key = some kl) : ∃ x : ByteArray, key = .string x ∧ kl = .string x.data.toList := by
 have hk := Tryd.underlying9
 cases key <;> simp [keyOf, hk, mapKey] at h
 obtain ⟨_, rfl⟩ := h
 exact ⟨_, rfl, rfl⟩

theorem RX.aside {w' : World} {x : Nat} (h : RX 1 w X z B) (hs : w.heap.size ≤ w'.heap.size) (hk : ∀ b, b < w.heap.size → b ≠ x → w'.heap[b]? = w.heap[b]?) (h0 : B.ρ x = 0) (hg : X.g ≠ x) (ha : X.ab ≠ x) (hp : 0 ≠ x) : RX 1 w' X z B := by
 have ne : ∀ {b j : Nat}, B.ρ b = j → j ≠ 0 → b ≠ x := fun e hj k => hj (by rw [← e, k]; exact h0)
 have row : ∀ {j e size n : Nat} {v : Value} {xs : List Value}, w.ownsRow 0 e size v n xs ∧ (∀ b, v.ownBlock = some b → B.ρ b = j) → j ≠ 0 → w'.ownsRow 0 e size v n xs ∧ (∀ b, v.ownBlock = some b → B.ρ b = j) := by
  intro j e size n v xs h1 hj
  exact ⟨own_keep8 h1.1 (fun b hb => hk b (h1.1.lt b hb).2 (ne (h1.2 b hb) hj)), h1.2⟩
 refine ⟨h.rr, Nat.lt_of_lt_of_le h.rl hs, fun _ => row (h.funs (by decide)) (by decide), fun _ => row (h.uses (by decide)) (by decide), fun _ => row (h.globs (by decide)) (by decide), fun _ => row (h.decl (by decide)) (by decide), fun _ => ?_, fun _ m hm => ?_, fun i q hq _ => row (h.caps i q hq (by omega)) (by omega), h.map0, fun i q hq hi _ => ?_, ⟨h.nc.1.keep hs (hk _ h.nc.1.lt hg), h.nc.2⟩, ⟨h.ah.1.keep (hk _ h.ah.1.lt ha), h.ah.2⟩, ⟨h.pr.1.keep hs (hk _ h.pr.1.1 hp), h.pr.2⟩, fun b hb => h.top b (Nat.le_trans hs hb), h.kf, h.ul, h.nl, h.ll, h.bd, h.bf⟩
 ·obtain ⟨h1, h2⟩ := h.seen (by decide)
  exact ⟨h1.keep (hk _ h1.lt (ne h2 (by decide))), h2⟩
 ·obtain ⟨h1, h2⟩ := h.nams (by decide) m hm
  exact ⟨h1.keep (hk _ h1.lt (ne h2 (by decide))), h2⟩
 ·obtain ⟨b, h1, h2, h3⟩ := h.maps i q hq hi (by omega)
  exact ⟨b, h1, h2.keep (hk _ h2.lt (ne h3 (by omega))), h3⟩
theorem RS.aside {w' : World} {x : Nat} (h : RS w X z B) (hg : w.grownBy w' (some x)) (h0 : B.ρ x = 0) (hg1 : X.g ≠ x) (ha : X.ab ≠ x) (hp : 0 ≠ x) : RS w' X z B :=
 ⟨h.blk.keep (hg.block _ h.blk.lt (fun e => by have := Option.some.inj e; have h2 := h.x.rr; rw [this, h0] at h2; cases h2)), h.x.aside hg.size (fun b hb hne => hg.block b hb (fun e => hne (Option.some.inj e))) h0 hg1 ha hp⟩

def backρ (names : Option (ByteArray → Option Int)) (nb : Nat) (ρ : Nat → Nat) : Nat → Nat := fun x => if names.isSome = true ∧ x = nb then 7 else ρ x

theorem RS.left (h : RS w X z B) {nb : Nat} (hb : Bk w X b nb B.ρ) :
  RS (((w.setCell ⟨X.r, 0, none⟩ (.map (nmO b.names nb))).setCell ⟨X.r, 1, none⟩ (.int .i64 b.fn)).setCell ⟨X.r, 2, none⟩ (.int .i64 b.loops)) X { z with names := b.names, fn := b.fn, loops := b.loops, nc := b.nc } { B with nb := nb, ρ := backρ b.names nb B.ρ } := by
 have hx := h.x
 have old : ∀ {x j : Nat}, B.ρ x = j → j ≠ 0 → backρ b.names nb B.ρ x = j := by
  intro x j e hj
  unfold backρ
  split
  ·rename_i k
   obtain ⟨k1, k2⟩ := k
   cases hn : b.names with
   | none => rw [hn] at k1; cases k1
   | some m => have h2 := (hb.1 m hn).2.1; rw [← k2, e] at h2; exact absurd h2 hj
  ·exact e
 have ext : ∀ {x : Nat}, B.ρ x = 0 → (∀ m, b.names = some m → x ≠ nb) → backρ b.names nb B.ρ x = 0 := by
  intro x e hne
  unfold backρ
  split
  ·rename_i k
   obtain ⟨k1, k2⟩ := k
   cases hn : b.names with
   | none => rw [hn] at k1; cases k1
   | some m => exact absurd k2 (hne m hn)
  ·exact e
 have row : ∀ {j e size n : Nat} {v : Value} {xs : List Value}, w.ownsRow 0 e size v n xs ∧ (∀ b, v.ownBlock = some b → B.ρ b = j) → j ≠ 0 → w.ownsRow 0 e size v n xs ∧ (∀ x, v.ownBlock = some x → backρ b.names nb B.ρ x = j) := by
  intro j e size n v xs h1 hj
  exact ⟨h1.1, fun x hx => old (h1.2 x hx) hj⟩
 have hx2 : RX 1 w X { z with names := b.names, fn := b.fn, loops := b.loops, nc := b.nc } { B with nb := nb, ρ := backρ b.names nb B.ρ } := by
  refine ⟨old hx.rr (by decide), hx.rl, fun _ => row (hx.funs (by decide)) (by decide), fun _ => row (hx.uses (by decide)) (by decide), fun _ => row (hx.globs (by decide)) (by decide), fun _ => row (hx.decl (by decide)) (by decide), fun _ => ⟨(hx.seen (by decide)).1, old (hx.seen (by decide)).2 (by decide)⟩, fun _ m hm => ⟨(hb.1 m hm).1, ?_⟩, fun i q hq _ => row (hx.caps i q hq (by omega)) (by omega), hx.map0, fun i q hq hi _ => ?_, ⟨hx.nc.1, ext hx.nc.2 (fun m hm e => (hb.1 m hm).2.2.1 e.symm)⟩, ⟨hx.ah.1, ext hx.ah.2 (fun m hm e => (hb.1 m hm).2.2.2.1 e.symm)⟩, ⟨hx.pr.1, ext hx.pr.2 (fun m hm e => (hb.1 m hm).2.2.2.2 e.symm)⟩, fun x hx1 => ext (hx.top x hx1) (fun m hm e => ?_), hx.kf, hx.ul, hx.nl, hx.ll, ⟨hx.bd.1, hx.bd.2.1, hx.bd.2.2.1, hx.bd.2.2.2.1, hb.2⟩, hx.bf⟩
  ·show backρ b.names nb B.ρ nb = 7
   unfold backρ
   rw [if_pos ⟨by rw [show b.names = some m from hm]; rfl, rfl⟩]
  ·obtain ⟨x, h1, h2, h3⟩ := hx.maps i q hq hi (by omega)
   exact ⟨x, h1, h2, old h3 (by omega)⟩
  ·have := (hb.1 m hm).1.lt
   have h2 : w.heap.size ≤ x := hx1
   omega
 exact ⟨((h.blk.set 0 _).set 1 _).set 2 _, ((hx2.setR 0 _).setR 1 _).setR 2 _⟩
theorem NX.left {ρ ρ2 : Nat → Nat} {w w2 : World} {names : Option (ByteArray → Option Int)} {nb : Nat} (h : NX ρ w w2 ρ2) (hn : ∀ m, names = some m → ρ nb ≠ 0 ∨ w.heap.size ≤ nb) : NX ρ w w2 (backρ names nb ρ2) :=
 ⟨h.os, h.tape, h.output, h.size, h.block, fun x hx h0 => by
  unfold backρ
  split
  ·rename_i k
   obtain ⟨k1, k2⟩ := k
   cases hm : names with
   | none => rw [hm] at k1; cases k1
   | some m =>
    rcases hn m hm with h2 | h2
    ·exact absurd (k2 ▸ h0) h2
    ·omega
  ·exact h.new x hx h0⟩
theorem Bk.nx {ρ : Nat → Nat} {w w2 : World} {nb : Nat} {ρ2 : Nat → Nat} (h : Bk w X b nb ρ) (k : NX ρ w w2 ρ2) : Bk w2 X b nb ρ2 :=
 ⟨fun m hm => by
  obtain ⟨h1, h2, h3⟩ := h.1 m hm
  exact ⟨h1.keep (k.block _ h1.lt h2), k.new _ h1.lt h2, h3⟩, h.2⟩
end
end Go.Proofs.YtdhkcdehedbpcaaDoor

namespace Go.Proofs.YtdhkcdehedbpcaaDoor
open Go Go.RowKit
section
variable {w : World} {X : ZX} {z : ZS} {B : ZB}

structure LV (w wr : World) (X : ZX) (z : ZS) (B : ZB) (m : ByteArray → Option Int) (D : DataW Unit) (nv : Value) (fn lo : Value) (left : Lit → Bool) (cnt : Nat) : Prop where
 rg : wr.ranges Tryd.prog 9 (plainElem (H := Unit) Tryd.prog 3) B.nb (w.heap.size + 1) z.nc D left cnt
 rs : RS wr X { z with seen := part left m z.seen, cnt := z.cnt + (z.nc - cnt) } B
 nx : NX B.ρ w wr B.ρ
 le : cnt ≤ z.nc
 bx : Blk wr w.heap.size #[nv, fn, lo] 79
 of : ∀ k, left k = true → Maps.has D k = true
 lt : w.heap.size + 1 < wr.heap.size
 ok : z.cnt + z.nc ≤ 100000

theorem LV.mid {wr w1 : World} {m : ByteArray → Option Int} {D : DataW Unit} {nv fn lo : Value} {left : Lit → Bool} {cnt : Nat} (h : LV w wr X z B m D nv fn lo left cnt) (h0 : RS w X z B) (hg : wr.grownBy w1 (some (w.heap.size + 1))) : RS w1 X { z with seen := part left m z.seen, cnt := z.cnt + (z.nc - cnt) } B ∧ NX B.ρ w w1 B.ρ ∧ Blk w1 w.heap.size #[nv, fn, lo] 79 ∧ w.heap.size + 1 < w1.heap.size := by
 have r0 : B.ρ (w.heap.size + 1) = 0 := h0.x.top _ (by omega)
 have hlt := h.lt
 refine ⟨h.rs.aside hg r0 (by have := h0.x.nc.1.lt; omega) (by have := h0.x.ah.1.lt; omega) (by have := h0.x.pr.1.1; omega), ?_, h.bx.keep (hg.block _ h.bx.lt (fun e => by have := Option.some.inj e; omega)), Nat.lt_of_lt_of_le hlt hg.size⟩
 exact ⟨hg.os.trans h.nx.os, hg.tape.trans h.nx.tape, hg.output.trans h.nx.output, Nat.le_trans h.nx.size hg.size, fun x hx h1 => (hg.block x (Nat.lt_of_lt_of_le hx h.nx.size) (fun e => by have := Option.some.inj e; omega)).trans (h.nx.block x hx h1), h.nx.new⟩
theorem LV.next {wr w1 w2 : World} {m : ByteArray → Option Int} {D : DataW Unit} {nv fn lo : Value} {left left' : Lit → Bool} {cnt cnt' : Nat} (h : LV w wr X z B m D nv fn lo left cnt) (h0 : RS w X z B) (hg : wr.grownBy w1 (some (w.heap.size + 1))) (hr : w1.ranges Tryd.prog 9 (plainElem (H := Unit) Tryd.prog 3) B.nb (w.heap.size + 1) z.nc D left' cnt') (hlt : cnt' < cnt)
  (ht : w1.mapTurned w2 B.sb) {n : Nat} (hm : MS w2 B.sb (part left' m z.seen) n) (hn : n ≤ z.cnt + (z.nc - cnt) + 1) (hne : B.nb ≠ B.sb) (hof : ∀ k, left' k = true → left k = true) : LV w w2 X z B m D nv fn lo left' cnt' := by
 obtain ⟨A1, A2, A3, A4⟩ := h.mid h0 hg
 have hle := h.le
 have hok := h.ok
 have hs1 := (h0.x.seen (by decide)).1.lt
 obtain ⟨E1, E2⟩ := A1.see ht (hm.mono (m := z.cnt + (z.nc - cnt')) (by omega)) (by omega)
 refine ⟨hr.kept ht.grown (fun e => hne (Option.some.inj e)) (fun e => by have := Option.some.inj e; omega), E1, A2.trans E2, by omega, A3.keep (ht.grown.block _ A3.lt (fun e => by have := Option.some.inj e; omega)), fun k hk => h.of k (hof k hk), Nat.lt_of_lt_of_le A4 ht.grown.size, hok⟩

set_option maxRecDepth 100000 in
set_option maxHeartbeats 4000000 in
theorem leave_any (h : RS w X z B) (b z' : ZS) (nb : Nat) (hb : Bk w X b nb B.ρ) (hz : zleave z b = some z') (u : FrameMode) :
  CallsD Tryd.prog 90 #[.pointer (some ⟨X.r, 0, none⟩), .agg #[.map (nmO b.names nb), .int .i64 b.fn, .int .i64 b.loops]] u w fun e u' w' => u' = u ∧ (e = .returned (.tuple #[]) ∧ RS w' X z' { B with nb := nb, ρ := backρ b.names nb B.ρ } ∧ NX B.ρ w w' B.ρ) := by
 unfold zleave at hz
 cases hnm : z.names with
 | none => rw [hnm] at hz; cases hz
 | some m =>
  rw [hnm] at hz
  simp only at hz
  by_cases hc : z.cnt + z.nc ≤ 100000
  case neg => rw [if_neg hc] at hz; cases hz
  rw [if_pos hc] at hz
  cases hz
  have c0 : w.cell? ⟨X.r, 0, none⟩ = some (.map (some B.nb)) := by
   have := h.blk.cell 0
   rw [this]
   show some (Value.map (nmO z.names B.nb)) = _
   rw [hnm]; rfl
  have hf := h.blk.free
  have hl := h.blk.lt
  obtain ⟨⟨D, ho, hD⟩, hρn⟩ := h.x.nams (by decide) m hnm
  have hne : B.nb ≠ B.sb := fun e => by rw [e, (h.x.seen (by decide)).2] at hρn; cases hρn
  have HO := hid (fun (o : Obj) => ho.alloc o)
  have HD := hid hD
  have H := hid h
  have HB := hid hb
  have HNE := hid hne
  have HC := hid hc
  have A0 := hid (fun (o : Obj) => h.bw (Bw.alloc (Bw.refl w) o))
  have HBS := hid (fun (ρ : Nat → Nat) (w2 : World) (y : ZS) (C : ZB) (hy : RS w2 X y C) (hbk : Bk w2 X b nb C.ρ) => hy.left hbk)
  have HNL := hid ho.lt
  clear h hb hne hc ho hD hρn
  generalize hv0 : nmO b.names nb = nv at HBS ⊢
  go_enter_d Tryd.func90, Tryd.ntmps90
  go_wp2_with (first
   | (at_range; refine wpList_range_own _ rfl _ 77 rfl 9 3 key9 underMs _ B.nb z.nc D rfl (HO.out _) ?_; intro w0 hrg0 hg0 hs0)
   | go_in)
  go_frame
  have hsz : (w.alloc (.cells #[.map nv, .int .i64 b.fn, .int .i64 b.loops] 79)).heap.size = w.heap.size + 1 := by simp
  rw [hsz] at hrg0 hs0 ⊢
  go_loopw [4] (fun _ wr => ∃ left cnt, LV w wr X z B m D (.map nv) (.int .i64 b.fn) (.int .i64 b.loops) left cnt) (fun _ wr => wr.rangeLeft B.nb (w.heap.size + 1))
  case atStart =>
   have hle : Maps.size D ≤ z.nc := by
    have := hrg0.owns.size_le
    exact this
   have e1 : ({ z with seen := part (Maps.has D) m z.seen, cnt := z.cnt + (z.nc - Maps.size D) } : ZS) = { z with seen := z.seen, cnt := z.cnt + (z.nc - Maps.size D) } := by rw [part_all m z.seen HD.out]
   have R0 : RS w0 X z B := (A0.out _).bw ⟨hg0.os, hg0.tape, hg0.output, hg0.size, fun x hx => hg0.block x hx (by simp)⟩
   refine ⟨_, _, hrg0, ?_, (NX.of_bw B.ρ (Bw.alloc (Bw.refl w) _)).bw ⟨hg0.os, hg0.tape, hg0.output, hg0.size, fun x hx => hg0.block x hx (by simp)⟩, hle, (Blk.new w _ _).keep (hg0.block _ (by simp) (by simp)), fun k hk => hk, by omega, HC.out⟩
   rw [e1]
   refine ⟨R0.blk, ?_⟩
   have hx := R0.x
   have hcc := HC.out
   exact ⟨hx.rr, hx.rl, hx.funs, hx.uses, hx.globs, hx.decl, fun e => ⟨(hx.seen e).1.mono (by simp only; omega), (hx.seen e).2⟩, hx.nams, hx.caps, hx.map0, hx.maps, hx.nc, hx.ah, hx.pr, hx.top, hx.kf, hx.ul, hx.nl, hx.ll, ⟨hx.bd.1, hx.bd.2.1, hx.bd.2.2.1, by simp only; omega, hx.bd.2.2.2.2⟩, hx.bf⟩
  case round =>
   obtain ⟨left, cnt, hLV⟩ := hrel
   have hrg := hLV.rg
   have HL := hid hLV
   clear hLV
   go_wp2_with (first
    | (at_next; refine wpList_next_ranges _ rfl _ rfl 9 key9 (plainElem Tryd.prog 3) Value.string (Value.int .i64) (fun key kl hk => by obtain ⟨x, rfl, _⟩ := keyOf_str_inv hk; exact ⟨x, rfl⟩) (fun v y hv => by obtain ⟨c, rfl, _⟩ := plainElem_int_inv int3 hv; exact ⟨c, rfl⟩) B.nb (w.heap.size + 1) z.nc D left cnt rfl hrg ?_ ?_)
    | go_in)
   ·intro hc0 hl0
    subst hc0
    have b0 := HL.out.bx.cell 0
    have b1 := HL.out.bx.cell 1
    have b2 := HL.out.bx.cell 2
    simp only [List.getElem?_toArray, List.getElem?_cons_zero, List.getElem?_cons_succ] at b0 b1 b2
    have bl := HL.out.bx.lt
    have rf := HL.out.rs.blk.free
    have rl := HL.out.rs.blk.lt
    have q0 : wr.cell? ⟨X.r, 0, none⟩ = some (.map (nmO z.names B.nb)) := HL.out.rs.blk.cell 0
    have q1 : wr.cell? ⟨X.r, 1, none⟩ = some (.int .i64 z.fn) := HL.out.rs.blk.cell 1
    have q2 : wr.cell? ⟨X.r, 2, none⟩ = some (.int .i64 z.loops) := HL.out.rs.blk.cell 2
    have E := hid (HBS.out B.ρ _ _ _ HL.out.rs (HB.out.nx HL.out.nx))
    have N := hid (((HL.out.nx.set HL.out.rs.rn 0 (.map nv)).set HL.out.rs.rn 1 (.int .i64 b.fn)).set HL.out.rs.rn 2 (.int .i64 b.loops))
    have HL0 := hid hl0
    clear hl0 hrg
    go_wp2
    all_goals go_end0
    refine ⟨rfl, ?_, N.out⟩
    have e := E.out
    rw [part_none m z.seen HL0.out] at e
    exact e
   ·intro x c kl yd yp w1 cnt1 hkey hlk hRv hat hrg1 hlt hg1 hs1 hen
    obtain ⟨x', ex, rfl⟩ := keyOf_str_inv hkey
    cases ex
    obtain ⟨c', ec, hy, hwc⟩ := plainElem_int_inv int3 hRv
    cases ec
    have hmx : m x = some c := by
     have h1 := HL.out.of _ hlk
     rw [HD.out.has] at h1
     obtain ⟨v, hv⟩ := Option.isSome_iff_exists.1 h1
     have h2 := HD.out.at_ x v hv
     rw [hat, show yd = _ from congrArg Prod.fst hy] at h2
     rw [hv]
     cases h2
     rfl
    obtain ⟨A1, A2, A3, A4⟩ := HL.out.mid H.out hg1
    have r10 : w1.cell? ⟨X.r, 10, none⟩ = some (.map (some B.sb)) := A1.blk.cell 10
    have rl := A1.blk.lt
    obtain ⟨Ds, hos, hds⟩ := (A1.x.seen (by decide)).1
    have HOS := hid hos
    have HDS := hid hds
    have HK := hid hkey
    have HG := hid hg1
    have HRG := hid hrg1
    have HLT := hid hlt
    have HLK := hid hlk
    have HMX := hid hmx
    have HWC := hid hwc
    clear A1 A2 A3 A4 hos hds hkey hg1 hrg1 hlt hlk hmx hwc hRv hat hy hs1
    by_cases hc1 : c = -1
    ·subst hc1
     go_wp2_with (first
      | (at_delete; refine wpList_delete_own _ rfl _ _ 77 9 rfl 3 key9 underMs _ B.sb _ Ds rfl HOS.out _ _ rfl HK.out ?_; intro w2 hown2 hturn2)
      | go_in)
     have hm2 : MS w2 B.sb (mdel (part left m z.seen) x) (z.cnt + (z.nc - cnt)) := ⟨_, hown2, HDS.out.del x⟩
     rw [← part_del m z.seen HLK.out HMX.out] at hm2
     have N2 := HL.out.next H.out HG.out HRG.out HLT.out hturn2 hm2 (by omega) HNE.out (fun k hk => by simp at hk; exact hk.1)
     go_roundw
     case rel => exact ⟨_, cnt1, N2⟩
     case measure => rw [N2.rg.left_eq, hrg.left_eq]; exact HLT.out
    ·have e1 : (c == -1) = false := by simpa using hc1
     have HC1 := hid hc1
     have HLE := hid HL.out.le
     go_wp2_with (first
      | (at_mapUpdate; refine wpList_mapUpdate_in _ rfl _ _ _ 77 rfl 9 3 key9 underMs _ B.sb _ Ds rfl HOS.out (by have := HC.out; simp only; unfold maxLen; omega) _ _ _ rfl rfl HK.out _ [] (plainElem_int int3 HWC.out) ?_; intro w2 hown2 hturn2)
      | go_in)
     have hm2 : MS w2 B.sb (mput (part left m z.seen) x c) (z.cnt + (z.nc - cnt) + 1) := ⟨_, hown2, HDS.out.put x c⟩
     rw [← part_put m z.seen HLK.out HMX.out HC1.out] at hm2
     have N2 := HL.out.next H.out HG.out HRG.out HLT.out hturn2 hm2 (by omega) HNE.out (fun k hk => by simp at hk; exact hk.1)
     go_roundw
     case rel => exact ⟨_, cnt1, N2⟩
     case measure => rw [N2.rg.left_eq, hrg.left_eq]; exact HLT.out

end
end Go.Proofs.YtdhkcdehedbpcaaDoor

