/- The resolver: fail, enter, use. · The resolver in memory: what a store, an append, a map's turn makes of it. Nothing of the program's functions is in it. -/
import Derived.Test.YtdhkcdehedbpcaaDoorM17
import Derived.Carry
import Derived.Test.YtdhkcdehedbpcaaDoorM16
set_option linter.unusedSimpArgs false
set_option linter.unusedVariables false
namespace Go.Proofs.YtdhkcdehedbpcaaDoor
open Go Go.RowKit

theorem NC.text {w : World} {g o : Nat} {L : List ANode} (h : NC w g o L) {i : Nat} (hi : i < L.length) : w.cell? ⟨g, o + i * 5 + 2, none⟩ = some (.string (zT L i)) ∧ (zT L i).size ≤ maxLen := by
 have e : zN L i = L[i] := by unfold zN; rw [List.getD_eq_getElem?_getD, List.getElem?_eq_getElem hi]; rfl
 refine ⟨?_, ?_⟩
 ·rw [h.c i hi 2 (by omega)]; unfold zT; rw [e]; rfl
 ·unfold zT; rw [strOfNums_size, e]; have := (h.b i hi).2.2; unfold maxLen; omega
theorem NC.kind {w : World} {g o : Nat} {L : List ANode} (h : NC w g o L) {i : Nat} (hi : i < L.length) : w.cell? ⟨g, o + i * 5, none⟩ = some (.int .i64 (zN L i).1) := by
 have e : zN L i = L[i] := by unfold zN; rw [List.getD_eq_getElem?_getD, List.getElem?_eq_getElem hi]; rfl
 have := h.c i hi 0 (by omega)
 rw [Nat.add_zero] at this
 rw [this, e]; rfl
theorem NC.cnt {w : World} {g o : Nat} {L : List ANode} (h : NC w g o L) {i : Nat} (hi : i < L.length) : w.cell? ⟨g, o + i * 5 + 1, none⟩ = some (.int .i64 (zN L i).2.1) := by
 have e : zN L i = L[i] := by unfold zN; rw [List.getD_eq_getElem?_getD, List.getElem?_eq_getElem hi]; rfl
 rw [h.c i hi 1 (by omega), e]; rfl
theorem NC.num {w : World} {g o : Nat} {L : List ANode} (h : NC w g o L) {i : Nat} (hi : i < L.length) : w.cell? ⟨g, o + i * 5 + 3, none⟩ = some (.int .i64 (zN L i).2.2.2.1) := by
 have e : zN L i = L[i] := by unfold zN; rw [List.getD_eq_getElem?_getD, List.getElem?_eq_getElem hi]; rfl
 rw [h.c i hi 3 (by omega), e]; rfl

section
variable {w : World} {X : ZX} {z : ZS} {B : ZB}

theorem RS.failed (h : RS w X z B) (h0 : z.fault = 0) (i : Nat) (e : Int) : RS ((w.setCell ⟨X.r, 11, none⟩ (.int .i64 e)).setCell ⟨X.r, 12, none⟩ (.int .i64 i)) X (zfail z i e) B := by
 have hz : zfail z i e = { z with fault := e, faulty := i } := by unfold zfail; rw [if_pos h0]
 rw [hz]
 exact ⟨(h.blk.set 11 _).set 12 _, ((h.x.setR 11 _).setR 12 _).nums h.x.nl z.fn z.loops e i⟩

set_option maxRecDepth 100000 in
set_option maxHeartbeats 4000000 in
theorem fail_any (h : RS w X z B) (i : Nat) (e : Int) : Calls Tryd.prog 94 #[.pointer (some ⟨X.r, 0, none⟩), .int .i64 i, .int .i64 e] w fun e' w' => e' = .returned (.tuple #[]) ∧ RS w' X (zfail z i e) B ∧ NX B.ρ w w' B.ρ := by
 have c11 : w.cell? ⟨X.r, 11, none⟩ = some (.int .i64 z.fault) := h.blk.cell 11
 have c12 : w.cell? ⟨X.r, 12, none⟩ = some (.int .i64 z.faulty) := h.blk.cell 12
 have hf := h.blk.free
 have hl := h.blk.lt
 by_cases h0 : z.fault = 0
 ·have F := hid (h.failed h0 i e)
  have N := hid (((NX.refl B.ρ w).set h.rn 11 (.int .i64 e)).set h.rn 12 (.int .i64 i))
  have e0 : (z.fault == 0) = true := by simpa using h0
  clear h h0
  go_enter Tryd.func94, Tryd.ntmps94
  go_wp2
  all_goals go_end0
  all_goals exact ⟨rfl, F.out, N.out⟩
 ·have hz : zfail z i e = z := by unfold zfail; rw [if_neg h0]
  rw [hz]
  have F := hid h
  have N := hid (NX.refl B.ρ w)
  have e0 : (z.fault == 0) = false := by simpa using h0
  clear h h0
  go_enter Tryd.func94, Tryd.ntmps94
  go_wp2
  all_goals go_end0
  all_goals exact ⟨rfl, F.out, N.out⟩

set_option maxRecDepth 100000 in
set_option maxHeartbeats 4000000 in
theorem use_any (w : World) (d : ZD) : Calls Tryd.prog 59 #[.agg #[.int .i64 d.fn, .int .i64 d.slot, .bool d.taken]] w fun e w' => e = .returned (.agg #[.int .i64 (if d.taken then 2 else 1), .int .i64 d.slot]) ∧ Bw w w' := by
 obtain ⟨fn, slot, tk⟩ := d
 cases tk
 all_goals
  go_enter Tryd.func59, Tryd.ntmps59
  go_wp2
  all_goals refine bodyPost_ret (v := .agg _) (by simp [results, Tryd.results59, go_sem, *]; rfl) rfl ?_
  all_goals exact ⟨rfl, by repeat (first | exact Bw.refl _ | apply Bw.alloc | apply Bw.drewN | apply Bw.drew | (refine Below.setCell ?_ (by simp) _))⟩

end
end Go.Proofs.YtdhkcdehedbpcaaDoor

namespace Go.Proofs.YtdhkcdehedbpcaaDoor
open Go Go.RowKit

theorem info_parts8 {P : Program} {t : TypeId} {z : Value} {n b : Nat} (h : (P.info? t).map (fun i => (i.zero, i.size, i.bytes)) = some (some z, n, b)) : ∃ i, P.info? t = some i ∧ i.zero = some z ∧ i.size = n ∧ i.bytes = b := by
 obtain ⟨i, hi, e⟩ := Option.map_eq_some_iff.1 h
 simp only [Prod.mk.injEq] at e
 exact ⟨i, hi, e.1, e.2.1, e.2.2⟩
theorem infoUs : (Tryd.prog.info? 57).map (fun i => (i.zero, i.size, i.bytes)) = some (some (.agg #[.int .i64 0, .int .i64 0]), 2, 16) := by kernel_rfl
theorem infoDe : (Tryd.prog.info? 122).map (fun i => (i.zero, i.size, i.bytes)) = some (some (.agg #[.int .i64 0, .int .i64 0, .bool false]), 3, 24) := by kernel_rfl
theorem infoCa : (Tryd.prog.info? 59).map (fun i => (i.zero, i.size, i.bytes)) = some (some (.agg #[.int .i64 0, .int .i64 0]), 2, 16) := by kernel_rfl
theorem infoFu : (Tryd.prog.info? 118).map (fun i => (i.zero, i.size, i.bytes)) = some (some (.agg #[.int .i64 0, .int .i64 0, .int .i64 0, .slice none 0 0, .int .i64 0, .map none]), 6, 64) := by kernel_rfl
theorem infoFn : (Tryd.prog.info? 49).map (fun i => (i.zero, i.size, i.bytes)) = some (some (.agg #[.int .i64 0, .int .i64 0, .int .i64 0, .slice none 0 0]), 4, 48) := by kernel_rfl
theorem undD8 : Tryd.prog.underlying 81 = some (.slice 122) := by kernel_rfl
theorem undC8 : Tryd.prog.underlying 47 = some (.slice 59) := by kernel_rfl
theorem undF8 : Tryd.prog.underlying 80 = some (.slice 118) := by kernel_rfl
theorem undFn8 : Tryd.prog.underlying 27 = some (.slice 49) := by kernel_rfl
theorem undMi : Tryd.prog.underlying 116 = some (.map 3 3) := by kernel_rfl

section
variable {w w' : World} {X : ZX} {z : ZS} {B : ZB} {k : Nat}

theorem RS.turn {x : Nat} (h : RS w X z B) (hg : w.grownBy w' (some x)) (hx : B.ρ x = k) (h0 : k ≠ 0) (h1 : k ≠ 1) : Blk w' X.r (zC X z B) 83 ∧ RX k w' X z B ∧ NX B.ρ w w' B.ρ := by
 have hk : ∀ b, b < w.heap.size → B.ρ b ≠ k → w'.heap[b]? = w.heap[b]? := fun b hb hr => hg.block b hb (fun e => hr (by cases e; exact hx))
 exact ⟨h.blk.keep (hk _ h.x.rl (by rw [h.x.rr]; exact Ne.symm h1)), h.x.move h0 hg.size hk (fun _ _ => rfl) (fun b hb => h.x.top b (Nat.le_trans hg.size hb)), ⟨hg.os, hg.tape, hg.output, hg.size, fun b hb hr => hk b hb (by rw [hr]; exact Ne.symm h0), fun _ _ h => h⟩⟩

def upd (ρ : Nat → Nat) (v : Value) (k : Nat) : Nat → Nat := fun b => if v.ownBlock = some b then k else ρ b
theorem upd_own (ρ : Nat → Nat) (v : Value) (k b : Nat) (h : v.ownBlock = some b) : upd ρ v k b = k := by unfold upd; rw [if_pos h]

theorem RS.grow {v v' : Value} (h : RS w X z B) (hg : w.grownBy w' v.ownBlock) (hv : ∀ b, v.ownBlock = some b → B.ρ b = k) (hvb : v'.ownBlock = v.ownBlock ∨ ∀ b, v'.ownBlock = some b → w.heap.size ≤ b) (hlt : ∀ b, v'.ownBlock = some b → b < w'.heap.size) (h0 : k ≠ 0) (h1 : k ≠ 1) :
  Blk w' X.r (zC X z B) 83 ∧ RX k w' X z { B with ρ := upd B.ρ v' k } ∧ NX B.ρ w w' (upd B.ρ v' k) := by
 have hk : ∀ b, b < w.heap.size → B.ρ b ≠ k → w'.heap[b]? = w.heap[b]? := fun b hb hr => hg.block b hb (fun e => hr (hv b e.symm))
 have hρ : ∀ b, b < w.heap.size → upd B.ρ v' k b = B.ρ b := fun b hb => by
  unfold upd
  split
  ·rename_i e
   rcases hvb with h2 | h2
   ·exact (hv b (h2 ▸ e)).symm
   ·have := h2 b e; omega
  ·rfl
 refine ⟨h.blk.keep (hk _ h.x.rl (by rw [h.x.rr]; exact Ne.symm h1)), h.x.move h0 hg.size hk hρ (fun b hb => ?_), ⟨hg.os, hg.tape, hg.output, hg.size, fun b hb hr => hk b hb (by rw [hr]; exact Ne.symm h0), fun b hb h => (hρ b hb).trans h⟩⟩
 unfold upd
 rw [if_neg (fun e => by have := hlt b e; omega)]
 exact h.x.top b (Nat.le_trans hg.size hb)

theorem RX.seenc (h : RX 6 w X z B) {M : ByteArray → Option Int} {n : Nat} (hm : MS w B.sb M n) (hr : B.ρ B.sb = 6) (hn : n ≤ 100000) : RX 1 w X { z with seen := M, cnt := n } B :=
 ⟨h.rr, h.rl, fun _ => h.funs (by decide), fun _ => h.uses (by decide), fun _ => h.globs (by decide), fun _ => h.decl (by decide), fun _ => ⟨hm, hr⟩, fun _ => h.nams (by decide), fun i q hq _ => h.caps i q hq (by omega), h.map0, fun i q hq hi _ => h.maps i q hq hi (by omega), h.nc, h.ah, h.pr, h.top, h.kf, h.ul, h.nl, h.ll, ⟨h.bd.1, h.bd.2.1, h.bd.2.2.1, hn, h.bd.2.2.2.2⟩, h.bf⟩
theorem RX.namsc (h : RX 7 w X z B) {M : ByteArray → Option Int} {n : Nat} (hm : MS w B.nb M n) (hr : B.ρ B.nb = 7) (hn : n ≤ 100000) : RX 1 w X { z with names := some M, nc := n } B :=
 ⟨h.rr, h.rl, fun _ => h.funs (by decide), fun _ => h.uses (by decide), fun _ => h.globs (by decide), fun _ => h.decl (by decide), fun _ => h.seen (by decide), fun _ m e => by cases e; exact ⟨hm, hr⟩, fun i q hq _ => h.caps i q hq (by omega), h.map0, fun i q hq hi _ => h.maps i q hq hi (by omega), h.nc, h.ah, h.pr, h.top, h.kf, h.ul, h.nl, h.ll, ⟨h.bd.1, h.bd.2.1, h.bd.2.2.1, h.bd.2.2.2.1, hn⟩, h.bf⟩
theorem RX.usesc (h : RX 3 w X z B) {us : List (Int × Int)} {v : Value} (hu : w.ownsRow 0 57 2 v us.length (rowP us)) (hr : ∀ b, v.ownBlock = some b → B.ρ b = 3) (hl : us.length = X.L.length) : RX 1 w X { z with uses := us } { B with uv := v } :=
 ⟨h.rr, h.rl, fun _ => h.funs (by decide), fun _ => ⟨hu, hr⟩, fun _ => h.globs (by decide), fun _ => h.decl (by decide), fun _ => h.seen (by decide), fun _ => h.nams (by decide), fun i q hq _ => h.caps i q hq (by omega), h.map0, fun i q hq hi _ => h.maps i q hq hi (by omega), h.nc, h.ah, h.pr, h.top, h.kf, hl, h.nl, h.ll, h.bd, h.bf⟩
theorem RX.globsc (h : RX 4 w X z B) {gs : List ByteArray} {v : Value} (hu : w.ownsRow 0 9 1 v gs.length (gs.map Value.string)) (hr : ∀ b, v.ownBlock = some b → B.ρ b = 4) (hl : gs.length ≤ 1024) : RX 1 w X { z with globals := gs } { B with gv := v } :=
 ⟨h.rr, h.rl, fun _ => h.funs (by decide), fun _ => h.uses (by decide), fun _ => ⟨hu, hr⟩, fun _ => h.decl (by decide), fun _ => h.seen (by decide), fun _ => h.nams (by decide), fun i q hq _ => h.caps i q hq (by omega), h.map0, fun i q hq hi _ => h.maps i q hq hi (by omega), h.nc, h.ah, h.pr, h.top, h.kf, h.ul, h.nl, h.ll, ⟨h.bd.1, hl, h.bd.2.2⟩, h.bf⟩
theorem RX.declc (h : RX 5 w X z B) {ds : List ZD} {v : Value} (hu : w.ownsRow 0 122 3 v ds.length (rowD ds)) (hr : ∀ b, v.ownBlock = some b → B.ρ b = 5) (hl : ds.length ≤ 100000) : RX 1 w X { z with declared := ds } { B with dv := v } :=
 ⟨h.rr, h.rl, fun _ => h.funs (by decide), fun _ => h.uses (by decide), fun _ => h.globs (by decide), fun _ => ⟨hu, hr⟩, fun _ => h.seen (by decide), fun _ => h.nams (by decide), fun i q hq _ => h.caps i q hq (by omega), h.map0, fun i q hq hi _ => h.maps i q hq hi (by omega), h.nc, h.ah, h.pr, h.top, h.kf, h.ul, h.nl, h.ll, ⟨h.bd.1, h.bd.2.1, hl, h.bd.2.2.2⟩, h.bf⟩

theorem RS.us (h : RS w X z B) {i : Nat} (hi : i < X.L.length) : ∃ ub uc u, z.uses[i]? = some u ∧ B.uv = .slice (some ⟨ub, 0, none⟩) X.L.length uc ∧ w.cell? ⟨X.r, 6, none⟩ = some (.slice (some ⟨ub, 0, none⟩) X.L.length uc) ∧ w.cell? ⟨ub, i * 2, none⟩ = some (.int .i64 u.1) ∧ w.cell? ⟨ub, i * 2 + 1, none⟩ = some (.int .i64 u.2) ∧ ub < w.heap.size ∧ (∀ j, w.frozen? ⟨ub, j, none⟩ = false) ∧ B.ρ ub = 3 ∧ ub ≠ X.r := by
 obtain ⟨hu, hr⟩ := h.x.uses (by decide)
 have hul := h.x.ul
 obtain ⟨ub, uc, hue, hul2, huf, huc⟩ := own_some hu (by omega)
 obtain ⟨u, hu1⟩ : ∃ u, z.uses[i]? = some u := ⟨_, List.getElem?_eq_getElem (by omega)⟩
 have hρ : B.ρ ub = 3 := hr ub (by rw [hue]; rfl)
 rw [hul] at hue
 refine ⟨ub, uc, u, hu1, hue, ?_, ?_, ?_, hul2, huf, hρ, fun e => by rw [e, h.x.rr] at hρ; cases hρ⟩
 ·have := h.blk.cell 6
  rw [this]
  exact congrArg some hue
 ·rw [huc _ (by omega)]; exact flat_get8 prC 2 prC_len z.uses i 0 u hu1 (by decide)
 ·rw [huc _ (by omega)]; exact flat_get8 prC 2 prC_len z.uses i 1 u hu1 (by decide)

theorem RS.us2 (h : RS w X z B) {i ub uc : Nat} (hi : i < X.L.length) (hv : B.uv = .slice (some ⟨ub, 0, none⟩) X.L.length uc) : ∃ u : Int × Int, w.cell? ⟨X.r, 6, none⟩ = some (.slice (some ⟨ub, 0, none⟩) X.L.length uc) ∧ w.cell? ⟨ub, i * 2, none⟩ = some (.int .i64 u.1) ∧ w.cell? ⟨ub, i * 2 + 1, none⟩ = some (.int .i64 u.2) ∧ ub < w.heap.size ∧ (∀ j, w.frozen? ⟨ub, j, none⟩ = false) ∧ ub ≠ X.r := by
 obtain ⟨ub', uc', u, h1, h2, h3, h4, h5, h6, h7, h8, h9⟩ := h.us hi
 rw [hv] at h2
 cases h2
 exact ⟨u, h3, h4, h5, h6, h7, h9⟩
theorem new_news (w : World) (cs : List Value) (e : TypeId) : ∀ (j : Nat) (u : Value), cs[j]? = some u → (w.alloc (.cells cs.toArray e)).cell? ((⟨w.heap.size, 0, none⟩ : Addr).add j) = some u := by
 intro j u hj
 have e1 : (⟨w.heap.size, 0, none⟩ : Addr).add j = ⟨w.heap.size, j, none⟩ := by
  unfold Addr.add
  split
  ·rename_i h0; subst h0; rfl
  ·simp
 rw [e1, (Blk.new w cs.toArray e).cell, List.getElem?_toArray, hj]
theorem own_alloc8 {e : TypeId} {size n : Nat} {v : Value} {xs : List Value} (h : w.ownsRow 0 e size v n xs) (o : Obj) : (w.alloc o).ownsRow 0 e size v n xs := own_keep8 h (fun b hb => Below.heap_alloc w o b (h.lt b hb).2)

theorem own_put2 {e g n cap : Nat} {l : List (Int × Int)} (h : w.ownsRow 0 e 2 (.slice (some ⟨g, 0, none⟩) n cap) n (rowP l)) {i : Nat} (hi : i < l.length) (hn : l.length = n) (a b : Int) :
  ((w.setCell ⟨g, i * 2, none⟩ (.int .i64 a)).setCell ⟨g, i * 2 + 1, none⟩ (.int .i64 b)).ownsRow 0 e 2 (.slice (some ⟨g, 0, none⟩) n cap) n (rowP (l.set i (a, b))) := by
 obtain ⟨u, hu⟩ : ∃ u, l[i]? = some u := ⟨_, List.getElem?_eq_getElem hi⟩
 have h1 := own_setIn h (j := i * 2) (by omega) (.int .i64 a)
 have e1 : (rowP l).set (i * 2) (.int .i64 a) = rowP (l.set i (a, u.2)) := (flat_set1 prC 2 prC_len 0 (by decide) (.int .i64 a) l i u (a, u.2) hu rfl).symm
 rw [e1] at h1
 have h2 := own_setIn h1 (j := i * 2 + 1) (by omega) (.int .i64 b)
 have e2 : (rowP (l.set i (a, u.2))).set (i * 2 + 1) (.int .i64 b) = rowP ((l.set i (a, u.2)).set i (a, b)) := (flat_set1 prC 2 prC_len 1 (by decide) (.int .i64 b) (l.set i (a, u.2)) i (a, u.2) (a, b) (by rw [List.getElem?_set_self hi]) rfl).symm
 rw [e2, List.set_set] at h2
 exact h2

theorem RS.use (h : RS w X z B) {i ub uc : Nat} (hi : i < X.L.length) (hv : B.uv = .slice (some ⟨ub, 0, none⟩) X.L.length uc) (a b : Int) :
  RS ((w.setCell ⟨ub, i * 2, none⟩ (.int .i64 a)).setCell ⟨ub, i * 2 + 1, none⟩ (.int .i64 b)) X (zuse z i (a, b)) B ∧ NX B.ρ w ((w.setCell ⟨ub, i * 2, none⟩ (.int .i64 a)).setCell ⟨ub, i * 2 + 1, none⟩ (.int .i64 b)) B.ρ := by
 obtain ⟨hu, hr⟩ := h.x.uses (by decide)
 have hρ : B.ρ ub = 3 := hr ub (by rw [hv]; rfl)
 have hg : w.grownBy ((w.setCell ⟨ub, i * 2, none⟩ (.int .i64 a)).setCell ⟨ub, i * 2 + 1, none⟩ (.int .i64 b)) (some ub) :=
  ⟨rfl, rfl, rfl, by simp [World.setCell], fun q _ hne => by
   rw [Below.heap_setCell _ _ _ q (fun e => hne (by rw [e])), Below.heap_setCell _ _ _ q (fun e => hne (by rw [e]))]⟩
 obtain ⟨h1, h2, h3⟩ := h.turn hg hρ (by decide) (by decide)
 have hul := h.x.ul
 rw [hv] at hu
 rw [hul] at hu
 refine ⟨⟨h1, ?_⟩, h3⟩
 have h4 := h2.usesc (us := z.uses.set i (a, b)) (v := B.uv) (by rw [List.length_set, hul, hv]; exact own_put2 hu (by omega) hul a b) hr (by rw [List.length_set]; exact hul)
 exact h4

theorem RS.see (h : RS w X z B) (ht : w.mapTurned w' B.sb) {M : ByteArray → Option Int} {n : Nat} (hm : MS w' B.sb M n) (hn : n ≤ 100000) : RS w' X { z with seen := M, cnt := n } B ∧ NX B.ρ w w' B.ρ := by
 have hr := (h.x.seen (by decide)).2
 obtain ⟨h1, h2, h3⟩ := h.turn ht.grown hr (by decide) (by decide)
 exact ⟨⟨h1, h2.seenc hm hr hn⟩, h3⟩
theorem RS.nam (h : RS w X z B) {m : ByteArray → Option Int} (hz : z.names = some m) (ht : w.mapTurned w' B.nb) {M : ByteArray → Option Int} {n : Nat} (hm : MS w' B.nb M n) (hn : n ≤ 100000) : RS w' X { z with names := some M, nc := n } B ∧ NX B.ρ w w' B.ρ := by
 have hr := (h.x.nams (by decide) m hz).2
 obtain ⟨h1, h2, h3⟩ := h.turn ht.grown hr (by decide) (by decide)
 refine ⟨⟨?_, h2.namsc hm hr hn⟩, h3⟩
 have e : zC X { z with names := some M, nc := n } B = zC X z B := by unfold zC; simp [nmO, hz]
 rw [e]
 exact h1

theorem RS.glob {n : Nat} {v : Value} (h : RS w X z B) (hv : B.gv = v) (hn : z.globals.length = n) {v' : Value} (s : ByteArray) (hl : n < 1024) (ho : w'.ownsRow 0 9 1 v' (n + 1) (z.globals.map Value.string ++ [.string s])) (hg : w.grownBy w' v.ownBlock) (hvb : v'.ownBlock = v.ownBlock ∨ ∀ b, v'.ownBlock = some b → w.heap.size ≤ b) :
  ∃ ρ', RS (w'.setCell ⟨X.r, 7, none⟩ v') X { z with globals := z.globals ++ [s] } { B with gv := v', ρ := ρ' } ∧ NX B.ρ w (w'.setCell ⟨X.r, 7, none⟩ v') ρ' ∧ w'.cell? ⟨X.r, 7, none⟩ = some v ∧ X.r < w'.heap.size ∧ w'.frozen? ⟨X.r, 7, none⟩ = false := by
 subst hv hn
 obtain ⟨hu, hr⟩ := h.x.globs (by decide)
 obtain ⟨h1, h2, h3⟩ := h.grow hg hr hvb (fun b hb => (ho.lt b hb).2) (by decide) (by decide)
 have h4 := h2.globsc (gs := z.globals ++ [s]) (v := v') (by rw [List.length_append, List.map_append]; exact ho) (fun b hb => upd_own _ _ _ _ hb) (by rw [List.length_append]; simp; omega)
 refine ⟨_, ⟨h1.set 7 v', h4.setR 7 v'⟩, h3.set (fun e => absurd (h4.rr.symm.trans e) (by decide)) 7 v', h1.cell 7, h1.lt, h1.free 7⟩
theorem RS.dec {n : Nat} {v : Value} (h : RS w X z B) (hv : B.dv = v) (hn : z.declared.length = n) {v' : Value} (d : ZD) (hl : n < 100000) (ho : w'.ownsRow 0 122 3 v' (n + 1) (rowD z.declared ++ zdC d)) (hg : w.grownBy w' v.ownBlock) (hvb : v'.ownBlock = v.ownBlock ∨ ∀ b, v'.ownBlock = some b → w.heap.size ≤ b) :
  ∃ ρ', RS (w'.setCell ⟨X.r, 9, none⟩ v') X { z with declared := z.declared ++ [d] } { B with dv := v', ρ := ρ' } ∧ NX B.ρ w (w'.setCell ⟨X.r, 9, none⟩ v') ρ' ∧ w'.cell? ⟨X.r, 9, none⟩ = some v ∧ X.r < w'.heap.size ∧ w'.frozen? ⟨X.r, 9, none⟩ = false := by
 subst hv hn
 obtain ⟨hu, hr⟩ := h.x.decl (by decide)
 obtain ⟨h1, h2, h3⟩ := h.grow hg hr hvb (fun b hb => (ho.lt b hb).2) (by decide) (by decide)
 have h4 := h2.declc (ds := z.declared ++ [d]) (v := v') (by unfold rowD at ho ⊢; rw [List.length_append, List.flatMap_append, List.flatMap_singleton]; exact ho) (fun b hb => upd_own _ _ _ _ hb) (by rw [List.length_append]; simp; omega)
 refine ⟨_, ⟨h1.set 9 v', h4.setR 9 v'⟩, h3.set (fun e => absurd (h4.rr.symm.trans e) (by decide)) 9 v', h1.cell 9, h1.lt, h1.free 9⟩

end
end Go.Proofs.YtdhkcdehedbpcaaDoor

namespace Go.Proofs.YtdhkcdehedbpcaaDoor
open Go Go.RowKit
section
variable {w : World} {X : ZX} {z : ZS} {B : ZB}
theorem MS.mapTurned {w w' : World} {a b n : Nat} {M : ByteArray → Option Int} (h : MS w b M n) (ht : w.mapTurned w' a) (hne : b ≠ a) : MS w' b M n := h.keep (ht.grown.block b h.lt (fun e => hne (by cases e; rfl)))

theorem MS.store {w : World} {b n : Nat} {M : ByteArray → Option Int} (h : MS w b M n) {t : ByteArray} (ht : t.size ≤ maxLen) (hn : n ≤ 1000000) (x : Int) (hx : (Lit.int .i64 x).wf = true) : ∃ w', (Instr.mapUpdate 77 (.map (some b)) (.string t) (.int .i64 x)).run Tryd.prog w = .ok () w' ∧ MS w' b (mput M t x) (n + 1) ∧ w.mapTurned w' b := by
 obtain ⟨D, h1, h2⟩ := h
 obtain ⟨w', r1, r2, r3⟩ := h1.store key9 underMs (by unfold maxLen; omega) (key_lit ht) (plainElem_int int3 hx)
 exact ⟨w', r1, ⟨_, r2, h2.put t x⟩, r3⟩

theorem RS.shown {w1 : World} {m M1 : ByteArray → Option Int} (h : RS w X z B) (hnm : z.names = some m) (ht : w.mapTurned w1 B.nb) (hm : MS w1 B.nb M1 (z.nc + 1)) {t : ByteArray} (hts : t.size ≤ maxLen) (hc : z.cnt < 100000 ∧ z.nc < 100000) (d : Int) (hd : 0 ≤ d ∧ d ≤ 100000) :
  ∃ w2, (Instr.mapUpdate 77 (.map (some B.sb)) (.string t) (.int .i64 d)).run Tryd.prog w1.drew = .ok () w2 ∧ RS w2 X { z with names := some M1, seen := mput z.seen t d, cnt := z.cnt + 1, nc := z.nc + 1 } B ∧ NX B.ρ w w2 B.ρ ∧ w1.cell? ⟨X.r, 10, none⟩ = some (.map (some B.sb)) ∧ X.r < w1.heap.size := by
 obtain ⟨A0, N0⟩ := h.nam hnm ht hm (by omega)
 have A1 := A0.bw (Bw.drew (Bw.refl w1))
 have N1 := N0.bw (Bw.drew (Bw.refl w1))
 obtain ⟨w2, r2, M2, T2⟩ := (A1.x.seen (by decide)).1.store hts (by simp only; omega) d (WalkArith.wf_i64 (by omega))
 obtain ⟨A2, N2⟩ := A1.see T2 M2 (by simp only; omega)
 exact ⟨w2, r2, A2, N1.trans N2, A0.blk.cell 10, A0.blk.lt⟩

set_option maxRecDepth 100000 in
set_option maxHeartbeats 4000000 in
theorem show_any (h : RS w X z B) (i : Nat) (hi : i < X.L.length) (y : ZS) (hy : zshow X.L z i = some y) : Calls Tryd.prog 93 #[.pointer (some ⟨X.r, 0, none⟩), .int .i64 i] w fun e' w' => e' = .returned (.tuple #[]) ∧ RS w' X y B ∧ NX B.ρ w w' B.ρ := by
 obtain ⟨ub, uc, u, hu1, hue, c6, u0, u1, hul, huf, huρ, hune⟩ := h.us hi
 obtain ⟨ct, htm⟩ := h.x.nc.1.text hi
 have cn : w.cell? ⟨X.r, 3, none⟩ = some (.slice (some ⟨X.g, X.o, none⟩) X.L.length X.cap) := h.blk.cell 3
 have c10 : w.cell? ⟨X.r, 10, none⟩ = some (.map (some B.sb)) := h.blk.cell 10
 have hf := h.blk.free
 have hl := h.blk.lt
 have gl := h.x.nc.1.lt
 have hi2 : (i : Int) < (X.L.length : Int) := by omega
 unfold zshow at hy
 rw [hu1] at hy
 simp only at hy
 obtain ⟨a, d⟩ := u
 simp only at hy u0 u1
 by_cases h1 : a = 1
 ·subst h1
  rw [if_neg (by simp)] at hy
  cases hnm : z.names with
  | none => rw [hnm] at hy; cases hy
  | some m =>
   rw [hnm] at hy
   simp only at hy
   by_cases hc : (z.cnt < 100000 ∧ z.nc < 100000) ∧ 0 ≤ d ∧ d ≤ 100000
   case neg => rw [if_neg hc] at hy; cases hy
   rw [if_pos hc] at hy
   cases hy
   have c0 : w.cell? ⟨X.r, 0, none⟩ = some (.map (some B.nb)) := by
    have := h.blk.cell 0
    rw [this]
    show some (Value.map (nmO z.names B.nb)) = _
    rw [hnm]; rfl
   obtain ⟨hm1, hr1⟩ := h.x.nams (by decide) m hnm
   have A0 := hid (h.bw (Bw.alloc (Bw.refl w) (.cells #[.int .i64 1, .int .i64 d] 57)))
   obtain ⟨D1, ho1, hd1⟩ := (A0.out.x.nams (by decide) m hnm).1
   obtain ⟨D2, ho2, hd2⟩ := (A0.out.x.seen (by decide)).1
   have HO1 := hid ho1
   have HO2 := hid ho2
   have HD1 := hid hd1
   have HD2 := hid hd2
   have HK := hid (key_lit htm)
   have HTM := hid htm
   have HNL := hid hm1.lt
   have HC := hid hc
   have HNM := hid hnm
   generalize zT X.L i = t at ct HK HTM ⊢
   clear h hu1 hue huρ hune htm hnm hm1 hr1 ho1 ho2 hd1 hd2 hc
   cases hs : z.seen t with
   | none =>
    have hhas : Maps.has D2 (.string t.data.toList) = false := by rw [HD2.out.has, hs]; rfl
    clear hs
    go_enter Tryd.func93, Tryd.ntmps93
    go_upto_region 7 with (first
     | (at_lookup; refine wpList_lookup_own_ok_int _ rfl _ _ 77 rfl 9 3 .i64 key9 underMs int3 (zero3 _) B.sb z.cnt D2 rfl HO2.out _ _ rfl HK.out ?_; intro c1 hat hwc; rw [hhas]; clear hat hwc)
     | (at_mapUpdate; refine wpList_mapUpdate_in _ rfl _ _ _ 77 rfl 9 3 key9 underMs _ B.nb z.nc D1 rfl HO1.out (by have := HC.out; unfold maxLen; omega) _ _ _ rfl rfl HK.out _ [] (plainElem_int int3 (WalkArith.wf_i64 (by omega))) ?_; intro w1 hown1 hturn1; have T1 := hid hturn1; have O1 := hid hown1; clear hown1 hturn1)
     | fail)
    obtain ⟨w2, r2, A2, N2, q10, q1⟩ := A0.out.shown HNM.out T1.out ⟨_, O1.out, HD1.out.put t (-1)⟩ HTM.out HC.out.1 d HC.out.2
    have q4 : w1.cell? ⟨w.heap.size, 1, none⟩ = some (.int .i64 d) := ((Blk.new w #[.int .i64 1, .int .i64 d] 57).keep (T1.out.grown.block _ (by simp) (fun e => by have := HNL.out; have := Option.some.inj e; omega))).cell 1
    have AA := hid A2
    have NN := hid ((NX.of_bw B.ρ (Bw.alloc (Bw.refl w) _)).trans N2)
    clear A2 N2
    go_region
    all_goals go_end0
    all_goals exact ⟨rfl, AA.out, NN.out⟩
   | some x =>
    have hhas : Maps.has D2 (.string t.data.toList) = true := by rw [HD2.out.has, hs]; rfl
    have HS := hid hs
    clear hs
    go_enter Tryd.func93, Tryd.ntmps93
    go_upto_region 7 with (first
     | (at_lookup; refine wpList_lookup_own_ok_int _ rfl _ _ 77 rfl 9 3 .i64 key9 underMs int3 (zero3 _) B.sb z.cnt D2 rfl HO2.out _ _ rfl HK.out ?_; intro c1 hat hwc; rw [hhas]; have HW := hid hwc; have HX := hid (show c1 = x by have h2 := HD2.out.at_ t x HS.out; rw [h2] at hat; cases hat; rfl); clear hat hwc)
     | (at_mapUpdate; refine wpList_mapUpdate_in _ rfl _ _ _ 77 rfl 9 3 key9 underMs _ B.nb z.nc D1 rfl HO1.out (by have := HC.out; unfold maxLen; omega) _ _ _ rfl rfl HK.out _ [] (plainElem_int int3 HW.out) ?_; intro w1 hown1 hturn1; have T1 := hid hturn1; have O1 := hid hown1; clear hown1 hturn1)
     | fail)
    obtain ⟨w2, r2, A2, N2, q10, q1⟩ := A0.out.shown HNM.out T1.out ⟨_, O1.out, HD1.out.put t c1⟩ HTM.out HC.out.1 d HC.out.2
    have q4 : w1.cell? ⟨w.heap.size, 1, none⟩ = some (.int .i64 d) := ((Blk.new w #[.int .i64 1, .int .i64 d] 57).keep (T1.out.grown.block _ (by simp) (fun e => by have := HNL.out; have := Option.some.inj e; omega))).cell 1
    have AA := hid A2
    have NN := hid ((NX.of_bw B.ρ (Bw.alloc (Bw.refl w) _)).trans N2)
    clear A2 N2
    go_region
    all_goals go_end0
    all_goals exact ⟨rfl, HX.out ▸ AA.out, NN.out⟩
 ·rw [if_pos h1] at hy
  cases hy
  have A0 := hid (h.bw (Bw.alloc (Bw.refl w) (.cells #[.int .i64 a, .int .i64 d] 57)))
  have NN := hid (NX.of_bw B.ρ (Bw.alloc (Bw.refl w) (.cells #[.int .i64 a, .int .i64 d] 57)))
  have e1 : (a != 1) = true := by simpa using h1
  clear h hu1 hue huρ hune htm h1
  go_enter Tryd.func93, Tryd.ntmps93
  go_wp2
  all_goals refine bodyPost_ret (v := .tuple #[]) (by simp [results, Tryd.results93, go_sem]) rfl ?_
  all_goals exact ⟨rfl, A0.out, NN.out⟩
end
end Go.Proofs.YtdhkcdehedbpcaaDoor

