/- The resolver: whole; program. · newResolver. · The law's own example, resolved as plain data. -/
import Derived.Test.YtdhkcdehedbpcaaDoorM36
import Derived.Test.YtdhkcdehedbpcaaDoorM28
set_option linter.unusedSimpArgs false
set_option linter.unusedVariables false
namespace Go.Proofs.YtdhkcdehedbpcaaDoor
open Go Go.RowKit

def fnC (k : FK) : List Value := [.int .i64 k.f.node, .int .i64 k.f.params, .int .i64 k.f.slots, k.cv]

section
variable {w : World} {X : ZX} {z z0 : ZS} {B : ZB}

set_option maxRecDepth 100000 in
set_option maxHeartbeats 4000000 in
theorem program_any (h : RS w X z B) (h0 : 0 < X.L.length) (t : Nat) (z' : ZS) (hz : zR X.L X.A t (.parts (zN X.L 0).2.1) z = some z') : Calls Tryd.prog 25 #[.pointer (some ⟨X.r, 0, none⟩)] w fun e' w' => e' = .returned (.tuple #[]) ∧ Zp w X B z' w' := by
 have cn : w.cell? ⟨X.r, 3, none⟩ = some (.slice (some ⟨X.g, X.o, none⟩) X.L.length X.cap) := h.blk.cell 3
 have c1 := h.x.nc.1.cnt h0
 rw [show X.o + 0 * 5 + 1 = X.o + 1 by omega] at c1
 have gl := h.x.nc.1.lt
 have hl := h.blk.lt
 have hi2 : (0 : Int) < (X.L.length : Int) := by omega
 have H := hid h
 have HZ := hid hz
 clear h hz
 go_enter Tryd.func25, Tryd.ntmps25
 go_wp2_with (first
  | (go_at_call 58; refine ((conZ_any X t).parts H.out _ z' HZ.out).mono ?_; rintro e w1 ⟨rfl, hr⟩; have R := hid hr; clear hr)
  | fail)
 all_goals go_end0
 all_goals exact ⟨rfl, R.out⟩

structure WH (w wr : World) (X : ZX) (z : ZS) (B : ZB) (vk : Value) (k : Nat) : Prop where
 rs : RS wr X z B
 nx : NX B.ρ w wr B.ρ
 row : wr.ownsRow 0 49 4 vk k ((B.K.take k).flatMap fnC)
 own : ∀ b, vk.ownBlock = some b → w.heap.size + 2 ≤ b
 s : Blk wr (w.heap.size + 1) #[vk, B.uv, B.gv] 31
 r : Blk wr w.heap.size #[.slice none 0 0, .slice none 0 0, .slice none 0 0] 31

theorem WH.bw {wr w2 : World} {vk : Value} {k : Nat} (h : WH w wr X z B vk k) (hb : Bw wr w2) : WH w w2 X z B vk k :=
 ⟨h.rs.bw hb, h.nx.bw hb, own_keep8 h.row (fun b e => hb.block b (h.row.lt b e).2), h.own, h.s.bw hb, h.r.bw hb⟩

theorem WH.grown {wr w2 : World} {vk v' : Value} {k : Nat} {q : FK} (h : WH w wr X z B vk k) (h0 : RS w X z B) (hq : B.K[k]? = some q) (ho : w2.ownsRow 0 49 4 v' (k + 1) ((B.K.take k).flatMap fnC ++ fnC q)) (hg : wr.grownBy w2 vk.ownBlock) (hvb : v'.ownBlock = vk.ownBlock ∨ ∀ b, v'.ownBlock = some b → wr.heap.size ≤ b) :
  WH w (w2.setCell ⟨w.heap.size + 1, 0, none⟩ v') X z B v' (k + 1) ∧ w2.cell? ⟨w.heap.size + 1, 0, none⟩ = some vk ∧ w.heap.size + 1 < w2.heap.size ∧ w2.frozen? ⟨w.heap.size + 1, 0, none⟩ = false := by
 have hs1 := h.s.lt
 have hb0 : ∀ b, vk.ownBlock = some b → B.ρ b = 0 ∧ X.g ≠ b ∧ X.ab ≠ b ∧ 0 ≠ b := fun b e => by
  have h1 := h.own b e
  have := h0.x.nc.1.lt
  have := h0.x.ah.1.lt
  have := h0.x.pr.1.1
  exact ⟨h0.x.top b (by omega), by omega, by omega, by omega⟩
 have R2 : RS w2 X z B := by
  cases hv : vk.ownBlock with
  | none =>
   rw [hv] at hg
   exact h.rs.bw ⟨hg.os, hg.tape, hg.output, hg.size, fun b hb => hg.block b hb (by simp)⟩
  | some b =>
   rw [hv] at hg
   obtain ⟨e1, e2, e3, e4⟩ := hb0 b hv
   exact h.rs.aside hg e1 e2 e3 e4
 have hk1 : ∀ b, b < wr.heap.size → b < w.heap.size + 2 → w2.heap[b]? = wr.heap[b]? := fun b hb hlt => hg.block b hb (fun e => by have := h.own b e.symm; omega)
 have s2 : Blk w2 (w.heap.size + 1) #[vk, B.uv, B.gv] 31 := h.s.keep (hk1 _ hs1 (by omega))
 have r2 : Blk w2 w.heap.size #[.slice none 0 0, .slice none 0 0, .slice none 0 0] 31 := h.r.keep (hk1 _ h.r.lt (by omega))
 have n2 : NX B.ρ w w2 B.ρ := ⟨hg.os.trans h.nx.os, hg.tape.trans h.nx.tape, hg.output.trans h.nx.output, Nat.le_trans h.nx.size hg.size, fun b hb e0 => (hk1 b (Nat.lt_of_lt_of_le hb h.nx.size) (by omega)).trans (h.nx.block b hb e0), fun _ _ e => e⟩
 have hgs : w2.grownBy (w2.setCell ⟨w.heap.size + 1, 0, none⟩ v') (some (w.heap.size + 1)) := grown_set w2 _ 0 v'
 have hown : ∀ b, v'.ownBlock = some b → w.heap.size + 2 ≤ b := fun b e => by
  rcases hvb with h1 | h1
  ·exact h.own b (h1 ▸ e)
  ·have := h1 b e; omega
 have htk : (B.K.take (k + 1)).flatMap fnC = (B.K.take k).flatMap fnC ++ fnC q := by
  rw [List.take_add_one, hq]
  simp [List.flatMap_append]
 refine ⟨⟨?_, ?_, ?_, hown, s2.set 0 v', r2.other (by simp) v'⟩, s2.cell 0, s2.lt, s2.free 0⟩
 ·exact R2.aside hgs (h0.x.top _ (by omega)) (by have := h0.x.nc.1.lt; omega) (by have := h0.x.ah.1.lt; omega) (by have := h0.x.pr.1.1; omega)
 ·exact n2.ex2 hgs (by omega)
 ·rw [htk]
  exact own_keep8 ho (fun b e => Below.heap_setCell w2 _ v' b (fun e2 => by have := hown b e; have e2 : b = w.heap.size + 1 := e2; omega))

theorem WH.use {wr : World} {vk : Value} {n i ub uc : Nat} (h : WH w wr X z B vk n) (h0 : RS w X z0 B) (hi : i < X.L.length) (hv : B.uv = .slice (some ⟨ub, 0, none⟩) X.L.length uc) (a b : Int) : WH w ((wr.setCell ⟨ub, i * 2, none⟩ (.int .i64 a)).setCell ⟨ub, i * 2 + 1, none⟩ (.int .i64 b)) X (zuse z i (a, b)) B vk n := by
 obtain ⟨E1, E2⟩ := h.rs.use hi hv a b
 have hr := (h.rs.x.uses (by decide)).2 ub (by rw [hv]; rfl)
 have t0 : ∀ b, w.heap.size ≤ b → b ≠ ub := fun b hb e => by have := h0.x.top b hb; rw [e, hr] at this; cases this
 refine ⟨E1, h.nx.trans E2, own_keep8 h.row (fun b e => ?_), h.own, (h.s.other (by exact (t0 _ (by omega)).symm) _).other (by exact (t0 _ (by omega)).symm) _, (h.r.other (by exact (t0 _ (Nat.le_refl _)).symm) _).other (by exact (t0 _ (Nat.le_refl _)).symm) _⟩
 have hne := t0 b (by have := h.own b e; omega)
 rw [Below.heap_setCell _ _ _ b (fun e => hne e), Below.heap_setCell _ _ _ b (fun e => hne e)]

def ztold (z : ZS) (k : Nat) : ZS := { z with uses := (z.uses.take k).map (zend z) ++ z.uses.drop k }
theorem told_get {z : ZS} {k : Nat} {u : Int × Int} (h : z.uses[k]? = some u) : (ztold z k).uses[k]? = some u := by
 have hk := (List.getElem?_eq_some_iff.1 h).1
 unfold ztold
 simp only
 rw [List.getElem?_append_right (by simp; omega), List.length_map, List.length_take, Nat.min_eq_left (by omega), Nat.sub_self, List.getElem?_drop, Nat.add_zero]
 exact h
theorem told_next {z : ZS} {k : Nat} {u : Int × Int} (h : z.uses[k]? = some u) : zuse (ztold z k) k (zend z u) = ztold z (k + 1) := by
 have hk := (List.getElem?_eq_some_iff.1 h).1
 have hu : z.uses[k] = u := (List.getElem?_eq_some_iff.1 h).2
 unfold zuse ztold
 simp only [ZS.mk.injEq, true_and, and_true]
 rw [List.set_append_right _ _ (by simp; omega), List.length_map, List.length_take, Nat.min_eq_left (by omega), Nat.sub_self, List.drop_eq_getElem_cons hk, List.set_cons_zero, List.take_add_one, h]
 simp
theorem told_same {z : ZS} {k : Nat} {u : Int × Int} (h : z.uses[k]? = some u) (he : zend z u = u) : ztold z k = ztold z (k + 1) := by
 rw [← told_next h, he]
 have hk := (List.getElem?_eq_some_iff.1 (told_get h)).1
 have hg := told_get h
 unfold zuse
 have : (ztold z k).uses.set k u = (ztold z k).uses := by
  apply List.ext_getElem?
  intro j
  by_cases hj : j = k
  ·subst hj; rw [List.getElem?_set_self hk, hg]
  ·rw [List.getElem?_set_ne (Ne.symm hj)]
 rw [this]
theorem told_all {z : ZS} {k : Nat} (h : z.uses.length = k) : ztold z k = { z with uses := z.uses.map (zend z) } := by
 unfold ztold
 rw [← h, List.take_length, List.drop_length, List.append_nil]
theorem told_zero (z : ZS) : ztold z 0 = z := by
 unfold ztold
 simp

set_option maxRecDepth 100000 in
set_option maxHeartbeats 8000000 in
theorem whole_any (h : RS w X z B) (hfit : ∀ u ∈ z.uses, zfit z u = true) : Calls Tryd.prog 26 #[.pointer (some ⟨X.r, 0, none⟩)] w fun e w' => ∃ vf, e = .returned (.agg #[vf, B.uv, B.gv]) ∧ w'.ownsRow 0 49 4 vf B.K.length (B.K.flatMap fnC) ∧ RS w' X { z with uses := z.uses.map (zend z) } B ∧ NX B.ρ w w' B.ρ ∧ ∀ b, vf.ownBlock = some b → w.heap.size ≤ b := by
 obtain ⟨fa, fc, hfv⟩ := own_form (h.x.funs (by decide)).1
 obtain ⟨ua, uc, huv⟩ := own_form (h.x.uses (by decide)).1
 obtain ⟨ga, gc, hgv⟩ := own_form (h.x.globs (by decide)).1
 obtain ⟨n, hkn⟩ : ∃ n, B.K.length = n := ⟨_, rfl⟩
 rw [hkn] at hfv
 rw [h.x.ul] at huv
 obtain ⟨gn, hgn⟩ : ∃ gn, z.globals.length = gn := ⟨_, rfl⟩
 rw [hgn] at hgv
 have c5 : w.cell? ⟨X.r, 5, none⟩ = some (.slice fa n fc) := by have := h.blk.cell 5; rw [this]; exact congrArg some hfv
 have c6 : w.cell? ⟨X.r, 6, none⟩ = some (.slice ua X.L.length uc) := by have := h.blk.cell 6; rw [this]; exact congrArg some huv
 have c7 : w.cell? ⟨X.r, 7, none⟩ = some (.slice ga gn gc) := by have := h.blk.cell 7; rw [this]; exact congrArg some hgv
 have hl := h.blk.lt
 have H := hid h
 have HFV := hid hfv
 have HUV := hid huv
 have HGV := hid hgv
 have HKN := hid hkn
 have HFIT := hid hfit
 have hn1 : n ≤ 1024 := by have := h.x.bd.1; rw [← h.x.kf, List.length_map] at this; omega
 have HN1 := hid hn1
 have W1 := hid (fun (o1 o2 : Obj) => Bw.drew (Bw.alloc (Bw.alloc (Bw.refl w) o1) o2))
 obtain ⟨i1, I1⟩ := info_parts8 infoFn
 have I1 := hid I1
 clear h hfit hkn hfv huv hgv hgn hn1
 go_enter Tryd.func26, Tryd.ntmps26
 go_upto_region 1 with fail
 go_region
 go_wp2
 have hW0 : WH w ((w.alloc (.cells #[.slice none 0 0, .slice none 0 0, .slice none 0 0] 31)).alloc (.cells #[.slice none 0 0, .slice ua X.L.length uc, .slice ga gn gc] 31)).drew X z B (.slice none 0 0) 0 := by
  refine ⟨H.out.bw (W1.out _ _), NX.of_bw _ (W1.out _ _), World.ownsRow_nil _ 0 49 4, (fun b e => by cases e), ?_, ?_⟩
  ·rw [HUV.out, HGV.out]
   have h1 : ((w.alloc (.cells #[.slice none 0 0, .slice none 0 0, .slice none 0 0] 31))).heap.size = w.heap.size + 1 := by simp
   have h2 := Blk.new (w.alloc (.cells #[.slice none 0 0, .slice none 0 0, .slice none 0 0] 31)) #[.slice none 0 0, .slice ua X.L.length uc, .slice ga gn gc] 31
   rw [h1] at h2
   exact h2
  ·exact Blk.alloc (Blk.new w _ _) _
 have HW0 := hid hW0
 clear hW0
 go_loopw [22] (fun v22 wr => ∃ (k : Nat) (vk : Value), v22 = .int .i64 (k : Nat) ∧ k ≤ n ∧ WH w wr X z B vk k) (fun v22 _ => n - (intOf v22).toNat)
 case atStart => exact ⟨0, .slice none 0 0, rfl, Nat.zero_le _, HW0.out⟩
 case round =>
  obtain ⟨k, vk, rfl, hk, hwh⟩ := hrel
  have HW := hid hwh
  by_cases hkn : k < n
  ·have hkn2 : (k : Int) < (n : Int) := by omega
   have hwk : IntKind.i64.wrap ((k : Int) + 1) = (k : Int) + 1 := by have := HN1.out; rw [IntKind.wrap_i64]; omega
   obtain ⟨q, hq⟩ : ∃ q, B.K[k]? = some q := ⟨_, List.getElem?_eq_getElem (by rw [HKN.out]; exact hkn)⟩
   have hzf : z.funs[k]? = some q.f := by rw [← hwh.rs.x.kf, List.getElem?_map, hq]; rfl
   obtain ⟨fb, fc', q', hfm, _⟩ := hwh.rs.fu hzf
   have hqq := hfm.kk
   rw [hq] at hqq
   cases hqq
   have hfe := hfm.fv
   rw [HFV.out, HKN.out] at hfe
   have hfa : fa = some ⟨fb, 0, none⟩ := by cases hfe; rfl
   subst hfa
   obtain ⟨va, vc, hvk⟩ := own_form hwh.row
   subst hvk
   obtain ⟨ca, cc, hcv⟩ := own_form (hwh.rs.x.caps k q hq (by omega)).1
   obtain ⟨m, hm⟩ : ∃ m, q.f.caps.length = m := ⟨_, rfl⟩
   rw [hm] at hcv
   obtain ⟨mo, hmv⟩ : ∃ mo, q.mv = .map mo := by
    rcases Nat.eq_zero_or_pos k with e0 | e0
    ·subst e0; exact ⟨_, (hwh.rs.x.map0 q hq).1⟩
    ·obtain ⟨b, h1, _⟩ := hwh.rs.x.maps k q hq e0 (by omega)
     exact ⟨_, h1⟩
   have x0 : wr.cell? ⟨fb, k * 6, none⟩ = some (.int .i64 q.f.node) := by have := hfm.c 0 (by decide); rw [Nat.add_zero] at this; rw [this]; rfl
   have x1 : wr.cell? ⟨fb, k * 6 + 1, none⟩ = some (.int .i64 q.f.params) := hfm.c 1 (by decide)
   have x2 : wr.cell? ⟨fb, k * 6 + 2, none⟩ = some (.int .i64 q.f.slots) := hfm.c 2 (by decide)
   have x3 : wr.cell? ⟨fb, k * 6 + 3, none⟩ = some (.slice ca m cc) := by rw [← hcv]; exact hfm.c 3 (by decide)
   have x4 : wr.cell? ⟨fb, k * 6 + 4, none⟩ = some (.int .i64 q.f.about) := hfm.c 4 (by decide)
   have x5 : wr.cell? ⟨fb, k * 6 + 5, none⟩ = some (.map mo) := by rw [← hmv]; exact hfm.c 5 (by decide)
   have xl := hfm.lt
   have p0 := hwh.s.cell 0
   simp only [List.getElem?_toArray, List.getElem?_cons_zero] at p0
   have pl := hwh.s.lt
   have pf := hwh.s.free
   have HQ := hid hq
   have HFC := hid (show fnC q = [.int .i64 q.f.node, .int .i64 q.f.params, .int .i64 q.f.slots, .slice ca m cc] by unfold fnC; rw [hcv])
   generalize q.f.node = n0 at x0 HFC
   generalize q.f.params = n1 at x1 HFC
   generalize q.f.slots = n2 at x2 HFC
   generalize q.f.about = n4 at x4
   have BWA := hid (show Bw wr ((wr.alloc (.cells #[.int .i64 n0, .int .i64 n1, .int .i64 n2, .slice ca m cc, .int .i64 n4, .map mo] 118)).alloc (.cells #[.int .i64 n0, .int .i64 n1, .int .i64 n2, .slice ca m cc] 49)) from Bw.alloc (Bw.alloc (Bw.refl wr) _) _)
   have WA1 := hid (hwh.bw BWA.out)
   have NWS := hid (show ∀ (j : Nat) (u : Value), ([.int .i64 n0, .int .i64 n1, .int .i64 n2, .slice ca m cc] : List Value)[j]? = some u → ((wr.alloc (.cells #[.int .i64 n0, .int .i64 n1, .int .i64 n2, .slice ca m cc, .int .i64 n4, .map mo] 118)).alloc (.cells #[.int .i64 n0, .int .i64 n1, .int .i64 n2, .slice ca m cc] 49)).cell? ((⟨wr.heap.size + 1, 0, none⟩ : Addr).add j) = some u from by have h1 := new_news (wr.alloc (.cells #[.int .i64 n0, .int .i64 n1, .int .i64 n2, .slice ca m cc, .int .i64 n4, .map mo] 118)) [.int .i64 n0, .int .i64 n1, .int .i64 n2, .slice ca m cc] 49; rw [show (wr.alloc (.cells #[.int .i64 n0, .int .i64 n1, .int .i64 n2, .slice ca m cc, .int .i64 n4, .map mo] 118)).heap.size = wr.heap.size + 1 by simp] at h1; exact h1)
   have GR := hid (fun (v1 : Value) (w2 : World) (ho1 : w2.ownsRow 0 49 4 v1 (k + 1) ((B.K.take k).flatMap fnC ++ [.int .i64 n0, .int .i64 n1, .int .i64 n2, .slice ca m cc])) (hg1 : ((wr.alloc (.cells #[.int .i64 n0, .int .i64 n1, .int .i64 n2, .slice ca m cc, .int .i64 n4, .map mo] 118)).alloc (.cells #[.int .i64 n0, .int .i64 n1, .int .i64 n2, .slice ca m cc] 49)).grownBy w2 (Value.slice va k vc).ownBlock) (hvb1 : v1.ownBlock = (Value.slice va k vc).ownBlock ∨ ∀ b, v1.ownBlock = some b → ((wr.alloc (.cells #[.int .i64 n0, .int .i64 n1, .int .i64 n2, .slice ca m cc, .int .i64 n4, .map mo] 118)).alloc (.cells #[.int .i64 n0, .int .i64 n1, .int .i64 n2, .slice ca m cc] 49)).heap.size ≤ b) => WA1.out.grown H.out HQ.out (by rw [HFC.out]; exact ho1) hg1 hvb1)
   have HK := hid hkn
   clear hwh hq hzf hfm hfe hcv hm hmv hk hkn
   go_wp2_with (first
    | (at_builtin; refine wpList_append_row _ rfl _ _ 27 rfl 49 i1 _ 4 48 undFn8 I1.out.1 I1.out.2.1 I1.out.2.2.1 I1.out.2.2.2 rfl (by decide) (.slice va k vc) k ((B.K.take k).flatMap fnC) rfl WA1.out.row ⟨wr.heap.size + 1, 0, none⟩ 1 1 [.int .i64 n0, .int .i64 n1, .int .i64 n2, .slice ca m cc] rfl rfl NWS.out (by intro u hu; simp at hu; rcases hu with rfl | rfl | rfl | rfl <;> rfl) (by have := HN1.out; have := HK.out; unfold maxLen; omega) (by have := HN1.out; have := HK.out; omega) ?_; intro v1 w2 ho1 hg1 hvb1; obtain ⟨E0, q0, ql, qf⟩ := GR.out _ _ ho1 hg1 hvb1; have E1 := hid E0; (obtain ⟨a1, cc1, e1⟩ := own_form ho1); subst e1; clear ho1 hg1 hvb1 E0)
    | fail)
   case roundEnd => exact ⟨⟨k + 1, _, by (have := HN1.out; have := HK.out; go_num), by have := HK.out; omega, E1.out⟩, by have := HN1.out; have := HK.out; simp [intOf]; omega⟩
  ·obtain rfl : k = n := by omega
   have htk : B.K.take k = B.K := by rw [← HKN.out, List.take_length]
   have HTK := hid htk
   have p1 := hwh.s.cell 1
   simp only [List.getElem?_toArray, List.getElem?_cons_zero, List.getElem?_cons_succ] at p1
   rw [HUV.out] at p1
   have pl := hwh.s.lt
   clear hwh hk hkn htk
   go_wp2
   go_loopw [37] (fun v37 w1 => ∃ j : Nat, v37 = .int .i64 (j : Nat) ∧ j ≤ X.L.length ∧ WH w w1 X (ztold z j) B vk k) (fun v37 _ => X.L.length - (intOf v37).toNat)
   case atStart => exact ⟨0, rfl, Nat.zero_le _, by rw [told_zero]; exact HW.out⟩
   case round =>
    obtain ⟨j, rfl, hj, hwh⟩ := hrel
    have HW := hid hwh
    by_cases hjn : j < X.L.length
    ·have hjn2 : (j : Int) < (X.L.length : Int) := by omega
     have hwj : IntKind.i64.wrap ((j : Int) + 1) = (j : Int) + 1 := by have := H.out.x.ll; rw [IntKind.wrap_i64]; omega
     obtain ⟨ub, uc', u, hu1, hue, y6, y0, y1, hul, huf, huρ, hune⟩ := hwh.rs.us hjn
     have hue2 := hue
     rw [HUV.out] at hue2
     have hua : ua = some ⟨ub, 0, none⟩ := by cases hue2; rfl
     have huc : uc' = uc := by cases hue2; rfl
     subst hua huc
     obtain ⟨u', hu'⟩ : ∃ u', z.uses[j]? = some u' := ⟨_, List.getElem?_eq_getElem (by rw [H.out.x.ul]; exact hjn)⟩
     have hg := told_get hu'
     rw [hu1] at hg
     cases hg
     have HU := hid hu'
     have HUE := hid hue
     have HI := hid hjn
     have HFU := hid (HFIT.out u (List.mem_of_getElem? hu'))
     have hx1 : ((u.1 == 1) = true ∨ (u.1 == 1) = false) := by cases (u.1 == 1) <;> simp
     rcases hx1 with hx1 | hx1
     ·have hu11 : u.1 = 1 := by simpa using hx1
      have hfit := HFU.out
      unfold zfit at hfit
      simp [hu11] at hfit
      obtain ⟨dn, hdn⟩ : ∃ dn : Nat, u.2 = (dn : Int) := ⟨u.2.toNat, by omega⟩
      obtain ⟨e, he⟩ : ∃ e, z.declared[dn]? = some e := ⟨_, List.getElem?_eq_getElem (by omega)⟩
      obtain ⟨db, dc, hdm⟩ := hwh.rs.de (show (ztold z j).declared[dn]? = some e from he)
      rw [hdn] at y1
      rw [hu11] at y0
      have HZE := hid (show zend z u = ((if e.taken then 2 else 1), e.slot) by unfold zend; rw [if_pos hu11, hdn, Int.toNat_natCast, List.getD_eq_getElem?_getD, he]; simp only [Option.getD_some]; cases e.taken <;> rfl)
      have hd1 : (dn : Int) < (z.declared.length : Int) := by have := hdm.gl; have h2 : (ztold z j).declared.length = z.declared.length := rfl; omega
      have HDM := hid hdm
      have BW2 := hid (show Bw wr (wr.alloc (.cells #[.int .i64 1, .int .i64 dn] 57)) from Bw.alloc (Bw.refl wr) _)
      have HW2' := hid (hwh.bw BW2.out)
      have P2' := hid (Blk.new wr #[.int .i64 1, .int .i64 dn] 57)
      clear hwh hue hue2 hu1 hu' hune huρ hj hjn hfit hdn he hdm hu11 hx1 huf
      go_upto_region 11 with fail
      generalize hw2 : World.alloc wr (.cells #[.int .i64 1, .int .i64 dn] 57) = w2 at HW2' P2' ⊢
      generalize hcb : wr.heap.size = cb at P2' ⊢
      have HW2 := HW2'
      have HS := hid (fun (W' : World) (hb : Bw w2 W') => (⟨(by have := (HW2.out.bw hb).s.cell 1; rw [this, HUE.out]; rfl), (by have := (HW2.out.rs.bw hb).blk.cell 9; rw [this]; exact congrArg some HDM.out.dv), (P2'.out.bw hb).cell 1, (by have h1 := ((HW2.out.rs.bw hb).de HDM.out.kk); obtain ⟨db', dc', h2⟩ := h1; have h3 := h2.dv; rw [HDM.out.dv] at h3; obtain ⟨e1, e2⟩ := slice_inj8 h3; subst e1; have := h2.c 0 (by decide); rw [Nat.add_zero] at this; rw [this]; rfl), (by have h1 := ((HW2.out.rs.bw hb).de HDM.out.kk); obtain ⟨db', dc', h2⟩ := h1; have h3 := h2.dv; rw [HDM.out.dv] at h3; obtain ⟨e1, e2⟩ := slice_inj8 h3; subst e1; exact h2.c 1 (by decide)), (by have h1 := ((HW2.out.rs.bw hb).de HDM.out.kk); obtain ⟨db', dc', h2⟩ := h1; have h3 := h2.dv; rw [HDM.out.dv] at h3; obtain ⟨e1, e2⟩ := slice_inj8 h3; subst e1; exact h2.c 2 (by decide))⟩ : W'.cell? ⟨w.heap.size + 1, 1, none⟩ = some (.slice (some ⟨ub, 0, none⟩) X.L.length uc') ∧ W'.cell? ⟨X.r, 9, none⟩ = some (.slice (some ⟨db, 0, none⟩) z.declared.length dc) ∧ W'.cell? ⟨cb, 1, none⟩ = some (.int .i64 (dn : Nat)) ∧ W'.cell? ⟨db, dn * 3, none⟩ = some (.int .i64 e.fn) ∧ W'.cell? ⟨db, dn * 3 + 1, none⟩ = some (.int .i64 e.slot) ∧ W'.cell? ⟨db, dn * 3 + 2, none⟩ = some (.bool e.taken)))
      clear hw2 hcb
      refine wp_region_W (fun w' => w'.cell? ⟨w.heap.size + 1, 1, none⟩ = some (.slice (some ⟨ub, 0, none⟩) X.L.length uc') ∧ w'.cell? ⟨X.r, 9, none⟩ = some (.slice (some ⟨db, 0, none⟩) z.declared.length dc) ∧ w'.cell? ⟨cb, 1, none⟩ = some (.int .i64 (dn : Nat)) ∧ w'.cell? ⟨db, dn * 3, none⟩ = some (.int .i64 e.fn) ∧ w'.cell? ⟨db, dn * 3 + 1, none⟩ = some (.int .i64 e.slot) ∧ w'.cell? ⟨db, dn * 3 + 2, none⟩ = some (.bool e.taken)) (fun j => if j == 11 then 0 else if j == 13 then 2 else 1) (by kernel_rfl) ?_
      refine tkW (i := 0) (oi := _) (v := ?_) rfl (Or.inl ⟨by rfl, fun w _ => ?_⟩) ?_
      rotate_left
      ·(go_simp; first | done | with_reducible rfl)
      try simp only [Act.put, sqA, sqZ, sqS]
      refine ldW (i := 1) (oi := _) (v := ?_) rfl (Or.inl ⟨by rfl, fun w hS => ?_⟩) (HS.out _ (Bw.drew (Bw.refl _))) ?_
      rotate_left
      ·(obtain ⟨s1, s2, s3, s4, s5, s6⟩ := hS; go_simp; first | done | with_reducible rfl)
      try simp only [Act.put, sqA, sqZ, sqS]
      refine tkW (i := 2) (oi := _) (v := ?_) rfl (Or.inl ⟨by rfl, fun w _ => ?_⟩) ?_
      rotate_left
      ·(go_simp; first | done | with_reducible rfl)
      try simp only [Act.put, sqA, sqZ, sqS]
      refine tkW (i := 3) (oi := _) (v := ?_) rfl (Or.inl ⟨by rfl, fun w _ => ?_⟩) ?_
      rotate_left
      ·(go_simp; first | done | with_reducible rfl)
      try simp only [Act.put, sqA, sqZ, sqS]
      refine tkW (i := 4) (oi := _) (v := ?_) rfl (Or.inl ⟨by rfl, fun w _ => ?_⟩) ?_
      rotate_left
      ·(go_simp; first | done | with_reducible rfl)
      try simp only [Act.put, sqA, sqZ, sqS]
      refine tkW (i := 5) (oi := _) (v := ?_) rfl (Or.inl ⟨by rfl, fun w _ => ?_⟩) ?_
      rotate_left
      ·(go_simp; first | done | with_reducible rfl)
      try simp only [Act.put, sqA, sqZ, sqS]
      refine ldW (i := 6) (oi := _) (v := ?_) rfl (Or.inl ⟨by rfl, fun w hS => ?_⟩) (HS.out _ (Bw.drew (Bw.refl _))) ?_
      rotate_left
      ·(obtain ⟨s1, s2, s3, s4, s5, s6⟩ := hS; go_simp; first | done | with_reducible rfl)
      try simp only [Act.put, sqA, sqZ, sqS]
      refine tkW (i := 7) (oi := _) (v := ?_) rfl (Or.inl ⟨by rfl, fun w _ => ?_⟩) ?_
      rotate_left
      ·(go_simp; first | done | with_reducible rfl)
      try simp only [Act.put, sqA, sqZ, sqS]
      refine ldW (i := 8) (oi := _) (v := ?_) rfl (Or.inl ⟨by rfl, fun w hS => ?_⟩) (HS.out _ (Bw.drew (Bw.refl _))) ?_
      rotate_left
      ·(obtain ⟨s1, s2, s3, s4, s5, s6⟩ := hS; go_simp; first | done | with_reducible rfl)
      try simp only [Act.put, sqA, sqZ, sqS]
      refine tkW (i := 9) (oi := _) (v := ?_) rfl (Or.inl ⟨by rfl, fun w _ => ?_⟩) ?_
      rotate_left
      ·(go_simp; first | done | with_reducible rfl)
      try simp only [Act.put, sqA, sqZ, sqS]
      refine ldW (i := 10) (oi := _) (v := ?_) rfl (Or.inl ⟨by rfl, fun w hS => ?_⟩) (HS.out _ (Bw.drew (Bw.refl _))) ?_
      rotate_left
      ·(obtain ⟨s1, s2, s3, s4, s5, s6⟩ := hS; go_simp; first | done | with_reducible rfl)
      try simp only [Act.put, sqA, sqZ, sqS]
      refine wpAnyW_ready (rs := [11]) (by kernel_rfl) (by simp) ?_
      refine (AllReadyW.cons (o := _) rfl (fun K hK => ?_) AllReadyW.nil)
      go_simp
      refine (use_any _ e).mono ?_
      rintro e' w3 ⟨he', hb3⟩
      subst he'
      have B3 := hid (show Bw w2 w3 from (Bw.drew (Bw.refl _)).trans hb3)
      have W3 := hid (HW2.out.bw B3.out)
      obtain ⟨u3, y6b, y0b, y1b, yl, yf, yn⟩ := W3.out.rs.us2 HI.out HUE.out
      have E3 := hid (W3.out.use H.out HI.out HUE.out (if e.taken then 2 else 1) e.slot)
      clear hb3
      refine hK.out _ _ (HS.out _ B3.out) ?_
      clear hK K
      try simp only [Act.put, sqA, sqZ, sqS]
      refine tkW (i := 12) (oi := _) (v := ?_) rfl (Or.inl ⟨by rfl, fun w _ => ?_⟩) ?_
      rotate_left
      ·(go_simp; first | done | with_reducible rfl)
      try simp only [Act.put, sqA, sqZ, sqS]
      refine wpAnyW_ready (rs := [13]) (by kernel_rfl) (by simp) ?_
      refine (AllReadyW.cons (o := _) rfl (fun K hK => ?_) AllReadyW.nil)
      go_simp
      refine hK.out _ _ trivial ?_
      clear hK K
      try simp only [Act.put, sqA, sqZ, sqS]
      refine wpAnyW_done (by kernel_rfl) ?_ _
      go_wp2
      case roundEnd => exact ⟨⟨j + 1, by (have := H.out.x.ll; have := HI.out; go_num), by have := HI.out; omega, by have h9 := E3.out; rw [← HZE.out, told_next HU.out] at h9; exact h9⟩, by have := H.out.x.ll; have := HI.out; simp [intOf]; omega⟩
     ·have hu11 : ¬ u.1 = 1 := by simpa using hx1
      have HZE := hid (show zend z u = u by unfold zend; rw [if_neg hu11])
      have HW3 := hid (show WH w wr X (ztold z (j + 1)) B vk k from told_same hu' HZE.out ▸ hwh)
      have HW4 := hid (HW3.out.bw (Bw.alloc (Bw.refl wr) (.cells #[.int .i64 u.1, .int .i64 u.2] 57)))
      clear hwh hue hue2 hu1 hu' hune huρ hj hjn hu11 huf
      go_wp2
      case roundEnd => exact ⟨⟨j + 1, by (have := H.out.x.ll; have := HI.out; go_num), by have := HI.out; omega, HW4.out⟩, by have := H.out.x.ll; have := HI.out; simp [intOf]; omega⟩
    ·obtain rfl : j = X.L.length := by omega
     have hwa := hwh
     rw [told_all H.out.x.ul] at hwa
     obtain ⟨va, vc, hvk⟩ := own_form hwa.row
     subst hvk
     have q0 := hwa.s.cell 0
     have q1 := hwa.s.cell 1
     have q2 := hwa.s.cell 2
     simp only [List.getElem?_toArray, List.getElem?_cons_zero, List.getElem?_cons_succ] at q0 q1 q2
     rw [HUV.out] at q1
     rw [HGV.out] at q2
     have ql := hwa.s.lt
     have r0 := hwa.r.cell 0
     have r1 := hwa.r.cell 1
     have r2 := hwa.r.cell 2
     simp only [List.getElem?_toArray, List.getElem?_cons_zero, List.getElem?_cons_succ] at r0 r1 r2
     have rl := hwa.r.lt
     have rf := hwa.r.free
     have HWA := hid hwa
     clear hwh hwa hj hjn
     go_wp2
     have hgr : wr.grownBy (((wr.setCell ⟨w.heap.size, 0, none⟩ (.slice va k vc)).setCell ⟨w.heap.size, 1, none⟩ (.slice ua X.L.length uc)).setCell ⟨w.heap.size, 2, none⟩ (.slice ga gn gc)) (some w.heap.size) := ⟨rfl, rfl, rfl, by simp [World.setCell], fun q _ hne => by rw [Below.heap_setCell _ _ _ q (fun e => hne (by rw [e])), Below.heap_setCell _ _ _ q (fun e => hne (by rw [e])), Below.heap_setCell _ _ _ q (fun e => hne (by rw [e]))]⟩
     refine bodyPost_ret (v := .agg #[.slice va k vc, .slice ua X.L.length uc, .slice ga gn gc]) (by simp [results, Tryd.results26, go_sem, *]) rfl ?_
     refine ⟨_, by rw [HUV.out, HGV.out], ?_, HWA.out.rs.aside hgr (H.out.x.top _ (Nat.le_refl _)) (by have := H.out.x.nc.1.lt; omega) (by have := H.out.x.ah.1.lt; omega) (by have := H.out.x.pr.1.1; omega), HWA.out.nx.ex2 hgr (Nat.le_refl _), fun b e => by have := HWA.out.own b e; omega⟩
     have h8 := HWA.out.row
     rw [HTK.out] at h8
     rw [HKN.out]
     exact own_keep8 h8 (fun b e => hgr.block b (h8.lt b e).2 (fun e2 => by have := HWA.out.own b e; have := Option.some.inj e2; omega))
end
end Go.Proofs.YtdhkcdehedbpcaaDoor

namespace Go.Proofs.YtdhkcdehedbpcaaDoor
open Go Go.RowKit

@[go_sem] def oRnw0 : Oper := { dst := some 3, op := Op.move (Operand.tmp 0), type := 24, pos := "resolver.go:48", after := #[], guard := none }
@[go_sem] def oRnw1 : Oper := { dst := some 4, op := Op.build 118 #[], type := 118, pos := "resolver.go:48", after := #[], guard := none }
@[go_sem] def oRnw2 : Oper := { dst := some 6, op := Op.move (Operand.tmp 0), type := 24, pos := "resolver.go:48", after := #[], guard := none }
@[go_sem] def oRnw3 : Oper := { dst := some 7, op := Op.call { callee := Callee.builtin Builtin.len, args := #[Operand.tmp 6], argTypes := #[24] }, type := 3, pos := "resolver.go:48", after := #[{ on := 3, ground := Ground.data }], guard := none }
@[go_sem] def oRnw4 : Oper := { dst := some 9, op := Op.move (Operand.tmp 0), type := 24, pos := "resolver.go:48", after := #[], guard := none }
@[go_sem] def oRnw5 : Oper := { dst := some 5, op := Op.buildSlice 80 1 #[(0, Operand.tmp 4)], type := 80, pos := "resolver.go:48", after := #[{ on := 1, ground := Ground.data }], guard := none }
@[go_sem] def oRnw6 : Oper := { dst := some 8, op := Op.makeSlice 28 (Operand.tmp 7) (Operand.tmp 7), type := 28, pos := "resolver.go:48", after := #[{ on := 4, ground := Ground.data }, { on := 4, ground := Ground.data }], guard := none }
@[go_sem] def oRnw7 : Oper := { dst := some 10, op := Op.call { callee := Callee.value (Operand.func 57), args := #[Operand.tmp 9], argTypes := #[24] }, type := 77, pos := "resolver.go:53", after := #[{ on := 6, ground := Ground.data }], guard := none }
@[go_sem] def oRnw8 : Oper := { dst := some 11, op := Op.makeMap 77 none, type := 77, pos := "resolver.go:48", after := #[], guard := none }
@[go_sem] def oRnw9 : Oper := { dst := some 12, op := Op.build 83 #[(1, Operand.tmp 3), (2, Operand.const (Value.int IntKind.i64 1)), (3, Operand.tmp 5), (4, Operand.tmp 8), (6, Operand.tmp 10), (8, Operand.tmp 11)], type := 83, pos := "resolver.go:48", after := #[{ on := 0, ground := Ground.data }, { on := 2, ground := Ground.data }, { on := 5, ground := Ground.data }, { on := 7, ground := Ground.data }, { on := 8, ground := Ground.data }], guard := none }
@[go_sem] def oRnw10 : Oper := { dst := some 13, op := Op.box 83 (Operand.tmp 12), type := 75, pos := "resolver.go:48", after := #[{ on := 9, ground := Ground.data }], guard := none }
@[go_sem] def oRnw11 : Oper := { dst := some 2, op := Op.assign (Operand.tmp 13), type := 75, pos := "resolver.go:48", after := #[{ on := 10, ground := Ground.data }, { on := 7, ground := Ground.chain }, { on := 0, ground := Ground.phase }, { on := 1, ground := Ground.phase }, { on := 2, ground := Ground.phase }, { on := 3, ground := Ground.phase }, { on := 4, ground := Ground.phase }, { on := 5, ground := Ground.phase }, { on := 6, ground := Ground.phase }, { on := 7, ground := Ground.phase }, { on := 8, ground := Ground.phase }, { on := 9, ground := Ground.phase }, { on := 10, ground := Ground.phase }], guard := none }

set_option maxRecDepth 100000 in
set_option maxHeartbeats 16000000 in
theorem newResolver_any {w : World} (g o cap : Nat) (L : List ANode) (h0 : 0 < L.length) (hl : L.length ≤ 1000) (n : Nat) (hn : L[0].2.1 = (n : Int)) (hn5 : n ≤ 1000) (h : NC w g o L) (hp : PrM w) {A : ByteArray → Option Int} (hg : globA L n 1 (fun _ => none) 0 = some A) :
  Calls Tryd.prog 24 #[.slice (some ⟨g, o, none⟩) L.length cap] w fun e w' => ∃ (r ab : Nat) (B : ZB), e = .returned (.pointer (some ⟨r, 0, none⟩)) ∧ RS w' ⟨r, g, o, cap, ab, n, L, A⟩ (zstart L) B ∧ Bw w w' ∧ ∀ b, b < w.heap.size → B.ρ b = 0 := by
 have HGL := hid (fun (W : World) (hb : Bw w W) => globals_any g o cap L h0 hl n hn hn5 (h.bw hb) hg)
 have HLP := hid h0
 have HLL := hid hl
 have HNC := hid h
 have HPR := hid hp
 have hmu := made_u L.length hl
 have hmm := @run_makeMap Tryd.prog
 clear h0 hl hn hn5 h hp hg
 go_enter Tryd.func24, Tryd.ntmps24
 go_upto_region 1 with fail
 refine wp_region_W (fun _ => True) (fun j => if j == 2 || j == 5 || j == 7 || j == 8 || j == 10 then 2 else 1) (by kernel_rfl) ?_
 refine tkW (i := 0) (oi := oRnw0) (v := ?_) rfl (Or.inl ⟨by rfl, fun w _ => ?_⟩) ?_
 rotate_left
 ·(go_simp; first | done | with_reducible rfl)
 try simp only [oRnw0, Act.put, sqA, sqZ, sqS]
 refine tkW (i := 1) (oi := oRnw1) (v := ?_) rfl (Or.inl ⟨by rfl, fun w _ => ?_⟩) ?_
 rotate_left
 ·(go_simp; first | done | with_reducible rfl)
 try simp only [oRnw1, Act.put, sqA, sqZ, sqS]
 refine tkW (i := 3) (oi := oRnw2) (v := ?_) rfl (Or.inl ⟨by rfl, fun w _ => ?_⟩) ?_
 rotate_left
 ·(go_simp; first | done | with_reducible rfl)
 try simp only [oRnw2, Act.put, sqA, sqZ, sqS]
 refine tkW (i := 4) (oi := oRnw3) (v := ?_) rfl (Or.inl ⟨by rfl, fun w _ => ?_⟩) ?_
 rotate_left
 ·(go_simp; first | done | with_reducible rfl)
 try simp only [oRnw3, Act.put, sqA, sqZ, sqS]
 refine tkW (i := 6) (oi := oRnw4) (v := ?_) rfl (Or.inl ⟨by rfl, fun w _ => ?_⟩) ?_
 rotate_left
 ·(go_simp; first | done | with_reducible rfl)
 try simp only [oRnw4, Act.put, sqA, sqZ, sqS]
 have HB0 := hid (Bw.drew (Bw.refl w))
 generalize World.drew w = x0 at HB0 ⊢
 refine wpAnyW_ready (rs := [2, 5, 7, 8]) (by kernel_rfl) (by simp) ?_
 refine (AllReadyW.cons (o := oRnw5) rfl (fun K hK => ?_) ?_)
 ·go_simp
  have F2 := hid (Blk.new x0 _ _ : Blk (x0.alloc (.cells #[.int .i64 0, .int .i64 0, .int .i64 0, .slice none 0 0, .int .i64 0, .map none] 118)) x0.heap.size _ 118)
  have G0 := hid (Bw.alloc (Bw.refl x0) (.cells #[.int .i64 0, .int .i64 0, .int .i64 0, .slice none 0 0, .int .i64 0, .map none] 118))
  refine hK.out _ _ trivial ?_
  clear hK K
  try simp only [oRnw5, Act.put, sqA, sqZ, sqS]
  generalize World.alloc x0 (.cells #[.int .i64 0, .int .i64 0, .int .i64 0, .slice none 0 0, .int .i64 0, .map none] 118) = x1 at F2 G0 ⊢
  generalize hb2 : Array.size (World.heap x0) = b2 at F2 ⊢
  have E2 := hid (show x0.heap.size ≤ b2 by omega)
  have L2 := hid F2.out.lt
  clear hb2
  have HB1 := hid (HB0.out.trans G0.out)
  refine wpAnyW_ready (rs := [5, 7, 8]) (by kernel_rfl) (by simp) ?_
  refine (AllReadyW.cons (o := oRnw6) rfl (fun K hK => ?_) ?_)
  ·go_simp
   have F5 := hid (Blk.new x1 _ _ : Blk (x1.alloc (.cells (rowP (List.replicate L.length (0, 0))).toArray 57)) x1.heap.size _ 57)
   have G1 := hid (Bw.alloc (Bw.refl x1) (.cells (rowP (List.replicate L.length (0, 0))).toArray 57))
   refine hK.out _ _ trivial ?_
   clear hK K
   try simp only [oRnw6, Act.put, sqA, sqZ, sqS]
   generalize World.alloc x1 (.cells (rowP (List.replicate L.length (0, 0))).toArray 57) = x2 at F5 G1 ⊢
   generalize hb5 : Array.size (World.heap x1) = b5 at F5 ⊢
   have E5 := hid (show x1.heap.size ≤ b5 by omega)
   have L5 := hid F5.out.lt
   clear hb5
   have HB2 := hid (HB1.out.trans G1.out)
   refine wpAnyW_ready (rs := [7, 8]) (by kernel_rfl) (by simp) ?_
   refine (AllReadyW.cons (o := oRnw7) rfl (fun K hK => ?_) ?_)
   ·go_simp
    refine (HGL.out x2 HB2.out).mono ?_
    rintro e' x3 ⟨b7, he', hs7, hm7, hb7⟩
    subst he'
    have F7 := hid hm7
    have G2 := hid hb7
    have E7 := hid hs7
    have L7 := hid hm7.lt
    clear hm7 hb7 hs7
    refine hK.out _ _ trivial ?_
    clear hK K
    try simp only [oRnw7, Act.put, sqA, sqZ, sqS]
    have HB3 := hid (HB2.out.trans G2.out)
    refine wpAnyW_ready (rs := [8]) (by kernel_rfl) (by simp) ?_
    refine (AllReadyW.cons (o := oRnw8) rfl (fun K hK => ?_) AllReadyW.nil)
    go_simp
    have F8 := hid (MS.new x3)
    have G3 := hid (Bw.alloc (Bw.refl x3) (.map #[] 0))
    refine hK.out _ _ trivial ?_
    clear hK K
    try simp only [oRnw8, Act.put, sqA, sqZ, sqS]
    generalize World.alloc x3 (.map #[] 0) = x4 at F8 G3 ⊢
    generalize hb8 : Array.size (World.heap x3) = b8 at F8 ⊢
    have E8 := hid (show x3.heap.size ≤ b8 by omega)
    have L8 := hid F8.out.lt
    clear hb8
    have HB4 := hid (HB3.out.trans G3.out)
    refine tkW (i := 9) (oi := oRnw9) (v := ?_) rfl (Or.inl ⟨by rfl, fun w _ => ?_⟩) ?_
    rotate_left
    ·(go_simp; first | done | with_reducible rfl)
    try simp only [oRnw9, Act.put, sqA, sqZ, sqS]
    have s0 := G0.out.size
    have s1 := G1.out.size
    have s2 := G2.out.size
    have s3 := G3.out.size
    have hx0 := HB0.out.size
    have e2 := E2.out
    have e5 := E5.out
    have e7 := E7.out
    have e8 := E8.out
    have l2 := L2.out
    have l5 := L5.out
    have l7 := L7.out
    have l8 := L8.out
    have NEW := hid (newR (cap := cap) (n := n) HLP.out HLL.out HB4.out HNC.out HPR.out (F2.out.bw (G1.out.trans (G2.out.trans G3.out))) (F5.out.bw (G2.out.trans G3.out)) (F7.out.keep (G3.out.block _ L7.out)) (F8.out.keep ((Bw.refl _).block _ L8.out)) (by omega) (by omega) (by omega) (by omega) ⟨by omega, by omega, by omega, by omega, by omega, by omega⟩)
    clear s0 s1 s2 s3 hx0 e2 e5 e7 e8 l2 l5 l7 l8
    refine wpAnyW_ready (rs := [10]) (by kernel_rfl) (by simp) ?_
    refine (AllReadyW.cons (o := oRnw10) rfl (fun K hK => ?_) AllReadyW.nil)
    go_simp
    refine hK.out _ _ trivial ?_
    clear hK K
    try simp only [oRnw10, Act.put, sqA, sqZ, sqS]
    refine tkW (i := 11) (oi := oRnw11) (v := ?_) rfl (Or.inl ⟨by rfl, fun w _ => ?_⟩) ?_
    rotate_left
    ·(go_simp; first | done | with_reducible rfl)
    try simp only [oRnw11, Act.put, sqA, sqZ, sqS]
    refine wpAnyW_done (by kernel_rfl) ?_ _
    go_wp2
    all_goals go_ret
    all_goals obtain ⟨BN, hBN, hB0⟩ := NEW.out
    all_goals exact ⟨x4.heap.size, b7, BN, rfl, hBN, HB4.out.alloc _, hB0⟩
   refine (AllReadyW.cons (o := oRnw8) rfl (fun K hK => ?_) AllReadyW.nil)
   go_simp
   have F8 := hid (MS.new x2)
   have G2 := hid (Bw.alloc (Bw.refl x2) (.map #[] 0))
   refine hK.out _ _ trivial ?_
   clear hK K
   try simp only [oRnw8, Act.put, sqA, sqZ, sqS]
   generalize World.alloc x2 (.map #[] 0) = x3 at F8 G2 ⊢
   generalize hb8 : Array.size (World.heap x2) = b8 at F8 ⊢
   have E8 := hid (show x2.heap.size ≤ b8 by omega)
   have L8 := hid F8.out.lt
   clear hb8
   have HB3 := hid (HB2.out.trans G2.out)
   refine wpAnyW_ready (rs := [7]) (by kernel_rfl) (by simp) ?_
   refine (AllReadyW.cons (o := oRnw7) rfl (fun K hK => ?_) AllReadyW.nil)
   go_simp
   refine (HGL.out x3 HB3.out).mono ?_
   rintro e' x4 ⟨b7, he', hs7, hm7, hb7⟩
   subst he'
   have F7 := hid hm7
   have G3 := hid hb7
   have E7 := hid hs7
   have L7 := hid hm7.lt
   clear hm7 hb7 hs7
   refine hK.out _ _ trivial ?_
   clear hK K
   try simp only [oRnw7, Act.put, sqA, sqZ, sqS]
   have HB4 := hid (HB3.out.trans G3.out)
   refine tkW (i := 9) (oi := oRnw9) (v := ?_) rfl (Or.inl ⟨by rfl, fun w _ => ?_⟩) ?_
   rotate_left
   ·(go_simp; first | done | with_reducible rfl)
   try simp only [oRnw9, Act.put, sqA, sqZ, sqS]
   have s0 := G0.out.size
   have s1 := G1.out.size
   have s2 := G2.out.size
   have s3 := G3.out.size
   have hx0 := HB0.out.size
   have e2 := E2.out
   have e5 := E5.out
   have e7 := E7.out
   have e8 := E8.out
   have l2 := L2.out
   have l5 := L5.out
   have l7 := L7.out
   have l8 := L8.out
   have NEW := hid (newR (cap := cap) (n := n) HLP.out HLL.out HB4.out HNC.out HPR.out (F2.out.bw (G1.out.trans (G2.out.trans G3.out))) (F5.out.bw (G2.out.trans G3.out)) (F7.out.keep ((Bw.refl _).block _ L7.out)) (F8.out.keep (G3.out.block _ L8.out)) (by omega) (by omega) (by omega) (by omega) ⟨by omega, by omega, by omega, by omega, by omega, by omega⟩)
   clear s0 s1 s2 s3 hx0 e2 e5 e7 e8 l2 l5 l7 l8
   refine wpAnyW_ready (rs := [10]) (by kernel_rfl) (by simp) ?_
   refine (AllReadyW.cons (o := oRnw10) rfl (fun K hK => ?_) AllReadyW.nil)
   go_simp
   refine hK.out _ _ trivial ?_
   clear hK K
   try simp only [oRnw10, Act.put, sqA, sqZ, sqS]
   refine tkW (i := 11) (oi := oRnw11) (v := ?_) rfl (Or.inl ⟨by rfl, fun w _ => ?_⟩) ?_
   rotate_left
   ·(go_simp; first | done | with_reducible rfl)
   try simp only [oRnw11, Act.put, sqA, sqZ, sqS]
   refine wpAnyW_done (by kernel_rfl) ?_ _
   go_wp2
   all_goals go_ret
   all_goals obtain ⟨BN, hBN, hB0⟩ := NEW.out
   all_goals exact ⟨x4.heap.size, b7, BN, rfl, hBN, HB4.out.alloc _, hB0⟩
  refine (AllReadyW.cons (o := oRnw7) rfl (fun K hK => ?_) ?_)
  ·go_simp
   refine (HGL.out x1 HB1.out).mono ?_
   rintro e' x2 ⟨b7, he', hs7, hm7, hb7⟩
   subst he'
   have F7 := hid hm7
   have G1 := hid hb7
   have E7 := hid hs7
   have L7 := hid hm7.lt
   clear hm7 hb7 hs7
   refine hK.out _ _ trivial ?_
   clear hK K
   try simp only [oRnw7, Act.put, sqA, sqZ, sqS]
   have HB2 := hid (HB1.out.trans G1.out)
   refine wpAnyW_ready (rs := [5, 8]) (by kernel_rfl) (by simp) ?_
   refine (AllReadyW.cons (o := oRnw6) rfl (fun K hK => ?_) ?_)
   ·go_simp
    have F5 := hid (Blk.new x2 _ _ : Blk (x2.alloc (.cells (rowP (List.replicate L.length (0, 0))).toArray 57)) x2.heap.size _ 57)
    have G2 := hid (Bw.alloc (Bw.refl x2) (.cells (rowP (List.replicate L.length (0, 0))).toArray 57))
    refine hK.out _ _ trivial ?_
    clear hK K
    try simp only [oRnw6, Act.put, sqA, sqZ, sqS]
    generalize World.alloc x2 (.cells (rowP (List.replicate L.length (0, 0))).toArray 57) = x3 at F5 G2 ⊢
    generalize hb5 : Array.size (World.heap x2) = b5 at F5 ⊢
    have E5 := hid (show x2.heap.size ≤ b5 by omega)
    have L5 := hid F5.out.lt
    clear hb5
    have HB3 := hid (HB2.out.trans G2.out)
    refine wpAnyW_ready (rs := [8]) (by kernel_rfl) (by simp) ?_
    refine (AllReadyW.cons (o := oRnw8) rfl (fun K hK => ?_) AllReadyW.nil)
    go_simp
    have F8 := hid (MS.new x3)
    have G3 := hid (Bw.alloc (Bw.refl x3) (.map #[] 0))
    refine hK.out _ _ trivial ?_
    clear hK K
    try simp only [oRnw8, Act.put, sqA, sqZ, sqS]
    generalize World.alloc x3 (.map #[] 0) = x4 at F8 G3 ⊢
    generalize hb8 : Array.size (World.heap x3) = b8 at F8 ⊢
    have E8 := hid (show x3.heap.size ≤ b8 by omega)
    have L8 := hid F8.out.lt
    clear hb8
    have HB4 := hid (HB3.out.trans G3.out)
    refine tkW (i := 9) (oi := oRnw9) (v := ?_) rfl (Or.inl ⟨by rfl, fun w _ => ?_⟩) ?_
    rotate_left
    ·(go_simp; first | done | with_reducible rfl)
    try simp only [oRnw9, Act.put, sqA, sqZ, sqS]
    have s0 := G0.out.size
    have s1 := G1.out.size
    have s2 := G2.out.size
    have s3 := G3.out.size
    have hx0 := HB0.out.size
    have e2 := E2.out
    have e5 := E5.out
    have e7 := E7.out
    have e8 := E8.out
    have l2 := L2.out
    have l5 := L5.out
    have l7 := L7.out
    have l8 := L8.out
    have NEW := hid (newR (cap := cap) (n := n) HLP.out HLL.out HB4.out HNC.out HPR.out (F2.out.bw (G1.out.trans (G2.out.trans G3.out))) (F5.out.bw G3.out) (F7.out.keep ((G2.out.trans G3.out).block _ L7.out)) (F8.out.keep ((Bw.refl _).block _ L8.out)) (by omega) (by omega) (by omega) (by omega) ⟨by omega, by omega, by omega, by omega, by omega, by omega⟩)
    clear s0 s1 s2 s3 hx0 e2 e5 e7 e8 l2 l5 l7 l8
    refine wpAnyW_ready (rs := [10]) (by kernel_rfl) (by simp) ?_
    refine (AllReadyW.cons (o := oRnw10) rfl (fun K hK => ?_) AllReadyW.nil)
    go_simp
    refine hK.out _ _ trivial ?_
    clear hK K
    try simp only [oRnw10, Act.put, sqA, sqZ, sqS]
    refine tkW (i := 11) (oi := oRnw11) (v := ?_) rfl (Or.inl ⟨by rfl, fun w _ => ?_⟩) ?_
    rotate_left
    ·(go_simp; first | done | with_reducible rfl)
    try simp only [oRnw11, Act.put, sqA, sqZ, sqS]
    refine wpAnyW_done (by kernel_rfl) ?_ _
    go_wp2
    all_goals go_ret
    all_goals obtain ⟨BN, hBN, hB0⟩ := NEW.out
    all_goals exact ⟨x4.heap.size, b7, BN, rfl, hBN, HB4.out.alloc _, hB0⟩
   refine (AllReadyW.cons (o := oRnw8) rfl (fun K hK => ?_) AllReadyW.nil)
   go_simp
   have F8 := hid (MS.new x2)
   have G2 := hid (Bw.alloc (Bw.refl x2) (.map #[] 0))
   refine hK.out _ _ trivial ?_
   clear hK K
   try simp only [oRnw8, Act.put, sqA, sqZ, sqS]
   generalize World.alloc x2 (.map #[] 0) = x3 at F8 G2 ⊢
   generalize hb8 : Array.size (World.heap x2) = b8 at F8 ⊢
   have E8 := hid (show x2.heap.size ≤ b8 by omega)
   have L8 := hid F8.out.lt
   clear hb8
   have HB3 := hid (HB2.out.trans G2.out)
   refine wpAnyW_ready (rs := [5]) (by kernel_rfl) (by simp) ?_
   refine (AllReadyW.cons (o := oRnw6) rfl (fun K hK => ?_) AllReadyW.nil)
   go_simp
   have F5 := hid (Blk.new x3 _ _ : Blk (x3.alloc (.cells (rowP (List.replicate L.length (0, 0))).toArray 57)) x3.heap.size _ 57)
   have G3 := hid (Bw.alloc (Bw.refl x3) (.cells (rowP (List.replicate L.length (0, 0))).toArray 57))
   refine hK.out _ _ trivial ?_
   clear hK K
   try simp only [oRnw6, Act.put, sqA, sqZ, sqS]
   generalize World.alloc x3 (.cells (rowP (List.replicate L.length (0, 0))).toArray 57) = x4 at F5 G3 ⊢
   generalize hb5 : Array.size (World.heap x3) = b5 at F5 ⊢
   have E5 := hid (show x3.heap.size ≤ b5 by omega)
   have L5 := hid F5.out.lt
   clear hb5
   have HB4 := hid (HB3.out.trans G3.out)
   refine tkW (i := 9) (oi := oRnw9) (v := ?_) rfl (Or.inl ⟨by rfl, fun w _ => ?_⟩) ?_
   rotate_left
   ·(go_simp; first | done | with_reducible rfl)
   try simp only [oRnw9, Act.put, sqA, sqZ, sqS]
   have s0 := G0.out.size
   have s1 := G1.out.size
   have s2 := G2.out.size
   have s3 := G3.out.size
   have hx0 := HB0.out.size
   have e2 := E2.out
   have e5 := E5.out
   have e7 := E7.out
   have e8 := E8.out
   have l2 := L2.out
   have l5 := L5.out
   have l7 := L7.out
   have l8 := L8.out
   have NEW := hid (newR (cap := cap) (n := n) HLP.out HLL.out HB4.out HNC.out HPR.out (F2.out.bw (G1.out.trans (G2.out.trans G3.out))) (F5.out.bw (Bw.refl _)) (F7.out.keep ((G2.out.trans G3.out).block _ L7.out)) (F8.out.keep (G3.out.block _ L8.out)) (by omega) (by omega) (by omega) (by omega) ⟨by omega, by omega, by omega, by omega, by omega, by omega⟩)
   clear s0 s1 s2 s3 hx0 e2 e5 e7 e8 l2 l5 l7 l8
   refine wpAnyW_ready (rs := [10]) (by kernel_rfl) (by simp) ?_
   refine (AllReadyW.cons (o := oRnw10) rfl (fun K hK => ?_) AllReadyW.nil)
   go_simp
   refine hK.out _ _ trivial ?_
   clear hK K
   try simp only [oRnw10, Act.put, sqA, sqZ, sqS]
   refine tkW (i := 11) (oi := oRnw11) (v := ?_) rfl (Or.inl ⟨by rfl, fun w _ => ?_⟩) ?_
   rotate_left
   ·(go_simp; first | done | with_reducible rfl)
   try simp only [oRnw11, Act.put, sqA, sqZ, sqS]
   refine wpAnyW_done (by kernel_rfl) ?_ _
   go_wp2
   all_goals go_ret
   all_goals obtain ⟨BN, hBN, hB0⟩ := NEW.out
   all_goals exact ⟨x4.heap.size, b7, BN, rfl, hBN, HB4.out.alloc _, hB0⟩
  refine (AllReadyW.cons (o := oRnw8) rfl (fun K hK => ?_) AllReadyW.nil)
  go_simp
  have F8 := hid (MS.new x1)
  have G1 := hid (Bw.alloc (Bw.refl x1) (.map #[] 0))
  refine hK.out _ _ trivial ?_
  clear hK K
  try simp only [oRnw8, Act.put, sqA, sqZ, sqS]
  generalize World.alloc x1 (.map #[] 0) = x2 at F8 G1 ⊢
  generalize hb8 : Array.size (World.heap x1) = b8 at F8 ⊢
  have E8 := hid (show x1.heap.size ≤ b8 by omega)
  have L8 := hid F8.out.lt
  clear hb8
  have HB2 := hid (HB1.out.trans G1.out)
  refine wpAnyW_ready (rs := [5, 7]) (by kernel_rfl) (by simp) ?_
  refine (AllReadyW.cons (o := oRnw6) rfl (fun K hK => ?_) ?_)
  ·go_simp
   have F5 := hid (Blk.new x2 _ _ : Blk (x2.alloc (.cells (rowP (List.replicate L.length (0, 0))).toArray 57)) x2.heap.size _ 57)
   have G2 := hid (Bw.alloc (Bw.refl x2) (.cells (rowP (List.replicate L.length (0, 0))).toArray 57))
   refine hK.out _ _ trivial ?_
   clear hK K
   try simp only [oRnw6, Act.put, sqA, sqZ, sqS]
   generalize World.alloc x2 (.cells (rowP (List.replicate L.length (0, 0))).toArray 57) = x3 at F5 G2 ⊢
   generalize hb5 : Array.size (World.heap x2) = b5 at F5 ⊢
   have E5 := hid (show x2.heap.size ≤ b5 by omega)
   have L5 := hid F5.out.lt
   clear hb5
   have HB3 := hid (HB2.out.trans G2.out)
   refine wpAnyW_ready (rs := [7]) (by kernel_rfl) (by simp) ?_
   refine (AllReadyW.cons (o := oRnw7) rfl (fun K hK => ?_) AllReadyW.nil)
   go_simp
   refine (HGL.out x3 HB3.out).mono ?_
   rintro e' x4 ⟨b7, he', hs7, hm7, hb7⟩
   subst he'
   have F7 := hid hm7
   have G3 := hid hb7
   have E7 := hid hs7
   have L7 := hid hm7.lt
   clear hm7 hb7 hs7
   refine hK.out _ _ trivial ?_
   clear hK K
   try simp only [oRnw7, Act.put, sqA, sqZ, sqS]
   have HB4 := hid (HB3.out.trans G3.out)
   refine tkW (i := 9) (oi := oRnw9) (v := ?_) rfl (Or.inl ⟨by rfl, fun w _ => ?_⟩) ?_
   rotate_left
   ·(go_simp; first | done | with_reducible rfl)
   try simp only [oRnw9, Act.put, sqA, sqZ, sqS]
   have s0 := G0.out.size
   have s1 := G1.out.size
   have s2 := G2.out.size
   have s3 := G3.out.size
   have hx0 := HB0.out.size
   have e2 := E2.out
   have e5 := E5.out
   have e7 := E7.out
   have e8 := E8.out
   have l2 := L2.out
   have l5 := L5.out
   have l7 := L7.out
   have l8 := L8.out
   have NEW := hid (newR (cap := cap) (n := n) HLP.out HLL.out HB4.out HNC.out HPR.out (F2.out.bw (G1.out.trans (G2.out.trans G3.out))) (F5.out.bw G3.out) (F7.out.keep ((Bw.refl _).block _ L7.out)) (F8.out.keep ((G2.out.trans G3.out).block _ L8.out)) (by omega) (by omega) (by omega) (by omega) ⟨by omega, by omega, by omega, by omega, by omega, by omega⟩)
   clear s0 s1 s2 s3 hx0 e2 e5 e7 e8 l2 l5 l7 l8
   refine wpAnyW_ready (rs := [10]) (by kernel_rfl) (by simp) ?_
   refine (AllReadyW.cons (o := oRnw10) rfl (fun K hK => ?_) AllReadyW.nil)
   go_simp
   refine hK.out _ _ trivial ?_
   clear hK K
   try simp only [oRnw10, Act.put, sqA, sqZ, sqS]
   refine tkW (i := 11) (oi := oRnw11) (v := ?_) rfl (Or.inl ⟨by rfl, fun w _ => ?_⟩) ?_
   rotate_left
   ·(go_simp; first | done | with_reducible rfl)
   try simp only [oRnw11, Act.put, sqA, sqZ, sqS]
   refine wpAnyW_done (by kernel_rfl) ?_ _
   go_wp2
   all_goals go_ret
   all_goals obtain ⟨BN, hBN, hB0⟩ := NEW.out
   all_goals exact ⟨x4.heap.size, b7, BN, rfl, hBN, HB4.out.alloc _, hB0⟩
  refine (AllReadyW.cons (o := oRnw7) rfl (fun K hK => ?_) AllReadyW.nil)
  go_simp
  refine (HGL.out x2 HB2.out).mono ?_
  rintro e' x3 ⟨b7, he', hs7, hm7, hb7⟩
  subst he'
  have F7 := hid hm7
  have G2 := hid hb7
  have E7 := hid hs7
  have L7 := hid hm7.lt
  clear hm7 hb7 hs7
  refine hK.out _ _ trivial ?_
  clear hK K
  try simp only [oRnw7, Act.put, sqA, sqZ, sqS]
  have HB3 := hid (HB2.out.trans G2.out)
  refine wpAnyW_ready (rs := [5]) (by kernel_rfl) (by simp) ?_
  refine (AllReadyW.cons (o := oRnw6) rfl (fun K hK => ?_) AllReadyW.nil)
  go_simp
  have F5 := hid (Blk.new x3 _ _ : Blk (x3.alloc (.cells (rowP (List.replicate L.length (0, 0))).toArray 57)) x3.heap.size _ 57)
  have G3 := hid (Bw.alloc (Bw.refl x3) (.cells (rowP (List.replicate L.length (0, 0))).toArray 57))
  refine hK.out _ _ trivial ?_
  clear hK K
  try simp only [oRnw6, Act.put, sqA, sqZ, sqS]
  generalize World.alloc x3 (.cells (rowP (List.replicate L.length (0, 0))).toArray 57) = x4 at F5 G3 ⊢
  generalize hb5 : Array.size (World.heap x3) = b5 at F5 ⊢
  have E5 := hid (show x3.heap.size ≤ b5 by omega)
  have L5 := hid F5.out.lt
  clear hb5
  have HB4 := hid (HB3.out.trans G3.out)
  refine tkW (i := 9) (oi := oRnw9) (v := ?_) rfl (Or.inl ⟨by rfl, fun w _ => ?_⟩) ?_
  rotate_left
  ·(go_simp; first | done | with_reducible rfl)
  try simp only [oRnw9, Act.put, sqA, sqZ, sqS]
  have s0 := G0.out.size
  have s1 := G1.out.size
  have s2 := G2.out.size
  have s3 := G3.out.size
  have hx0 := HB0.out.size
  have e2 := E2.out
  have e5 := E5.out
  have e7 := E7.out
  have e8 := E8.out
  have l2 := L2.out
  have l5 := L5.out
  have l7 := L7.out
  have l8 := L8.out
  have NEW := hid (newR (cap := cap) (n := n) HLP.out HLL.out HB4.out HNC.out HPR.out (F2.out.bw (G1.out.trans (G2.out.trans G3.out))) (F5.out.bw (Bw.refl _)) (F7.out.keep (G3.out.block _ L7.out)) (F8.out.keep ((G2.out.trans G3.out).block _ L8.out)) (by omega) (by omega) (by omega) (by omega) ⟨by omega, by omega, by omega, by omega, by omega, by omega⟩)
  clear s0 s1 s2 s3 hx0 e2 e5 e7 e8 l2 l5 l7 l8
  refine wpAnyW_ready (rs := [10]) (by kernel_rfl) (by simp) ?_
  refine (AllReadyW.cons (o := oRnw10) rfl (fun K hK => ?_) AllReadyW.nil)
  go_simp
  refine hK.out _ _ trivial ?_
  clear hK K
  try simp only [oRnw10, Act.put, sqA, sqZ, sqS]
  refine tkW (i := 11) (oi := oRnw11) (v := ?_) rfl (Or.inl ⟨by rfl, fun w _ => ?_⟩) ?_
  rotate_left
  ·(go_simp; first | done | with_reducible rfl)
  try simp only [oRnw11, Act.put, sqA, sqZ, sqS]
  refine wpAnyW_done (by kernel_rfl) ?_ _
  go_wp2
  all_goals go_ret
  all_goals obtain ⟨BN, hBN, hB0⟩ := NEW.out
  all_goals exact ⟨x4.heap.size, b7, BN, rfl, hBN, HB4.out.alloc _, hB0⟩
 refine (AllReadyW.cons (o := oRnw6) rfl (fun K hK => ?_) ?_)
 ·go_simp
  have F5 := hid (Blk.new x0 _ _ : Blk (x0.alloc (.cells (rowP (List.replicate L.length (0, 0))).toArray 57)) x0.heap.size _ 57)
  have G0 := hid (Bw.alloc (Bw.refl x0) (.cells (rowP (List.replicate L.length (0, 0))).toArray 57))
  refine hK.out _ _ trivial ?_
  clear hK K
  try simp only [oRnw6, Act.put, sqA, sqZ, sqS]
  generalize World.alloc x0 (.cells (rowP (List.replicate L.length (0, 0))).toArray 57) = x1 at F5 G0 ⊢
  generalize hb5 : Array.size (World.heap x0) = b5 at F5 ⊢
  have E5 := hid (show x0.heap.size ≤ b5 by omega)
  have L5 := hid F5.out.lt
  clear hb5
  have HB1 := hid (HB0.out.trans G0.out)
  refine wpAnyW_ready (rs := [2, 7, 8]) (by kernel_rfl) (by simp) ?_
  refine (AllReadyW.cons (o := oRnw5) rfl (fun K hK => ?_) ?_)
  ·go_simp
   have F2 := hid (Blk.new x1 _ _ : Blk (x1.alloc (.cells #[.int .i64 0, .int .i64 0, .int .i64 0, .slice none 0 0, .int .i64 0, .map none] 118)) x1.heap.size _ 118)
   have G1 := hid (Bw.alloc (Bw.refl x1) (.cells #[.int .i64 0, .int .i64 0, .int .i64 0, .slice none 0 0, .int .i64 0, .map none] 118))
   refine hK.out _ _ trivial ?_
   clear hK K
   try simp only [oRnw5, Act.put, sqA, sqZ, sqS]
   generalize World.alloc x1 (.cells #[.int .i64 0, .int .i64 0, .int .i64 0, .slice none 0 0, .int .i64 0, .map none] 118) = x2 at F2 G1 ⊢
   generalize hb2 : Array.size (World.heap x1) = b2 at F2 ⊢
   have E2 := hid (show x1.heap.size ≤ b2 by omega)
   have L2 := hid F2.out.lt
   clear hb2
   have HB2 := hid (HB1.out.trans G1.out)
   refine wpAnyW_ready (rs := [7, 8]) (by kernel_rfl) (by simp) ?_
   refine (AllReadyW.cons (o := oRnw7) rfl (fun K hK => ?_) ?_)
   ·go_simp
    refine (HGL.out x2 HB2.out).mono ?_
    rintro e' x3 ⟨b7, he', hs7, hm7, hb7⟩
    subst he'
    have F7 := hid hm7
    have G2 := hid hb7
    have E7 := hid hs7
    have L7 := hid hm7.lt
    clear hm7 hb7 hs7
    refine hK.out _ _ trivial ?_
    clear hK K
    try simp only [oRnw7, Act.put, sqA, sqZ, sqS]
    have HB3 := hid (HB2.out.trans G2.out)
    refine wpAnyW_ready (rs := [8]) (by kernel_rfl) (by simp) ?_
    refine (AllReadyW.cons (o := oRnw8) rfl (fun K hK => ?_) AllReadyW.nil)
    go_simp
    have F8 := hid (MS.new x3)
    have G3 := hid (Bw.alloc (Bw.refl x3) (.map #[] 0))
    refine hK.out _ _ trivial ?_
    clear hK K
    try simp only [oRnw8, Act.put, sqA, sqZ, sqS]
    generalize World.alloc x3 (.map #[] 0) = x4 at F8 G3 ⊢
    generalize hb8 : Array.size (World.heap x3) = b8 at F8 ⊢
    have E8 := hid (show x3.heap.size ≤ b8 by omega)
    have L8 := hid F8.out.lt
    clear hb8
    have HB4 := hid (HB3.out.trans G3.out)
    refine tkW (i := 9) (oi := oRnw9) (v := ?_) rfl (Or.inl ⟨by rfl, fun w _ => ?_⟩) ?_
    rotate_left
    ·(go_simp; first | done | with_reducible rfl)
    try simp only [oRnw9, Act.put, sqA, sqZ, sqS]
    have s0 := G0.out.size
    have s1 := G1.out.size
    have s2 := G2.out.size
    have s3 := G3.out.size
    have hx0 := HB0.out.size
    have e2 := E2.out
    have e5 := E5.out
    have e7 := E7.out
    have e8 := E8.out
    have l2 := L2.out
    have l5 := L5.out
    have l7 := L7.out
    have l8 := L8.out
    have NEW := hid (newR (cap := cap) (n := n) HLP.out HLL.out HB4.out HNC.out HPR.out (F2.out.bw (G2.out.trans G3.out)) (F5.out.bw (G1.out.trans (G2.out.trans G3.out))) (F7.out.keep (G3.out.block _ L7.out)) (F8.out.keep ((Bw.refl _).block _ L8.out)) (by omega) (by omega) (by omega) (by omega) ⟨by omega, by omega, by omega, by omega, by omega, by omega⟩)
    clear s0 s1 s2 s3 hx0 e2 e5 e7 e8 l2 l5 l7 l8
    refine wpAnyW_ready (rs := [10]) (by kernel_rfl) (by simp) ?_
    refine (AllReadyW.cons (o := oRnw10) rfl (fun K hK => ?_) AllReadyW.nil)
    go_simp
    refine hK.out _ _ trivial ?_
    clear hK K
    try simp only [oRnw10, Act.put, sqA, sqZ, sqS]
    refine tkW (i := 11) (oi := oRnw11) (v := ?_) rfl (Or.inl ⟨by rfl, fun w _ => ?_⟩) ?_
    rotate_left
    ·(go_simp; first | done | with_reducible rfl)
    try simp only [oRnw11, Act.put, sqA, sqZ, sqS]
    refine wpAnyW_done (by kernel_rfl) ?_ _
    go_wp2
    all_goals go_ret
    all_goals obtain ⟨BN, hBN, hB0⟩ := NEW.out
    all_goals exact ⟨x4.heap.size, b7, BN, rfl, hBN, HB4.out.alloc _, hB0⟩
   refine (AllReadyW.cons (o := oRnw8) rfl (fun K hK => ?_) AllReadyW.nil)
   go_simp
   have F8 := hid (MS.new x2)
   have G2 := hid (Bw.alloc (Bw.refl x2) (.map #[] 0))
   refine hK.out _ _ trivial ?_
   clear hK K
   try simp only [oRnw8, Act.put, sqA, sqZ, sqS]
   generalize World.alloc x2 (.map #[] 0) = x3 at F8 G2 ⊢
   generalize hb8 : Array.size (World.heap x2) = b8 at F8 ⊢
   have E8 := hid (show x2.heap.size ≤ b8 by omega)
   have L8 := hid F8.out.lt
   clear hb8
   have HB3 := hid (HB2.out.trans G2.out)
   refine wpAnyW_ready (rs := [7]) (by kernel_rfl) (by simp) ?_
   refine (AllReadyW.cons (o := oRnw7) rfl (fun K hK => ?_) AllReadyW.nil)
   go_simp
   refine (HGL.out x3 HB3.out).mono ?_
   rintro e' x4 ⟨b7, he', hs7, hm7, hb7⟩
   subst he'
   have F7 := hid hm7
   have G3 := hid hb7
   have E7 := hid hs7
   have L7 := hid hm7.lt
   clear hm7 hb7 hs7
   refine hK.out _ _ trivial ?_
   clear hK K
   try simp only [oRnw7, Act.put, sqA, sqZ, sqS]
   have HB4 := hid (HB3.out.trans G3.out)
   refine tkW (i := 9) (oi := oRnw9) (v := ?_) rfl (Or.inl ⟨by rfl, fun w _ => ?_⟩) ?_
   rotate_left
   ·(go_simp; first | done | with_reducible rfl)
   try simp only [oRnw9, Act.put, sqA, sqZ, sqS]
   have s0 := G0.out.size
   have s1 := G1.out.size
   have s2 := G2.out.size
   have s3 := G3.out.size
   have hx0 := HB0.out.size
   have e2 := E2.out
   have e5 := E5.out
   have e7 := E7.out
   have e8 := E8.out
   have l2 := L2.out
   have l5 := L5.out
   have l7 := L7.out
   have l8 := L8.out
   have NEW := hid (newR (cap := cap) (n := n) HLP.out HLL.out HB4.out HNC.out HPR.out (F2.out.bw (G2.out.trans G3.out)) (F5.out.bw (G1.out.trans (G2.out.trans G3.out))) (F7.out.keep ((Bw.refl _).block _ L7.out)) (F8.out.keep (G3.out.block _ L8.out)) (by omega) (by omega) (by omega) (by omega) ⟨by omega, by omega, by omega, by omega, by omega, by omega⟩)
   clear s0 s1 s2 s3 hx0 e2 e5 e7 e8 l2 l5 l7 l8
   refine wpAnyW_ready (rs := [10]) (by kernel_rfl) (by simp) ?_
   refine (AllReadyW.cons (o := oRnw10) rfl (fun K hK => ?_) AllReadyW.nil)
   go_simp
   refine hK.out _ _ trivial ?_
   clear hK K
   try simp only [oRnw10, Act.put, sqA, sqZ, sqS]
   refine tkW (i := 11) (oi := oRnw11) (v := ?_) rfl (Or.inl ⟨by rfl, fun w _ => ?_⟩) ?_
   rotate_left
   ·(go_simp; first | done | with_reducible rfl)
   try simp only [oRnw11, Act.put, sqA, sqZ, sqS]
   refine wpAnyW_done (by kernel_rfl) ?_ _
   go_wp2
   all_goals go_ret
   all_goals obtain ⟨BN, hBN, hB0⟩ := NEW.out
   all_goals exact ⟨x4.heap.size, b7, BN, rfl, hBN, HB4.out.alloc _, hB0⟩
  refine (AllReadyW.cons (o := oRnw7) rfl (fun K hK => ?_) ?_)
  ·go_simp
   refine (HGL.out x1 HB1.out).mono ?_
   rintro e' x2 ⟨b7, he', hs7, hm7, hb7⟩
   subst he'
   have F7 := hid hm7
   have G1 := hid hb7
   have E7 := hid hs7
   have L7 := hid hm7.lt
   clear hm7 hb7 hs7
   refine hK.out _ _ trivial ?_
   clear hK K
   try simp only [oRnw7, Act.put, sqA, sqZ, sqS]
   have HB2 := hid (HB1.out.trans G1.out)
   refine wpAnyW_ready (rs := [2, 8]) (by kernel_rfl) (by simp) ?_
   refine (AllReadyW.cons (o := oRnw5) rfl (fun K hK => ?_) ?_)
   ·go_simp
    have F2 := hid (Blk.new x2 _ _ : Blk (x2.alloc (.cells #[.int .i64 0, .int .i64 0, .int .i64 0, .slice none 0 0, .int .i64 0, .map none] 118)) x2.heap.size _ 118)
    have G2 := hid (Bw.alloc (Bw.refl x2) (.cells #[.int .i64 0, .int .i64 0, .int .i64 0, .slice none 0 0, .int .i64 0, .map none] 118))
    refine hK.out _ _ trivial ?_
    clear hK K
    try simp only [oRnw5, Act.put, sqA, sqZ, sqS]
    generalize World.alloc x2 (.cells #[.int .i64 0, .int .i64 0, .int .i64 0, .slice none 0 0, .int .i64 0, .map none] 118) = x3 at F2 G2 ⊢
    generalize hb2 : Array.size (World.heap x2) = b2 at F2 ⊢
    have E2 := hid (show x2.heap.size ≤ b2 by omega)
    have L2 := hid F2.out.lt
    clear hb2
    have HB3 := hid (HB2.out.trans G2.out)
    refine wpAnyW_ready (rs := [8]) (by kernel_rfl) (by simp) ?_
    refine (AllReadyW.cons (o := oRnw8) rfl (fun K hK => ?_) AllReadyW.nil)
    go_simp
    have F8 := hid (MS.new x3)
    have G3 := hid (Bw.alloc (Bw.refl x3) (.map #[] 0))
    refine hK.out _ _ trivial ?_
    clear hK K
    try simp only [oRnw8, Act.put, sqA, sqZ, sqS]
    generalize World.alloc x3 (.map #[] 0) = x4 at F8 G3 ⊢
    generalize hb8 : Array.size (World.heap x3) = b8 at F8 ⊢
    have E8 := hid (show x3.heap.size ≤ b8 by omega)
    have L8 := hid F8.out.lt
    clear hb8
    have HB4 := hid (HB3.out.trans G3.out)
    refine tkW (i := 9) (oi := oRnw9) (v := ?_) rfl (Or.inl ⟨by rfl, fun w _ => ?_⟩) ?_
    rotate_left
    ·(go_simp; first | done | with_reducible rfl)
    try simp only [oRnw9, Act.put, sqA, sqZ, sqS]
    have s0 := G0.out.size
    have s1 := G1.out.size
    have s2 := G2.out.size
    have s3 := G3.out.size
    have hx0 := HB0.out.size
    have e2 := E2.out
    have e5 := E5.out
    have e7 := E7.out
    have e8 := E8.out
    have l2 := L2.out
    have l5 := L5.out
    have l7 := L7.out
    have l8 := L8.out
    have NEW := hid (newR (cap := cap) (n := n) HLP.out HLL.out HB4.out HNC.out HPR.out (F2.out.bw G3.out) (F5.out.bw (G1.out.trans (G2.out.trans G3.out))) (F7.out.keep ((G2.out.trans G3.out).block _ L7.out)) (F8.out.keep ((Bw.refl _).block _ L8.out)) (by omega) (by omega) (by omega) (by omega) ⟨by omega, by omega, by omega, by omega, by omega, by omega⟩)
    clear s0 s1 s2 s3 hx0 e2 e5 e7 e8 l2 l5 l7 l8
    refine wpAnyW_ready (rs := [10]) (by kernel_rfl) (by simp) ?_
    refine (AllReadyW.cons (o := oRnw10) rfl (fun K hK => ?_) AllReadyW.nil)
    go_simp
    refine hK.out _ _ trivial ?_
    clear hK K
    try simp only [oRnw10, Act.put, sqA, sqZ, sqS]
    refine tkW (i := 11) (oi := oRnw11) (v := ?_) rfl (Or.inl ⟨by rfl, fun w _ => ?_⟩) ?_
    rotate_left
    ·(go_simp; first | done | with_reducible rfl)
    try simp only [oRnw11, Act.put, sqA, sqZ, sqS]
    refine wpAnyW_done (by kernel_rfl) ?_ _
    go_wp2
    all_goals go_ret
    all_goals obtain ⟨BN, hBN, hB0⟩ := NEW.out
    all_goals exact ⟨x4.heap.size, b7, BN, rfl, hBN, HB4.out.alloc _, hB0⟩
   refine (AllReadyW.cons (o := oRnw8) rfl (fun K hK => ?_) AllReadyW.nil)
   go_simp
   have F8 := hid (MS.new x2)
   have G2 := hid (Bw.alloc (Bw.refl x2) (.map #[] 0))
   refine hK.out _ _ trivial ?_
   clear hK K
   try simp only [oRnw8, Act.put, sqA, sqZ, sqS]
   generalize World.alloc x2 (.map #[] 0) = x3 at F8 G2 ⊢
   generalize hb8 : Array.size (World.heap x2) = b8 at F8 ⊢
   have E8 := hid (show x2.heap.size ≤ b8 by omega)
   have L8 := hid F8.out.lt
   clear hb8
   have HB3 := hid (HB2.out.trans G2.out)
   refine wpAnyW_ready (rs := [2]) (by kernel_rfl) (by simp) ?_
   refine (AllReadyW.cons (o := oRnw5) rfl (fun K hK => ?_) AllReadyW.nil)
   go_simp
   have F2 := hid (Blk.new x3 _ _ : Blk (x3.alloc (.cells #[.int .i64 0, .int .i64 0, .int .i64 0, .slice none 0 0, .int .i64 0, .map none] 118)) x3.heap.size _ 118)
   have G3 := hid (Bw.alloc (Bw.refl x3) (.cells #[.int .i64 0, .int .i64 0, .int .i64 0, .slice none 0 0, .int .i64 0, .map none] 118))
   refine hK.out _ _ trivial ?_
   clear hK K
   try simp only [oRnw5, Act.put, sqA, sqZ, sqS]
   generalize World.alloc x3 (.cells #[.int .i64 0, .int .i64 0, .int .i64 0, .slice none 0 0, .int .i64 0, .map none] 118) = x4 at F2 G3 ⊢
   generalize hb2 : Array.size (World.heap x3) = b2 at F2 ⊢
   have E2 := hid (show x3.heap.size ≤ b2 by omega)
   have L2 := hid F2.out.lt
   clear hb2
   have HB4 := hid (HB3.out.trans G3.out)
   refine tkW (i := 9) (oi := oRnw9) (v := ?_) rfl (Or.inl ⟨by rfl, fun w _ => ?_⟩) ?_
   rotate_left
   ·(go_simp; first | done | with_reducible rfl)
   try simp only [oRnw9, Act.put, sqA, sqZ, sqS]
   have s0 := G0.out.size
   have s1 := G1.out.size
   have s2 := G2.out.size
   have s3 := G3.out.size
   have hx0 := HB0.out.size
   have e2 := E2.out
   have e5 := E5.out
   have e7 := E7.out
   have e8 := E8.out
   have l2 := L2.out
   have l5 := L5.out
   have l7 := L7.out
   have l8 := L8.out
   have NEW := hid (newR (cap := cap) (n := n) HLP.out HLL.out HB4.out HNC.out HPR.out (F2.out.bw (Bw.refl _)) (F5.out.bw (G1.out.trans (G2.out.trans G3.out))) (F7.out.keep ((G2.out.trans G3.out).block _ L7.out)) (F8.out.keep (G3.out.block _ L8.out)) (by omega) (by omega) (by omega) (by omega) ⟨by omega, by omega, by omega, by omega, by omega, by omega⟩)
   clear s0 s1 s2 s3 hx0 e2 e5 e7 e8 l2 l5 l7 l8
   refine wpAnyW_ready (rs := [10]) (by kernel_rfl) (by simp) ?_
   refine (AllReadyW.cons (o := oRnw10) rfl (fun K hK => ?_) AllReadyW.nil)
   go_simp
   refine hK.out _ _ trivial ?_
   clear hK K
   try simp only [oRnw10, Act.put, sqA, sqZ, sqS]
   refine tkW (i := 11) (oi := oRnw11) (v := ?_) rfl (Or.inl ⟨by rfl, fun w _ => ?_⟩) ?_
   rotate_left
   ·(go_simp; first | done | with_reducible rfl)
   try simp only [oRnw11, Act.put, sqA, sqZ, sqS]
   refine wpAnyW_done (by kernel_rfl) ?_ _
   go_wp2
   all_goals go_ret
   all_goals obtain ⟨BN, hBN, hB0⟩ := NEW.out
   all_goals exact ⟨x4.heap.size, b7, BN, rfl, hBN, HB4.out.alloc _, hB0⟩
  refine (AllReadyW.cons (o := oRnw8) rfl (fun K hK => ?_) AllReadyW.nil)
  go_simp
  have F8 := hid (MS.new x1)
  have G1 := hid (Bw.alloc (Bw.refl x1) (.map #[] 0))
  refine hK.out _ _ trivial ?_
  clear hK K
  try simp only [oRnw8, Act.put, sqA, sqZ, sqS]
  generalize World.alloc x1 (.map #[] 0) = x2 at F8 G1 ⊢
  generalize hb8 : Array.size (World.heap x1) = b8 at F8 ⊢
  have E8 := hid (show x1.heap.size ≤ b8 by omega)
  have L8 := hid F8.out.lt
  clear hb8
  have HB2 := hid (HB1.out.trans G1.out)
  refine wpAnyW_ready (rs := [2, 7]) (by kernel_rfl) (by simp) ?_
  refine (AllReadyW.cons (o := oRnw5) rfl (fun K hK => ?_) ?_)
  ·go_simp
   have F2 := hid (Blk.new x2 _ _ : Blk (x2.alloc (.cells #[.int .i64 0, .int .i64 0, .int .i64 0, .slice none 0 0, .int .i64 0, .map none] 118)) x2.heap.size _ 118)
   have G2 := hid (Bw.alloc (Bw.refl x2) (.cells #[.int .i64 0, .int .i64 0, .int .i64 0, .slice none 0 0, .int .i64 0, .map none] 118))
   refine hK.out _ _ trivial ?_
   clear hK K
   try simp only [oRnw5, Act.put, sqA, sqZ, sqS]
   generalize World.alloc x2 (.cells #[.int .i64 0, .int .i64 0, .int .i64 0, .slice none 0 0, .int .i64 0, .map none] 118) = x3 at F2 G2 ⊢
   generalize hb2 : Array.size (World.heap x2) = b2 at F2 ⊢
   have E2 := hid (show x2.heap.size ≤ b2 by omega)
   have L2 := hid F2.out.lt
   clear hb2
   have HB3 := hid (HB2.out.trans G2.out)
   refine wpAnyW_ready (rs := [7]) (by kernel_rfl) (by simp) ?_
   refine (AllReadyW.cons (o := oRnw7) rfl (fun K hK => ?_) AllReadyW.nil)
   go_simp
   refine (HGL.out x3 HB3.out).mono ?_
   rintro e' x4 ⟨b7, he', hs7, hm7, hb7⟩
   subst he'
   have F7 := hid hm7
   have G3 := hid hb7
   have E7 := hid hs7
   have L7 := hid hm7.lt
   clear hm7 hb7 hs7
   refine hK.out _ _ trivial ?_
   clear hK K
   try simp only [oRnw7, Act.put, sqA, sqZ, sqS]
   have HB4 := hid (HB3.out.trans G3.out)
   refine tkW (i := 9) (oi := oRnw9) (v := ?_) rfl (Or.inl ⟨by rfl, fun w _ => ?_⟩) ?_
   rotate_left
   ·(go_simp; first | done | with_reducible rfl)
   try simp only [oRnw9, Act.put, sqA, sqZ, sqS]
   have s0 := G0.out.size
   have s1 := G1.out.size
   have s2 := G2.out.size
   have s3 := G3.out.size
   have hx0 := HB0.out.size
   have e2 := E2.out
   have e5 := E5.out
   have e7 := E7.out
   have e8 := E8.out
   have l2 := L2.out
   have l5 := L5.out
   have l7 := L7.out
   have l8 := L8.out
   have NEW := hid (newR (cap := cap) (n := n) HLP.out HLL.out HB4.out HNC.out HPR.out (F2.out.bw G3.out) (F5.out.bw (G1.out.trans (G2.out.trans G3.out))) (F7.out.keep ((Bw.refl _).block _ L7.out)) (F8.out.keep ((G2.out.trans G3.out).block _ L8.out)) (by omega) (by omega) (by omega) (by omega) ⟨by omega, by omega, by omega, by omega, by omega, by omega⟩)
   clear s0 s1 s2 s3 hx0 e2 e5 e7 e8 l2 l5 l7 l8
   refine wpAnyW_ready (rs := [10]) (by kernel_rfl) (by simp) ?_
   refine (AllReadyW.cons (o := oRnw10) rfl (fun K hK => ?_) AllReadyW.nil)
   go_simp
   refine hK.out _ _ trivial ?_
   clear hK K
   try simp only [oRnw10, Act.put, sqA, sqZ, sqS]
   refine tkW (i := 11) (oi := oRnw11) (v := ?_) rfl (Or.inl ⟨by rfl, fun w _ => ?_⟩) ?_
   rotate_left
   ·(go_simp; first | done | with_reducible rfl)
   try simp only [oRnw11, Act.put, sqA, sqZ, sqS]
   refine wpAnyW_done (by kernel_rfl) ?_ _
   go_wp2
   all_goals go_ret
   all_goals obtain ⟨BN, hBN, hB0⟩ := NEW.out
   all_goals exact ⟨x4.heap.size, b7, BN, rfl, hBN, HB4.out.alloc _, hB0⟩
  refine (AllReadyW.cons (o := oRnw7) rfl (fun K hK => ?_) AllReadyW.nil)
  go_simp
  refine (HGL.out x2 HB2.out).mono ?_
  rintro e' x3 ⟨b7, he', hs7, hm7, hb7⟩
  subst he'
  have F7 := hid hm7
  have G2 := hid hb7
  have E7 := hid hs7
  have L7 := hid hm7.lt
  clear hm7 hb7 hs7
  refine hK.out _ _ trivial ?_
  clear hK K
  try simp only [oRnw7, Act.put, sqA, sqZ, sqS]
  have HB3 := hid (HB2.out.trans G2.out)
  refine wpAnyW_ready (rs := [2]) (by kernel_rfl) (by simp) ?_
  refine (AllReadyW.cons (o := oRnw5) rfl (fun K hK => ?_) AllReadyW.nil)
  go_simp
  have F2 := hid (Blk.new x3 _ _ : Blk (x3.alloc (.cells #[.int .i64 0, .int .i64 0, .int .i64 0, .slice none 0 0, .int .i64 0, .map none] 118)) x3.heap.size _ 118)
  have G3 := hid (Bw.alloc (Bw.refl x3) (.cells #[.int .i64 0, .int .i64 0, .int .i64 0, .slice none 0 0, .int .i64 0, .map none] 118))
  refine hK.out _ _ trivial ?_
  clear hK K
  try simp only [oRnw5, Act.put, sqA, sqZ, sqS]
  generalize World.alloc x3 (.cells #[.int .i64 0, .int .i64 0, .int .i64 0, .slice none 0 0, .int .i64 0, .map none] 118) = x4 at F2 G3 ⊢
  generalize hb2 : Array.size (World.heap x3) = b2 at F2 ⊢
  have E2 := hid (show x3.heap.size ≤ b2 by omega)
  have L2 := hid F2.out.lt
  clear hb2
  have HB4 := hid (HB3.out.trans G3.out)
  refine tkW (i := 9) (oi := oRnw9) (v := ?_) rfl (Or.inl ⟨by rfl, fun w _ => ?_⟩) ?_
  rotate_left
  ·(go_simp; first | done | with_reducible rfl)
  try simp only [oRnw9, Act.put, sqA, sqZ, sqS]
  have s0 := G0.out.size
  have s1 := G1.out.size
  have s2 := G2.out.size
  have s3 := G3.out.size
  have hx0 := HB0.out.size
  have e2 := E2.out
  have e5 := E5.out
  have e7 := E7.out
  have e8 := E8.out
  have l2 := L2.out
  have l5 := L5.out
  have l7 := L7.out
  have l8 := L8.out
  have NEW := hid (newR (cap := cap) (n := n) HLP.out HLL.out HB4.out HNC.out HPR.out (F2.out.bw (Bw.refl _)) (F5.out.bw (G1.out.trans (G2.out.trans G3.out))) (F7.out.keep (G3.out.block _ L7.out)) (F8.out.keep ((G2.out.trans G3.out).block _ L8.out)) (by omega) (by omega) (by omega) (by omega) ⟨by omega, by omega, by omega, by omega, by omega, by omega⟩)
  clear s0 s1 s2 s3 hx0 e2 e5 e7 e8 l2 l5 l7 l8
  refine wpAnyW_ready (rs := [10]) (by kernel_rfl) (by simp) ?_
  refine (AllReadyW.cons (o := oRnw10) rfl (fun K hK => ?_) AllReadyW.nil)
  go_simp
  refine hK.out _ _ trivial ?_
  clear hK K
  try simp only [oRnw10, Act.put, sqA, sqZ, sqS]
  refine tkW (i := 11) (oi := oRnw11) (v := ?_) rfl (Or.inl ⟨by rfl, fun w _ => ?_⟩) ?_
  rotate_left
  ·(go_simp; first | done | with_reducible rfl)
  try simp only [oRnw11, Act.put, sqA, sqZ, sqS]
  refine wpAnyW_done (by kernel_rfl) ?_ _
  go_wp2
  all_goals go_ret
  all_goals obtain ⟨BN, hBN, hB0⟩ := NEW.out
  all_goals exact ⟨x4.heap.size, b7, BN, rfl, hBN, HB4.out.alloc _, hB0⟩
 refine (AllReadyW.cons (o := oRnw7) rfl (fun K hK => ?_) ?_)
 ·go_simp
  refine (HGL.out x0 HB0.out).mono ?_
  rintro e' x1 ⟨b7, he', hs7, hm7, hb7⟩
  subst he'
  have F7 := hid hm7
  have G0 := hid hb7
  have E7 := hid hs7
  have L7 := hid hm7.lt
  clear hm7 hb7 hs7
  refine hK.out _ _ trivial ?_
  clear hK K
  try simp only [oRnw7, Act.put, sqA, sqZ, sqS]
  have HB1 := hid (HB0.out.trans G0.out)
  refine wpAnyW_ready (rs := [2, 5, 8]) (by kernel_rfl) (by simp) ?_
  refine (AllReadyW.cons (o := oRnw5) rfl (fun K hK => ?_) ?_)
  ·go_simp
   have F2 := hid (Blk.new x1 _ _ : Blk (x1.alloc (.cells #[.int .i64 0, .int .i64 0, .int .i64 0, .slice none 0 0, .int .i64 0, .map none] 118)) x1.heap.size _ 118)
   have G1 := hid (Bw.alloc (Bw.refl x1) (.cells #[.int .i64 0, .int .i64 0, .int .i64 0, .slice none 0 0, .int .i64 0, .map none] 118))
   refine hK.out _ _ trivial ?_
   clear hK K
   try simp only [oRnw5, Act.put, sqA, sqZ, sqS]
   generalize World.alloc x1 (.cells #[.int .i64 0, .int .i64 0, .int .i64 0, .slice none 0 0, .int .i64 0, .map none] 118) = x2 at F2 G1 ⊢
   generalize hb2 : Array.size (World.heap x1) = b2 at F2 ⊢
   have E2 := hid (show x1.heap.size ≤ b2 by omega)
   have L2 := hid F2.out.lt
   clear hb2
   have HB2 := hid (HB1.out.trans G1.out)
   refine wpAnyW_ready (rs := [5, 8]) (by kernel_rfl) (by simp) ?_
   refine (AllReadyW.cons (o := oRnw6) rfl (fun K hK => ?_) ?_)
   ·go_simp
    have F5 := hid (Blk.new x2 _ _ : Blk (x2.alloc (.cells (rowP (List.replicate L.length (0, 0))).toArray 57)) x2.heap.size _ 57)
    have G2 := hid (Bw.alloc (Bw.refl x2) (.cells (rowP (List.replicate L.length (0, 0))).toArray 57))
    refine hK.out _ _ trivial ?_
    clear hK K
    try simp only [oRnw6, Act.put, sqA, sqZ, sqS]
    generalize World.alloc x2 (.cells (rowP (List.replicate L.length (0, 0))).toArray 57) = x3 at F5 G2 ⊢
    generalize hb5 : Array.size (World.heap x2) = b5 at F5 ⊢
    have E5 := hid (show x2.heap.size ≤ b5 by omega)
    have L5 := hid F5.out.lt
    clear hb5
    have HB3 := hid (HB2.out.trans G2.out)
    refine wpAnyW_ready (rs := [8]) (by kernel_rfl) (by simp) ?_
    refine (AllReadyW.cons (o := oRnw8) rfl (fun K hK => ?_) AllReadyW.nil)
    go_simp
    have F8 := hid (MS.new x3)
    have G3 := hid (Bw.alloc (Bw.refl x3) (.map #[] 0))
    refine hK.out _ _ trivial ?_
    clear hK K
    try simp only [oRnw8, Act.put, sqA, sqZ, sqS]
    generalize World.alloc x3 (.map #[] 0) = x4 at F8 G3 ⊢
    generalize hb8 : Array.size (World.heap x3) = b8 at F8 ⊢
    have E8 := hid (show x3.heap.size ≤ b8 by omega)
    have L8 := hid F8.out.lt
    clear hb8
    have HB4 := hid (HB3.out.trans G3.out)
    refine tkW (i := 9) (oi := oRnw9) (v := ?_) rfl (Or.inl ⟨by rfl, fun w _ => ?_⟩) ?_
    rotate_left
    ·(go_simp; first | done | with_reducible rfl)
    try simp only [oRnw9, Act.put, sqA, sqZ, sqS]
    have s0 := G0.out.size
    have s1 := G1.out.size
    have s2 := G2.out.size
    have s3 := G3.out.size
    have hx0 := HB0.out.size
    have e2 := E2.out
    have e5 := E5.out
    have e7 := E7.out
    have e8 := E8.out
    have l2 := L2.out
    have l5 := L5.out
    have l7 := L7.out
    have l8 := L8.out
    have NEW := hid (newR (cap := cap) (n := n) HLP.out HLL.out HB4.out HNC.out HPR.out (F2.out.bw (G2.out.trans G3.out)) (F5.out.bw G3.out) (F7.out.keep ((G1.out.trans (G2.out.trans G3.out)).block _ L7.out)) (F8.out.keep ((Bw.refl _).block _ L8.out)) (by omega) (by omega) (by omega) (by omega) ⟨by omega, by omega, by omega, by omega, by omega, by omega⟩)
    clear s0 s1 s2 s3 hx0 e2 e5 e7 e8 l2 l5 l7 l8
    refine wpAnyW_ready (rs := [10]) (by kernel_rfl) (by simp) ?_
    refine (AllReadyW.cons (o := oRnw10) rfl (fun K hK => ?_) AllReadyW.nil)
    go_simp
    refine hK.out _ _ trivial ?_
    clear hK K
    try simp only [oRnw10, Act.put, sqA, sqZ, sqS]
    refine tkW (i := 11) (oi := oRnw11) (v := ?_) rfl (Or.inl ⟨by rfl, fun w _ => ?_⟩) ?_
    rotate_left
    ·(go_simp; first | done | with_reducible rfl)
    try simp only [oRnw11, Act.put, sqA, sqZ, sqS]
    refine wpAnyW_done (by kernel_rfl) ?_ _
    go_wp2
    all_goals go_ret
    all_goals obtain ⟨BN, hBN, hB0⟩ := NEW.out
    all_goals exact ⟨x4.heap.size, b7, BN, rfl, hBN, HB4.out.alloc _, hB0⟩
   refine (AllReadyW.cons (o := oRnw8) rfl (fun K hK => ?_) AllReadyW.nil)
   go_simp
   have F8 := hid (MS.new x2)
   have G2 := hid (Bw.alloc (Bw.refl x2) (.map #[] 0))
   refine hK.out _ _ trivial ?_
   clear hK K
   try simp only [oRnw8, Act.put, sqA, sqZ, sqS]
   generalize World.alloc x2 (.map #[] 0) = x3 at F8 G2 ⊢
   generalize hb8 : Array.size (World.heap x2) = b8 at F8 ⊢
   have E8 := hid (show x2.heap.size ≤ b8 by omega)
   have L8 := hid F8.out.lt
   clear hb8
   have HB3 := hid (HB2.out.trans G2.out)
   refine wpAnyW_ready (rs := [5]) (by kernel_rfl) (by simp) ?_
   refine (AllReadyW.cons (o := oRnw6) rfl (fun K hK => ?_) AllReadyW.nil)
   go_simp
   have F5 := hid (Blk.new x3 _ _ : Blk (x3.alloc (.cells (rowP (List.replicate L.length (0, 0))).toArray 57)) x3.heap.size _ 57)
   have G3 := hid (Bw.alloc (Bw.refl x3) (.cells (rowP (List.replicate L.length (0, 0))).toArray 57))
   refine hK.out _ _ trivial ?_
   clear hK K
   try simp only [oRnw6, Act.put, sqA, sqZ, sqS]
   generalize World.alloc x3 (.cells (rowP (List.replicate L.length (0, 0))).toArray 57) = x4 at F5 G3 ⊢
   generalize hb5 : Array.size (World.heap x3) = b5 at F5 ⊢
   have E5 := hid (show x3.heap.size ≤ b5 by omega)
   have L5 := hid F5.out.lt
   clear hb5
   have HB4 := hid (HB3.out.trans G3.out)
   refine tkW (i := 9) (oi := oRnw9) (v := ?_) rfl (Or.inl ⟨by rfl, fun w _ => ?_⟩) ?_
   rotate_left
   ·(go_simp; first | done | with_reducible rfl)
   try simp only [oRnw9, Act.put, sqA, sqZ, sqS]
   have s0 := G0.out.size
   have s1 := G1.out.size
   have s2 := G2.out.size
   have s3 := G3.out.size
   have hx0 := HB0.out.size
   have e2 := E2.out
   have e5 := E5.out
   have e7 := E7.out
   have e8 := E8.out
   have l2 := L2.out
   have l5 := L5.out
   have l7 := L7.out
   have l8 := L8.out
   have NEW := hid (newR (cap := cap) (n := n) HLP.out HLL.out HB4.out HNC.out HPR.out (F2.out.bw (G2.out.trans G3.out)) (F5.out.bw (Bw.refl _)) (F7.out.keep ((G1.out.trans (G2.out.trans G3.out)).block _ L7.out)) (F8.out.keep (G3.out.block _ L8.out)) (by omega) (by omega) (by omega) (by omega) ⟨by omega, by omega, by omega, by omega, by omega, by omega⟩)
   clear s0 s1 s2 s3 hx0 e2 e5 e7 e8 l2 l5 l7 l8
   refine wpAnyW_ready (rs := [10]) (by kernel_rfl) (by simp) ?_
   refine (AllReadyW.cons (o := oRnw10) rfl (fun K hK => ?_) AllReadyW.nil)
   go_simp
   refine hK.out _ _ trivial ?_
   clear hK K
   try simp only [oRnw10, Act.put, sqA, sqZ, sqS]
   refine tkW (i := 11) (oi := oRnw11) (v := ?_) rfl (Or.inl ⟨by rfl, fun w _ => ?_⟩) ?_
   rotate_left
   ·(go_simp; first | done | with_reducible rfl)
   try simp only [oRnw11, Act.put, sqA, sqZ, sqS]
   refine wpAnyW_done (by kernel_rfl) ?_ _
   go_wp2
   all_goals go_ret
   all_goals obtain ⟨BN, hBN, hB0⟩ := NEW.out
   all_goals exact ⟨x4.heap.size, b7, BN, rfl, hBN, HB4.out.alloc _, hB0⟩
  refine (AllReadyW.cons (o := oRnw6) rfl (fun K hK => ?_) ?_)
  ·go_simp
   have F5 := hid (Blk.new x1 _ _ : Blk (x1.alloc (.cells (rowP (List.replicate L.length (0, 0))).toArray 57)) x1.heap.size _ 57)
   have G1 := hid (Bw.alloc (Bw.refl x1) (.cells (rowP (List.replicate L.length (0, 0))).toArray 57))
   refine hK.out _ _ trivial ?_
   clear hK K
   try simp only [oRnw6, Act.put, sqA, sqZ, sqS]
   generalize World.alloc x1 (.cells (rowP (List.replicate L.length (0, 0))).toArray 57) = x2 at F5 G1 ⊢
   generalize hb5 : Array.size (World.heap x1) = b5 at F5 ⊢
   have E5 := hid (show x1.heap.size ≤ b5 by omega)
   have L5 := hid F5.out.lt
   clear hb5
   have HB2 := hid (HB1.out.trans G1.out)
   refine wpAnyW_ready (rs := [2, 8]) (by kernel_rfl) (by simp) ?_
   refine (AllReadyW.cons (o := oRnw5) rfl (fun K hK => ?_) ?_)
   ·go_simp
    have F2 := hid (Blk.new x2 _ _ : Blk (x2.alloc (.cells #[.int .i64 0, .int .i64 0, .int .i64 0, .slice none 0 0, .int .i64 0, .map none] 118)) x2.heap.size _ 118)
    have G2 := hid (Bw.alloc (Bw.refl x2) (.cells #[.int .i64 0, .int .i64 0, .int .i64 0, .slice none 0 0, .int .i64 0, .map none] 118))
    refine hK.out _ _ trivial ?_
    clear hK K
    try simp only [oRnw5, Act.put, sqA, sqZ, sqS]
    generalize World.alloc x2 (.cells #[.int .i64 0, .int .i64 0, .int .i64 0, .slice none 0 0, .int .i64 0, .map none] 118) = x3 at F2 G2 ⊢
    generalize hb2 : Array.size (World.heap x2) = b2 at F2 ⊢
    have E2 := hid (show x2.heap.size ≤ b2 by omega)
    have L2 := hid F2.out.lt
    clear hb2
    have HB3 := hid (HB2.out.trans G2.out)
    refine wpAnyW_ready (rs := [8]) (by kernel_rfl) (by simp) ?_
    refine (AllReadyW.cons (o := oRnw8) rfl (fun K hK => ?_) AllReadyW.nil)
    go_simp
    have F8 := hid (MS.new x3)
    have G3 := hid (Bw.alloc (Bw.refl x3) (.map #[] 0))
    refine hK.out _ _ trivial ?_
    clear hK K
    try simp only [oRnw8, Act.put, sqA, sqZ, sqS]
    generalize World.alloc x3 (.map #[] 0) = x4 at F8 G3 ⊢
    generalize hb8 : Array.size (World.heap x3) = b8 at F8 ⊢
    have E8 := hid (show x3.heap.size ≤ b8 by omega)
    have L8 := hid F8.out.lt
    clear hb8
    have HB4 := hid (HB3.out.trans G3.out)
    refine tkW (i := 9) (oi := oRnw9) (v := ?_) rfl (Or.inl ⟨by rfl, fun w _ => ?_⟩) ?_
    rotate_left
    ·(go_simp; first | done | with_reducible rfl)
    try simp only [oRnw9, Act.put, sqA, sqZ, sqS]
    have s0 := G0.out.size
    have s1 := G1.out.size
    have s2 := G2.out.size
    have s3 := G3.out.size
    have hx0 := HB0.out.size
    have e2 := E2.out
    have e5 := E5.out
    have e7 := E7.out
    have e8 := E8.out
    have l2 := L2.out
    have l5 := L5.out
    have l7 := L7.out
    have l8 := L8.out
    have NEW := hid (newR (cap := cap) (n := n) HLP.out HLL.out HB4.out HNC.out HPR.out (F2.out.bw G3.out) (F5.out.bw (G2.out.trans G3.out)) (F7.out.keep ((G1.out.trans (G2.out.trans G3.out)).block _ L7.out)) (F8.out.keep ((Bw.refl _).block _ L8.out)) (by omega) (by omega) (by omega) (by omega) ⟨by omega, by omega, by omega, by omega, by omega, by omega⟩)
    clear s0 s1 s2 s3 hx0 e2 e5 e7 e8 l2 l5 l7 l8
    refine wpAnyW_ready (rs := [10]) (by kernel_rfl) (by simp) ?_
    refine (AllReadyW.cons (o := oRnw10) rfl (fun K hK => ?_) AllReadyW.nil)
    go_simp
    refine hK.out _ _ trivial ?_
    clear hK K
    try simp only [oRnw10, Act.put, sqA, sqZ, sqS]
    refine tkW (i := 11) (oi := oRnw11) (v := ?_) rfl (Or.inl ⟨by rfl, fun w _ => ?_⟩) ?_
    rotate_left
    ·(go_simp; first | done | with_reducible rfl)
    try simp only [oRnw11, Act.put, sqA, sqZ, sqS]
    refine wpAnyW_done (by kernel_rfl) ?_ _
    go_wp2
    all_goals go_ret
    all_goals obtain ⟨BN, hBN, hB0⟩ := NEW.out
    all_goals exact ⟨x4.heap.size, b7, BN, rfl, hBN, HB4.out.alloc _, hB0⟩
   refine (AllReadyW.cons (o := oRnw8) rfl (fun K hK => ?_) AllReadyW.nil)
   go_simp
   have F8 := hid (MS.new x2)
   have G2 := hid (Bw.alloc (Bw.refl x2) (.map #[] 0))
   refine hK.out _ _ trivial ?_
   clear hK K
   try simp only [oRnw8, Act.put, sqA, sqZ, sqS]
   generalize World.alloc x2 (.map #[] 0) = x3 at F8 G2 ⊢
   generalize hb8 : Array.size (World.heap x2) = b8 at F8 ⊢
   have E8 := hid (show x2.heap.size ≤ b8 by omega)
   have L8 := hid F8.out.lt
   clear hb8
   have HB3 := hid (HB2.out.trans G2.out)
   refine wpAnyW_ready (rs := [2]) (by kernel_rfl) (by simp) ?_
   refine (AllReadyW.cons (o := oRnw5) rfl (fun K hK => ?_) AllReadyW.nil)
   go_simp
   have F2 := hid (Blk.new x3 _ _ : Blk (x3.alloc (.cells #[.int .i64 0, .int .i64 0, .int .i64 0, .slice none 0 0, .int .i64 0, .map none] 118)) x3.heap.size _ 118)
   have G3 := hid (Bw.alloc (Bw.refl x3) (.cells #[.int .i64 0, .int .i64 0, .int .i64 0, .slice none 0 0, .int .i64 0, .map none] 118))
   refine hK.out _ _ trivial ?_
   clear hK K
   try simp only [oRnw5, Act.put, sqA, sqZ, sqS]
   generalize World.alloc x3 (.cells #[.int .i64 0, .int .i64 0, .int .i64 0, .slice none 0 0, .int .i64 0, .map none] 118) = x4 at F2 G3 ⊢
   generalize hb2 : Array.size (World.heap x3) = b2 at F2 ⊢
   have E2 := hid (show x3.heap.size ≤ b2 by omega)
   have L2 := hid F2.out.lt
   clear hb2
   have HB4 := hid (HB3.out.trans G3.out)
   refine tkW (i := 9) (oi := oRnw9) (v := ?_) rfl (Or.inl ⟨by rfl, fun w _ => ?_⟩) ?_
   rotate_left
   ·(go_simp; first | done | with_reducible rfl)
   try simp only [oRnw9, Act.put, sqA, sqZ, sqS]
   have s0 := G0.out.size
   have s1 := G1.out.size
   have s2 := G2.out.size
   have s3 := G3.out.size
   have hx0 := HB0.out.size
   have e2 := E2.out
   have e5 := E5.out
   have e7 := E7.out
   have e8 := E8.out
   have l2 := L2.out
   have l5 := L5.out
   have l7 := L7.out
   have l8 := L8.out
   have NEW := hid (newR (cap := cap) (n := n) HLP.out HLL.out HB4.out HNC.out HPR.out (F2.out.bw (Bw.refl _)) (F5.out.bw (G2.out.trans G3.out)) (F7.out.keep ((G1.out.trans (G2.out.trans G3.out)).block _ L7.out)) (F8.out.keep (G3.out.block _ L8.out)) (by omega) (by omega) (by omega) (by omega) ⟨by omega, by omega, by omega, by omega, by omega, by omega⟩)
   clear s0 s1 s2 s3 hx0 e2 e5 e7 e8 l2 l5 l7 l8
   refine wpAnyW_ready (rs := [10]) (by kernel_rfl) (by simp) ?_
   refine (AllReadyW.cons (o := oRnw10) rfl (fun K hK => ?_) AllReadyW.nil)
   go_simp
   refine hK.out _ _ trivial ?_
   clear hK K
   try simp only [oRnw10, Act.put, sqA, sqZ, sqS]
   refine tkW (i := 11) (oi := oRnw11) (v := ?_) rfl (Or.inl ⟨by rfl, fun w _ => ?_⟩) ?_
   rotate_left
   ·(go_simp; first | done | with_reducible rfl)
   try simp only [oRnw11, Act.put, sqA, sqZ, sqS]
   refine wpAnyW_done (by kernel_rfl) ?_ _
   go_wp2
   all_goals go_ret
   all_goals obtain ⟨BN, hBN, hB0⟩ := NEW.out
   all_goals exact ⟨x4.heap.size, b7, BN, rfl, hBN, HB4.out.alloc _, hB0⟩
  refine (AllReadyW.cons (o := oRnw8) rfl (fun K hK => ?_) AllReadyW.nil)
  go_simp
  have F8 := hid (MS.new x1)
  have G1 := hid (Bw.alloc (Bw.refl x1) (.map #[] 0))
  refine hK.out _ _ trivial ?_
  clear hK K
  try simp only [oRnw8, Act.put, sqA, sqZ, sqS]
  generalize World.alloc x1 (.map #[] 0) = x2 at F8 G1 ⊢
  generalize hb8 : Array.size (World.heap x1) = b8 at F8 ⊢
  have E8 := hid (show x1.heap.size ≤ b8 by omega)
  have L8 := hid F8.out.lt
  clear hb8
  have HB2 := hid (HB1.out.trans G1.out)
  refine wpAnyW_ready (rs := [2, 5]) (by kernel_rfl) (by simp) ?_
  refine (AllReadyW.cons (o := oRnw5) rfl (fun K hK => ?_) ?_)
  ·go_simp
   have F2 := hid (Blk.new x2 _ _ : Blk (x2.alloc (.cells #[.int .i64 0, .int .i64 0, .int .i64 0, .slice none 0 0, .int .i64 0, .map none] 118)) x2.heap.size _ 118)
   have G2 := hid (Bw.alloc (Bw.refl x2) (.cells #[.int .i64 0, .int .i64 0, .int .i64 0, .slice none 0 0, .int .i64 0, .map none] 118))
   refine hK.out _ _ trivial ?_
   clear hK K
   try simp only [oRnw5, Act.put, sqA, sqZ, sqS]
   generalize World.alloc x2 (.cells #[.int .i64 0, .int .i64 0, .int .i64 0, .slice none 0 0, .int .i64 0, .map none] 118) = x3 at F2 G2 ⊢
   generalize hb2 : Array.size (World.heap x2) = b2 at F2 ⊢
   have E2 := hid (show x2.heap.size ≤ b2 by omega)
   have L2 := hid F2.out.lt
   clear hb2
   have HB3 := hid (HB2.out.trans G2.out)
   refine wpAnyW_ready (rs := [5]) (by kernel_rfl) (by simp) ?_
   refine (AllReadyW.cons (o := oRnw6) rfl (fun K hK => ?_) AllReadyW.nil)
   go_simp
   have F5 := hid (Blk.new x3 _ _ : Blk (x3.alloc (.cells (rowP (List.replicate L.length (0, 0))).toArray 57)) x3.heap.size _ 57)
   have G3 := hid (Bw.alloc (Bw.refl x3) (.cells (rowP (List.replicate L.length (0, 0))).toArray 57))
   refine hK.out _ _ trivial ?_
   clear hK K
   try simp only [oRnw6, Act.put, sqA, sqZ, sqS]
   generalize World.alloc x3 (.cells (rowP (List.replicate L.length (0, 0))).toArray 57) = x4 at F5 G3 ⊢
   generalize hb5 : Array.size (World.heap x3) = b5 at F5 ⊢
   have E5 := hid (show x3.heap.size ≤ b5 by omega)
   have L5 := hid F5.out.lt
   clear hb5
   have HB4 := hid (HB3.out.trans G3.out)
   refine tkW (i := 9) (oi := oRnw9) (v := ?_) rfl (Or.inl ⟨by rfl, fun w _ => ?_⟩) ?_
   rotate_left
   ·(go_simp; first | done | with_reducible rfl)
   try simp only [oRnw9, Act.put, sqA, sqZ, sqS]
   have s0 := G0.out.size
   have s1 := G1.out.size
   have s2 := G2.out.size
   have s3 := G3.out.size
   have hx0 := HB0.out.size
   have e2 := E2.out
   have e5 := E5.out
   have e7 := E7.out
   have e8 := E8.out
   have l2 := L2.out
   have l5 := L5.out
   have l7 := L7.out
   have l8 := L8.out
   have NEW := hid (newR (cap := cap) (n := n) HLP.out HLL.out HB4.out HNC.out HPR.out (F2.out.bw G3.out) (F5.out.bw (Bw.refl _)) (F7.out.keep ((G1.out.trans (G2.out.trans G3.out)).block _ L7.out)) (F8.out.keep ((G2.out.trans G3.out).block _ L8.out)) (by omega) (by omega) (by omega) (by omega) ⟨by omega, by omega, by omega, by omega, by omega, by omega⟩)
   clear s0 s1 s2 s3 hx0 e2 e5 e7 e8 l2 l5 l7 l8
   refine wpAnyW_ready (rs := [10]) (by kernel_rfl) (by simp) ?_
   refine (AllReadyW.cons (o := oRnw10) rfl (fun K hK => ?_) AllReadyW.nil)
   go_simp
   refine hK.out _ _ trivial ?_
   clear hK K
   try simp only [oRnw10, Act.put, sqA, sqZ, sqS]
   refine tkW (i := 11) (oi := oRnw11) (v := ?_) rfl (Or.inl ⟨by rfl, fun w _ => ?_⟩) ?_
   rotate_left
   ·(go_simp; first | done | with_reducible rfl)
   try simp only [oRnw11, Act.put, sqA, sqZ, sqS]
   refine wpAnyW_done (by kernel_rfl) ?_ _
   go_wp2
   all_goals go_ret
   all_goals obtain ⟨BN, hBN, hB0⟩ := NEW.out
   all_goals exact ⟨x4.heap.size, b7, BN, rfl, hBN, HB4.out.alloc _, hB0⟩
  refine (AllReadyW.cons (o := oRnw6) rfl (fun K hK => ?_) AllReadyW.nil)
  go_simp
  have F5 := hid (Blk.new x2 _ _ : Blk (x2.alloc (.cells (rowP (List.replicate L.length (0, 0))).toArray 57)) x2.heap.size _ 57)
  have G2 := hid (Bw.alloc (Bw.refl x2) (.cells (rowP (List.replicate L.length (0, 0))).toArray 57))
  refine hK.out _ _ trivial ?_
  clear hK K
  try simp only [oRnw6, Act.put, sqA, sqZ, sqS]
  generalize World.alloc x2 (.cells (rowP (List.replicate L.length (0, 0))).toArray 57) = x3 at F5 G2 ⊢
  generalize hb5 : Array.size (World.heap x2) = b5 at F5 ⊢
  have E5 := hid (show x2.heap.size ≤ b5 by omega)
  have L5 := hid F5.out.lt
  clear hb5
  have HB3 := hid (HB2.out.trans G2.out)
  refine wpAnyW_ready (rs := [2]) (by kernel_rfl) (by simp) ?_
  refine (AllReadyW.cons (o := oRnw5) rfl (fun K hK => ?_) AllReadyW.nil)
  go_simp
  have F2 := hid (Blk.new x3 _ _ : Blk (x3.alloc (.cells #[.int .i64 0, .int .i64 0, .int .i64 0, .slice none 0 0, .int .i64 0, .map none] 118)) x3.heap.size _ 118)
  have G3 := hid (Bw.alloc (Bw.refl x3) (.cells #[.int .i64 0, .int .i64 0, .int .i64 0, .slice none 0 0, .int .i64 0, .map none] 118))
  refine hK.out _ _ trivial ?_
  clear hK K
  try simp only [oRnw5, Act.put, sqA, sqZ, sqS]
  generalize World.alloc x3 (.cells #[.int .i64 0, .int .i64 0, .int .i64 0, .slice none 0 0, .int .i64 0, .map none] 118) = x4 at F2 G3 ⊢
  generalize hb2 : Array.size (World.heap x3) = b2 at F2 ⊢
  have E2 := hid (show x3.heap.size ≤ b2 by omega)
  have L2 := hid F2.out.lt
  clear hb2
  have HB4 := hid (HB3.out.trans G3.out)
  refine tkW (i := 9) (oi := oRnw9) (v := ?_) rfl (Or.inl ⟨by rfl, fun w _ => ?_⟩) ?_
  rotate_left
  ·(go_simp; first | done | with_reducible rfl)
  try simp only [oRnw9, Act.put, sqA, sqZ, sqS]
  have s0 := G0.out.size
  have s1 := G1.out.size
  have s2 := G2.out.size
  have s3 := G3.out.size
  have hx0 := HB0.out.size
  have e2 := E2.out
  have e5 := E5.out
  have e7 := E7.out
  have e8 := E8.out
  have l2 := L2.out
  have l5 := L5.out
  have l7 := L7.out
  have l8 := L8.out
  have NEW := hid (newR (cap := cap) (n := n) HLP.out HLL.out HB4.out HNC.out HPR.out (F2.out.bw (Bw.refl _)) (F5.out.bw G3.out) (F7.out.keep ((G1.out.trans (G2.out.trans G3.out)).block _ L7.out)) (F8.out.keep ((G2.out.trans G3.out).block _ L8.out)) (by omega) (by omega) (by omega) (by omega) ⟨by omega, by omega, by omega, by omega, by omega, by omega⟩)
  clear s0 s1 s2 s3 hx0 e2 e5 e7 e8 l2 l5 l7 l8
  refine wpAnyW_ready (rs := [10]) (by kernel_rfl) (by simp) ?_
  refine (AllReadyW.cons (o := oRnw10) rfl (fun K hK => ?_) AllReadyW.nil)
  go_simp
  refine hK.out _ _ trivial ?_
  clear hK K
  try simp only [oRnw10, Act.put, sqA, sqZ, sqS]
  refine tkW (i := 11) (oi := oRnw11) (v := ?_) rfl (Or.inl ⟨by rfl, fun w _ => ?_⟩) ?_
  rotate_left
  ·(go_simp; first | done | with_reducible rfl)
  try simp only [oRnw11, Act.put, sqA, sqZ, sqS]
  refine wpAnyW_done (by kernel_rfl) ?_ _
  go_wp2
  all_goals go_ret
  all_goals obtain ⟨BN, hBN, hB0⟩ := NEW.out
  all_goals exact ⟨x4.heap.size, b7, BN, rfl, hBN, HB4.out.alloc _, hB0⟩
 refine (AllReadyW.cons (o := oRnw8) rfl (fun K hK => ?_) AllReadyW.nil)
 go_simp
 have F8 := hid (MS.new x0)
 have G0 := hid (Bw.alloc (Bw.refl x0) (.map #[] 0))
 refine hK.out _ _ trivial ?_
 clear hK K
 try simp only [oRnw8, Act.put, sqA, sqZ, sqS]
 generalize World.alloc x0 (.map #[] 0) = x1 at F8 G0 ⊢
 generalize hb8 : Array.size (World.heap x0) = b8 at F8 ⊢
 have E8 := hid (show x0.heap.size ≤ b8 by omega)
 have L8 := hid F8.out.lt
 clear hb8
 have HB1 := hid (HB0.out.trans G0.out)
 refine wpAnyW_ready (rs := [2, 5, 7]) (by kernel_rfl) (by simp) ?_
 refine (AllReadyW.cons (o := oRnw5) rfl (fun K hK => ?_) ?_)
 ·go_simp
  have F2 := hid (Blk.new x1 _ _ : Blk (x1.alloc (.cells #[.int .i64 0, .int .i64 0, .int .i64 0, .slice none 0 0, .int .i64 0, .map none] 118)) x1.heap.size _ 118)
  have G1 := hid (Bw.alloc (Bw.refl x1) (.cells #[.int .i64 0, .int .i64 0, .int .i64 0, .slice none 0 0, .int .i64 0, .map none] 118))
  refine hK.out _ _ trivial ?_
  clear hK K
  try simp only [oRnw5, Act.put, sqA, sqZ, sqS]
  generalize World.alloc x1 (.cells #[.int .i64 0, .int .i64 0, .int .i64 0, .slice none 0 0, .int .i64 0, .map none] 118) = x2 at F2 G1 ⊢
  generalize hb2 : Array.size (World.heap x1) = b2 at F2 ⊢
  have E2 := hid (show x1.heap.size ≤ b2 by omega)
  have L2 := hid F2.out.lt
  clear hb2
  have HB2 := hid (HB1.out.trans G1.out)
  refine wpAnyW_ready (rs := [5, 7]) (by kernel_rfl) (by simp) ?_
  refine (AllReadyW.cons (o := oRnw6) rfl (fun K hK => ?_) ?_)
  ·go_simp
   have F5 := hid (Blk.new x2 _ _ : Blk (x2.alloc (.cells (rowP (List.replicate L.length (0, 0))).toArray 57)) x2.heap.size _ 57)
   have G2 := hid (Bw.alloc (Bw.refl x2) (.cells (rowP (List.replicate L.length (0, 0))).toArray 57))
   refine hK.out _ _ trivial ?_
   clear hK K
   try simp only [oRnw6, Act.put, sqA, sqZ, sqS]
   generalize World.alloc x2 (.cells (rowP (List.replicate L.length (0, 0))).toArray 57) = x3 at F5 G2 ⊢
   generalize hb5 : Array.size (World.heap x2) = b5 at F5 ⊢
   have E5 := hid (show x2.heap.size ≤ b5 by omega)
   have L5 := hid F5.out.lt
   clear hb5
   have HB3 := hid (HB2.out.trans G2.out)
   refine wpAnyW_ready (rs := [7]) (by kernel_rfl) (by simp) ?_
   refine (AllReadyW.cons (o := oRnw7) rfl (fun K hK => ?_) AllReadyW.nil)
   go_simp
   refine (HGL.out x3 HB3.out).mono ?_
   rintro e' x4 ⟨b7, he', hs7, hm7, hb7⟩
   subst he'
   have F7 := hid hm7
   have G3 := hid hb7
   have E7 := hid hs7
   have L7 := hid hm7.lt
   clear hm7 hb7 hs7
   refine hK.out _ _ trivial ?_
   clear hK K
   try simp only [oRnw7, Act.put, sqA, sqZ, sqS]
   have HB4 := hid (HB3.out.trans G3.out)
   refine tkW (i := 9) (oi := oRnw9) (v := ?_) rfl (Or.inl ⟨by rfl, fun w _ => ?_⟩) ?_
   rotate_left
   ·(go_simp; first | done | with_reducible rfl)
   try simp only [oRnw9, Act.put, sqA, sqZ, sqS]
   have s0 := G0.out.size
   have s1 := G1.out.size
   have s2 := G2.out.size
   have s3 := G3.out.size
   have hx0 := HB0.out.size
   have e2 := E2.out
   have e5 := E5.out
   have e7 := E7.out
   have e8 := E8.out
   have l2 := L2.out
   have l5 := L5.out
   have l7 := L7.out
   have l8 := L8.out
   have NEW := hid (newR (cap := cap) (n := n) HLP.out HLL.out HB4.out HNC.out HPR.out (F2.out.bw (G2.out.trans G3.out)) (F5.out.bw G3.out) (F7.out.keep ((Bw.refl _).block _ L7.out)) (F8.out.keep ((G1.out.trans (G2.out.trans G3.out)).block _ L8.out)) (by omega) (by omega) (by omega) (by omega) ⟨by omega, by omega, by omega, by omega, by omega, by omega⟩)
   clear s0 s1 s2 s3 hx0 e2 e5 e7 e8 l2 l5 l7 l8
   refine wpAnyW_ready (rs := [10]) (by kernel_rfl) (by simp) ?_
   refine (AllReadyW.cons (o := oRnw10) rfl (fun K hK => ?_) AllReadyW.nil)
   go_simp
   refine hK.out _ _ trivial ?_
   clear hK K
   try simp only [oRnw10, Act.put, sqA, sqZ, sqS]
   refine tkW (i := 11) (oi := oRnw11) (v := ?_) rfl (Or.inl ⟨by rfl, fun w _ => ?_⟩) ?_
   rotate_left
   ·(go_simp; first | done | with_reducible rfl)
   try simp only [oRnw11, Act.put, sqA, sqZ, sqS]
   refine wpAnyW_done (by kernel_rfl) ?_ _
   go_wp2
   all_goals go_ret
   all_goals obtain ⟨BN, hBN, hB0⟩ := NEW.out
   all_goals exact ⟨x4.heap.size, b7, BN, rfl, hBN, HB4.out.alloc _, hB0⟩
  refine (AllReadyW.cons (o := oRnw7) rfl (fun K hK => ?_) AllReadyW.nil)
  go_simp
  refine (HGL.out x2 HB2.out).mono ?_
  rintro e' x3 ⟨b7, he', hs7, hm7, hb7⟩
  subst he'
  have F7 := hid hm7
  have G2 := hid hb7
  have E7 := hid hs7
  have L7 := hid hm7.lt
  clear hm7 hb7 hs7
  refine hK.out _ _ trivial ?_
  clear hK K
  try simp only [oRnw7, Act.put, sqA, sqZ, sqS]
  have HB3 := hid (HB2.out.trans G2.out)
  refine wpAnyW_ready (rs := [5]) (by kernel_rfl) (by simp) ?_
  refine (AllReadyW.cons (o := oRnw6) rfl (fun K hK => ?_) AllReadyW.nil)
  go_simp
  have F5 := hid (Blk.new x3 _ _ : Blk (x3.alloc (.cells (rowP (List.replicate L.length (0, 0))).toArray 57)) x3.heap.size _ 57)
  have G3 := hid (Bw.alloc (Bw.refl x3) (.cells (rowP (List.replicate L.length (0, 0))).toArray 57))
  refine hK.out _ _ trivial ?_
  clear hK K
  try simp only [oRnw6, Act.put, sqA, sqZ, sqS]
  generalize World.alloc x3 (.cells (rowP (List.replicate L.length (0, 0))).toArray 57) = x4 at F5 G3 ⊢
  generalize hb5 : Array.size (World.heap x3) = b5 at F5 ⊢
  have E5 := hid (show x3.heap.size ≤ b5 by omega)
  have L5 := hid F5.out.lt
  clear hb5
  have HB4 := hid (HB3.out.trans G3.out)
  refine tkW (i := 9) (oi := oRnw9) (v := ?_) rfl (Or.inl ⟨by rfl, fun w _ => ?_⟩) ?_
  rotate_left
  ·(go_simp; first | done | with_reducible rfl)
  try simp only [oRnw9, Act.put, sqA, sqZ, sqS]
  have s0 := G0.out.size
  have s1 := G1.out.size
  have s2 := G2.out.size
  have s3 := G3.out.size
  have hx0 := HB0.out.size
  have e2 := E2.out
  have e5 := E5.out
  have e7 := E7.out
  have e8 := E8.out
  have l2 := L2.out
  have l5 := L5.out
  have l7 := L7.out
  have l8 := L8.out
  have NEW := hid (newR (cap := cap) (n := n) HLP.out HLL.out HB4.out HNC.out HPR.out (F2.out.bw (G2.out.trans G3.out)) (F5.out.bw (Bw.refl _)) (F7.out.keep (G3.out.block _ L7.out)) (F8.out.keep ((G1.out.trans (G2.out.trans G3.out)).block _ L8.out)) (by omega) (by omega) (by omega) (by omega) ⟨by omega, by omega, by omega, by omega, by omega, by omega⟩)
  clear s0 s1 s2 s3 hx0 e2 e5 e7 e8 l2 l5 l7 l8
  refine wpAnyW_ready (rs := [10]) (by kernel_rfl) (by simp) ?_
  refine (AllReadyW.cons (o := oRnw10) rfl (fun K hK => ?_) AllReadyW.nil)
  go_simp
  refine hK.out _ _ trivial ?_
  clear hK K
  try simp only [oRnw10, Act.put, sqA, sqZ, sqS]
  refine tkW (i := 11) (oi := oRnw11) (v := ?_) rfl (Or.inl ⟨by rfl, fun w _ => ?_⟩) ?_
  rotate_left
  ·(go_simp; first | done | with_reducible rfl)
  try simp only [oRnw11, Act.put, sqA, sqZ, sqS]
  refine wpAnyW_done (by kernel_rfl) ?_ _
  go_wp2
  all_goals go_ret
  all_goals obtain ⟨BN, hBN, hB0⟩ := NEW.out
  all_goals exact ⟨x4.heap.size, b7, BN, rfl, hBN, HB4.out.alloc _, hB0⟩
 refine (AllReadyW.cons (o := oRnw6) rfl (fun K hK => ?_) ?_)
 ·go_simp
  have F5 := hid (Blk.new x1 _ _ : Blk (x1.alloc (.cells (rowP (List.replicate L.length (0, 0))).toArray 57)) x1.heap.size _ 57)
  have G1 := hid (Bw.alloc (Bw.refl x1) (.cells (rowP (List.replicate L.length (0, 0))).toArray 57))
  refine hK.out _ _ trivial ?_
  clear hK K
  try simp only [oRnw6, Act.put, sqA, sqZ, sqS]
  generalize World.alloc x1 (.cells (rowP (List.replicate L.length (0, 0))).toArray 57) = x2 at F5 G1 ⊢
  generalize hb5 : Array.size (World.heap x1) = b5 at F5 ⊢
  have E5 := hid (show x1.heap.size ≤ b5 by omega)
  have L5 := hid F5.out.lt
  clear hb5
  have HB2 := hid (HB1.out.trans G1.out)
  refine wpAnyW_ready (rs := [2, 7]) (by kernel_rfl) (by simp) ?_
  refine (AllReadyW.cons (o := oRnw5) rfl (fun K hK => ?_) ?_)
  ·go_simp
   have F2 := hid (Blk.new x2 _ _ : Blk (x2.alloc (.cells #[.int .i64 0, .int .i64 0, .int .i64 0, .slice none 0 0, .int .i64 0, .map none] 118)) x2.heap.size _ 118)
   have G2 := hid (Bw.alloc (Bw.refl x2) (.cells #[.int .i64 0, .int .i64 0, .int .i64 0, .slice none 0 0, .int .i64 0, .map none] 118))
   refine hK.out _ _ trivial ?_
   clear hK K
   try simp only [oRnw5, Act.put, sqA, sqZ, sqS]
   generalize World.alloc x2 (.cells #[.int .i64 0, .int .i64 0, .int .i64 0, .slice none 0 0, .int .i64 0, .map none] 118) = x3 at F2 G2 ⊢
   generalize hb2 : Array.size (World.heap x2) = b2 at F2 ⊢
   have E2 := hid (show x2.heap.size ≤ b2 by omega)
   have L2 := hid F2.out.lt
   clear hb2
   have HB3 := hid (HB2.out.trans G2.out)
   refine wpAnyW_ready (rs := [7]) (by kernel_rfl) (by simp) ?_
   refine (AllReadyW.cons (o := oRnw7) rfl (fun K hK => ?_) AllReadyW.nil)
   go_simp
   refine (HGL.out x3 HB3.out).mono ?_
   rintro e' x4 ⟨b7, he', hs7, hm7, hb7⟩
   subst he'
   have F7 := hid hm7
   have G3 := hid hb7
   have E7 := hid hs7
   have L7 := hid hm7.lt
   clear hm7 hb7 hs7
   refine hK.out _ _ trivial ?_
   clear hK K
   try simp only [oRnw7, Act.put, sqA, sqZ, sqS]
   have HB4 := hid (HB3.out.trans G3.out)
   refine tkW (i := 9) (oi := oRnw9) (v := ?_) rfl (Or.inl ⟨by rfl, fun w _ => ?_⟩) ?_
   rotate_left
   ·(go_simp; first | done | with_reducible rfl)
   try simp only [oRnw9, Act.put, sqA, sqZ, sqS]
   have s0 := G0.out.size
   have s1 := G1.out.size
   have s2 := G2.out.size
   have s3 := G3.out.size
   have hx0 := HB0.out.size
   have e2 := E2.out
   have e5 := E5.out
   have e7 := E7.out
   have e8 := E8.out
   have l2 := L2.out
   have l5 := L5.out
   have l7 := L7.out
   have l8 := L8.out
   have NEW := hid (newR (cap := cap) (n := n) HLP.out HLL.out HB4.out HNC.out HPR.out (F2.out.bw G3.out) (F5.out.bw (G2.out.trans G3.out)) (F7.out.keep ((Bw.refl _).block _ L7.out)) (F8.out.keep ((G1.out.trans (G2.out.trans G3.out)).block _ L8.out)) (by omega) (by omega) (by omega) (by omega) ⟨by omega, by omega, by omega, by omega, by omega, by omega⟩)
   clear s0 s1 s2 s3 hx0 e2 e5 e7 e8 l2 l5 l7 l8
   refine wpAnyW_ready (rs := [10]) (by kernel_rfl) (by simp) ?_
   refine (AllReadyW.cons (o := oRnw10) rfl (fun K hK => ?_) AllReadyW.nil)
   go_simp
   refine hK.out _ _ trivial ?_
   clear hK K
   try simp only [oRnw10, Act.put, sqA, sqZ, sqS]
   refine tkW (i := 11) (oi := oRnw11) (v := ?_) rfl (Or.inl ⟨by rfl, fun w _ => ?_⟩) ?_
   rotate_left
   ·(go_simp; first | done | with_reducible rfl)
   try simp only [oRnw11, Act.put, sqA, sqZ, sqS]
   refine wpAnyW_done (by kernel_rfl) ?_ _
   go_wp2
   all_goals go_ret
   all_goals obtain ⟨BN, hBN, hB0⟩ := NEW.out
   all_goals exact ⟨x4.heap.size, b7, BN, rfl, hBN, HB4.out.alloc _, hB0⟩
  refine (AllReadyW.cons (o := oRnw7) rfl (fun K hK => ?_) AllReadyW.nil)
  go_simp
  refine (HGL.out x2 HB2.out).mono ?_
  rintro e' x3 ⟨b7, he', hs7, hm7, hb7⟩
  subst he'
  have F7 := hid hm7
  have G2 := hid hb7
  have E7 := hid hs7
  have L7 := hid hm7.lt
  clear hm7 hb7 hs7
  refine hK.out _ _ trivial ?_
  clear hK K
  try simp only [oRnw7, Act.put, sqA, sqZ, sqS]
  have HB3 := hid (HB2.out.trans G2.out)
  refine wpAnyW_ready (rs := [2]) (by kernel_rfl) (by simp) ?_
  refine (AllReadyW.cons (o := oRnw5) rfl (fun K hK => ?_) AllReadyW.nil)
  go_simp
  have F2 := hid (Blk.new x3 _ _ : Blk (x3.alloc (.cells #[.int .i64 0, .int .i64 0, .int .i64 0, .slice none 0 0, .int .i64 0, .map none] 118)) x3.heap.size _ 118)
  have G3 := hid (Bw.alloc (Bw.refl x3) (.cells #[.int .i64 0, .int .i64 0, .int .i64 0, .slice none 0 0, .int .i64 0, .map none] 118))
  refine hK.out _ _ trivial ?_
  clear hK K
  try simp only [oRnw5, Act.put, sqA, sqZ, sqS]
  generalize World.alloc x3 (.cells #[.int .i64 0, .int .i64 0, .int .i64 0, .slice none 0 0, .int .i64 0, .map none] 118) = x4 at F2 G3 ⊢
  generalize hb2 : Array.size (World.heap x3) = b2 at F2 ⊢
  have E2 := hid (show x3.heap.size ≤ b2 by omega)
  have L2 := hid F2.out.lt
  clear hb2
  have HB4 := hid (HB3.out.trans G3.out)
  refine tkW (i := 9) (oi := oRnw9) (v := ?_) rfl (Or.inl ⟨by rfl, fun w _ => ?_⟩) ?_
  rotate_left
  ·(go_simp; first | done | with_reducible rfl)
  try simp only [oRnw9, Act.put, sqA, sqZ, sqS]
  have s0 := G0.out.size
  have s1 := G1.out.size
  have s2 := G2.out.size
  have s3 := G3.out.size
  have hx0 := HB0.out.size
  have e2 := E2.out
  have e5 := E5.out
  have e7 := E7.out
  have e8 := E8.out
  have l2 := L2.out
  have l5 := L5.out
  have l7 := L7.out
  have l8 := L8.out
  have NEW := hid (newR (cap := cap) (n := n) HLP.out HLL.out HB4.out HNC.out HPR.out (F2.out.bw (Bw.refl _)) (F5.out.bw (G2.out.trans G3.out)) (F7.out.keep (G3.out.block _ L7.out)) (F8.out.keep ((G1.out.trans (G2.out.trans G3.out)).block _ L8.out)) (by omega) (by omega) (by omega) (by omega) ⟨by omega, by omega, by omega, by omega, by omega, by omega⟩)
  clear s0 s1 s2 s3 hx0 e2 e5 e7 e8 l2 l5 l7 l8
  refine wpAnyW_ready (rs := [10]) (by kernel_rfl) (by simp) ?_
  refine (AllReadyW.cons (o := oRnw10) rfl (fun K hK => ?_) AllReadyW.nil)
  go_simp
  refine hK.out _ _ trivial ?_
  clear hK K
  try simp only [oRnw10, Act.put, sqA, sqZ, sqS]
  refine tkW (i := 11) (oi := oRnw11) (v := ?_) rfl (Or.inl ⟨by rfl, fun w _ => ?_⟩) ?_
  rotate_left
  ·(go_simp; first | done | with_reducible rfl)
  try simp only [oRnw11, Act.put, sqA, sqZ, sqS]
  refine wpAnyW_done (by kernel_rfl) ?_ _
  go_wp2
  all_goals go_ret
  all_goals obtain ⟨BN, hBN, hB0⟩ := NEW.out
  all_goals exact ⟨x4.heap.size, b7, BN, rfl, hBN, HB4.out.alloc _, hB0⟩
 refine (AllReadyW.cons (o := oRnw7) rfl (fun K hK => ?_) AllReadyW.nil)
 go_simp
 refine (HGL.out x1 HB1.out).mono ?_
 rintro e' x2 ⟨b7, he', hs7, hm7, hb7⟩
 subst he'
 have F7 := hid hm7
 have G1 := hid hb7
 have E7 := hid hs7
 have L7 := hid hm7.lt
 clear hm7 hb7 hs7
 refine hK.out _ _ trivial ?_
 clear hK K
 try simp only [oRnw7, Act.put, sqA, sqZ, sqS]
 have HB2 := hid (HB1.out.trans G1.out)
 refine wpAnyW_ready (rs := [2, 5]) (by kernel_rfl) (by simp) ?_
 refine (AllReadyW.cons (o := oRnw5) rfl (fun K hK => ?_) ?_)
 ·go_simp
  have F2 := hid (Blk.new x2 _ _ : Blk (x2.alloc (.cells #[.int .i64 0, .int .i64 0, .int .i64 0, .slice none 0 0, .int .i64 0, .map none] 118)) x2.heap.size _ 118)
  have G2 := hid (Bw.alloc (Bw.refl x2) (.cells #[.int .i64 0, .int .i64 0, .int .i64 0, .slice none 0 0, .int .i64 0, .map none] 118))
  refine hK.out _ _ trivial ?_
  clear hK K
  try simp only [oRnw5, Act.put, sqA, sqZ, sqS]
  generalize World.alloc x2 (.cells #[.int .i64 0, .int .i64 0, .int .i64 0, .slice none 0 0, .int .i64 0, .map none] 118) = x3 at F2 G2 ⊢
  generalize hb2 : Array.size (World.heap x2) = b2 at F2 ⊢
  have E2 := hid (show x2.heap.size ≤ b2 by omega)
  have L2 := hid F2.out.lt
  clear hb2
  have HB3 := hid (HB2.out.trans G2.out)
  refine wpAnyW_ready (rs := [5]) (by kernel_rfl) (by simp) ?_
  refine (AllReadyW.cons (o := oRnw6) rfl (fun K hK => ?_) AllReadyW.nil)
  go_simp
  have F5 := hid (Blk.new x3 _ _ : Blk (x3.alloc (.cells (rowP (List.replicate L.length (0, 0))).toArray 57)) x3.heap.size _ 57)
  have G3 := hid (Bw.alloc (Bw.refl x3) (.cells (rowP (List.replicate L.length (0, 0))).toArray 57))
  refine hK.out _ _ trivial ?_
  clear hK K
  try simp only [oRnw6, Act.put, sqA, sqZ, sqS]
  generalize World.alloc x3 (.cells (rowP (List.replicate L.length (0, 0))).toArray 57) = x4 at F5 G3 ⊢
  generalize hb5 : Array.size (World.heap x3) = b5 at F5 ⊢
  have E5 := hid (show x3.heap.size ≤ b5 by omega)
  have L5 := hid F5.out.lt
  clear hb5
  have HB4 := hid (HB3.out.trans G3.out)
  refine tkW (i := 9) (oi := oRnw9) (v := ?_) rfl (Or.inl ⟨by rfl, fun w _ => ?_⟩) ?_
  rotate_left
  ·(go_simp; first | done | with_reducible rfl)
  try simp only [oRnw9, Act.put, sqA, sqZ, sqS]
  have s0 := G0.out.size
  have s1 := G1.out.size
  have s2 := G2.out.size
  have s3 := G3.out.size
  have hx0 := HB0.out.size
  have e2 := E2.out
  have e5 := E5.out
  have e7 := E7.out
  have e8 := E8.out
  have l2 := L2.out
  have l5 := L5.out
  have l7 := L7.out
  have l8 := L8.out
  have NEW := hid (newR (cap := cap) (n := n) HLP.out HLL.out HB4.out HNC.out HPR.out (F2.out.bw G3.out) (F5.out.bw (Bw.refl _)) (F7.out.keep ((G2.out.trans G3.out).block _ L7.out)) (F8.out.keep ((G1.out.trans (G2.out.trans G3.out)).block _ L8.out)) (by omega) (by omega) (by omega) (by omega) ⟨by omega, by omega, by omega, by omega, by omega, by omega⟩)
  clear s0 s1 s2 s3 hx0 e2 e5 e7 e8 l2 l5 l7 l8
  refine wpAnyW_ready (rs := [10]) (by kernel_rfl) (by simp) ?_
  refine (AllReadyW.cons (o := oRnw10) rfl (fun K hK => ?_) AllReadyW.nil)
  go_simp
  refine hK.out _ _ trivial ?_
  clear hK K
  try simp only [oRnw10, Act.put, sqA, sqZ, sqS]
  refine tkW (i := 11) (oi := oRnw11) (v := ?_) rfl (Or.inl ⟨by rfl, fun w _ => ?_⟩) ?_
  rotate_left
  ·(go_simp; first | done | with_reducible rfl)
  try simp only [oRnw11, Act.put, sqA, sqZ, sqS]
  refine wpAnyW_done (by kernel_rfl) ?_ _
  go_wp2
  all_goals go_ret
  all_goals obtain ⟨BN, hBN, hB0⟩ := NEW.out
  all_goals exact ⟨x4.heap.size, b7, BN, rfl, hBN, HB4.out.alloc _, hB0⟩
 refine (AllReadyW.cons (o := oRnw6) rfl (fun K hK => ?_) AllReadyW.nil)
 go_simp
 have F5 := hid (Blk.new x2 _ _ : Blk (x2.alloc (.cells (rowP (List.replicate L.length (0, 0))).toArray 57)) x2.heap.size _ 57)
 have G2 := hid (Bw.alloc (Bw.refl x2) (.cells (rowP (List.replicate L.length (0, 0))).toArray 57))
 refine hK.out _ _ trivial ?_
 clear hK K
 try simp only [oRnw6, Act.put, sqA, sqZ, sqS]
 generalize World.alloc x2 (.cells (rowP (List.replicate L.length (0, 0))).toArray 57) = x3 at F5 G2 ⊢
 generalize hb5 : Array.size (World.heap x2) = b5 at F5 ⊢
 have E5 := hid (show x2.heap.size ≤ b5 by omega)
 have L5 := hid F5.out.lt
 clear hb5
 have HB3 := hid (HB2.out.trans G2.out)
 refine wpAnyW_ready (rs := [2]) (by kernel_rfl) (by simp) ?_
 refine (AllReadyW.cons (o := oRnw5) rfl (fun K hK => ?_) AllReadyW.nil)
 go_simp
 have F2 := hid (Blk.new x3 _ _ : Blk (x3.alloc (.cells #[.int .i64 0, .int .i64 0, .int .i64 0, .slice none 0 0, .int .i64 0, .map none] 118)) x3.heap.size _ 118)
 have G3 := hid (Bw.alloc (Bw.refl x3) (.cells #[.int .i64 0, .int .i64 0, .int .i64 0, .slice none 0 0, .int .i64 0, .map none] 118))
 refine hK.out _ _ trivial ?_
 clear hK K
 try simp only [oRnw5, Act.put, sqA, sqZ, sqS]
 generalize World.alloc x3 (.cells #[.int .i64 0, .int .i64 0, .int .i64 0, .slice none 0 0, .int .i64 0, .map none] 118) = x4 at F2 G3 ⊢
 generalize hb2 : Array.size (World.heap x3) = b2 at F2 ⊢
 have E2 := hid (show x3.heap.size ≤ b2 by omega)
 have L2 := hid F2.out.lt
 clear hb2
 have HB4 := hid (HB3.out.trans G3.out)
 refine tkW (i := 9) (oi := oRnw9) (v := ?_) rfl (Or.inl ⟨by rfl, fun w _ => ?_⟩) ?_
 rotate_left
 ·(go_simp; first | done | with_reducible rfl)
 try simp only [oRnw9, Act.put, sqA, sqZ, sqS]
 have s0 := G0.out.size
 have s1 := G1.out.size
 have s2 := G2.out.size
 have s3 := G3.out.size
 have hx0 := HB0.out.size
 have e2 := E2.out
 have e5 := E5.out
 have e7 := E7.out
 have e8 := E8.out
 have l2 := L2.out
 have l5 := L5.out
 have l7 := L7.out
 have l8 := L8.out
 have NEW := hid (newR (cap := cap) (n := n) HLP.out HLL.out HB4.out HNC.out HPR.out (F2.out.bw (Bw.refl _)) (F5.out.bw G3.out) (F7.out.keep ((G2.out.trans G3.out).block _ L7.out)) (F8.out.keep ((G1.out.trans (G2.out.trans G3.out)).block _ L8.out)) (by omega) (by omega) (by omega) (by omega) ⟨by omega, by omega, by omega, by omega, by omega, by omega⟩)
 clear s0 s1 s2 s3 hx0 e2 e5 e7 e8 l2 l5 l7 l8
 refine wpAnyW_ready (rs := [10]) (by kernel_rfl) (by simp) ?_
 refine (AllReadyW.cons (o := oRnw10) rfl (fun K hK => ?_) AllReadyW.nil)
 go_simp
 refine hK.out _ _ trivial ?_
 clear hK K
 try simp only [oRnw10, Act.put, sqA, sqZ, sqS]
 refine tkW (i := 11) (oi := oRnw11) (v := ?_) rfl (Or.inl ⟨by rfl, fun w _ => ?_⟩) ?_
 rotate_left
 ·(go_simp; first | done | with_reducible rfl)
 try simp only [oRnw11, Act.put, sqA, sqZ, sqS]
 refine wpAnyW_done (by kernel_rfl) ?_ _
 go_wp2
 all_goals go_ret
 all_goals obtain ⟨BN, hBN, hB0⟩ := NEW.out
 all_goals exact ⟨x4.heap.size, b7, BN, rfl, hBN, HB4.out.alloc _, hB0⟩

end Go.Proofs.YtdhkcdehedbpcaaDoor

namespace Go.Proofs.YtdhkcdehedbpcaaDoor
open Go Go.RowKit

def liveA : ByteArray → Option Int := (globA liveP 2 1 (fun _ => none) 0).getD fun _ => none
def liveO : Option ZS := zR liveP liveA 60 (.parts 2) (zstart liveP)
def liveZ : ZS := liveO.getD default
theorem live_glob : (globA liveP 2 1 (fun _ => none) 0).isSome = true := by kernel_rfl
theorem live_globA : globA liveP 2 1 (fun _ => none) 0 = some liveA := by
 obtain ⟨A, hA⟩ := Option.isSome_iff_exists.1 live_glob
 unfold liveA
 rw [hA]; rfl
theorem live_res : liveO.isSome = true := by kernel_rfl
theorem live_resZ : zR liveP liveA 60 (.parts 2) (zstart liveP) = some liveZ := by
 obtain ⟨A, hA⟩ := Option.isSome_iff_exists.1 live_res
 have h : liveO = some liveZ := by unfold liveZ; rw [hA]; rfl
 exact h
theorem live_fault : liveZ.fault = 0 := by kernel_rfl
theorem live_funs : liveZ.funs.length = 3 := by kernel_rfl
theorem live_caps : (liveZ.funs.getD 2 default).caps = [(1, 0)] := by kernel_rfl
theorem live_globs : liveZ.globals.length = 2 := by kernel_rfl
theorem live_fit : (liveZ.uses.all (zfit liveZ)) = true := by kernel_rfl
theorem live_len : liveP.length = 13 := by kernel_rfl
theorem live_n : (zN liveP 0).2.1 = 2 := by kernel_rfl

end Go.Proofs.YtdhkcdehedbpcaaDoor

