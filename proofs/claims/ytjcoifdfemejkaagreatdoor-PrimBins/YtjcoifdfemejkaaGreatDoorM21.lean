/- PrimBins: the statement's own walk. · PrimBins: the statement's own walk. -/
import Derived.Test.YtjcoifdfemejkaaGreatDoorM20
import Derived.Test.YtjcoifdfemejkaaGreatDoorM11
set_option linter.unusedSimpArgs false
set_option linter.unusedVariables false
namespace Go.Proofs.YtjcoifdfemejkaaGreatDoor
open Go Go.RowKit

theorem OU.bw9 {w w' : World} {o : AObj} {vb vv vk : Value} (h : OU w o vb vv vk) (hb : Bw w w') : OU w' o vb vv vk :=
  ⟨h.ol.below hb, h.u, h.b, h.m1, h.m2, h.m3, h.ks, h.nn, h.nr, h.ni⟩
theorem cell_bw9 {w w' : World} (h : Bw w w') {b o : Nat} (hb : b < w.heap.size) : w'.cell? ⟨b, o, none⟩ = w.cell? ⟨b, o, none⟩ := World.cell?_of_block (a := ⟨b, o, none⟩) (h.block b hb)
theorem WU.bw9 {w w' : World} {ao aw : Option Addr} {Os : List AObj} {Ws : List (Int × Int × Int)} (h : WU w ao aw Os Ws) (hb : Bw w w') : WU w' ao aw Os Ws := by
  refine ⟨fun i hi => ?_, fun i hi => ?_⟩
  · obtain ⟨b, off, x, e, hlt, hc, ho⟩ := h.1 i hi
    exact ⟨b, off, x, e, Nat.lt_of_lt_of_le hlt hb.size, fun j hj => (cell_bw9 hb hlt).trans (hc j hj), OU.bw9 ho hb⟩
  · obtain ⟨b, off, e, hlt, c0, c1, c2, hu⟩ := h.2 i hi
    exact ⟨b, off, e, Nat.lt_of_lt_of_le hlt hb.size, (cell_bw9 hb hlt).trans c0, (cell_bw9 hb hlt).trans c1, (cell_bw9 hb hlt).trans c2, hu⟩

theorem madeB {ao aw : Option Addr} {co cw : Nat} {Os : List AObj} {Ws : List (Int × Int × Int)} {w : World} (hw : WU w ao aw Os Ws) (hm : muchW Os Ws = false) :
    ∀ w1, Bw w w1 → Calls Tryz.prog 6 #[.agg #[.slice ao Os.length co, .slice aw Ws.length cw]] w1 fun e w' => ∃ b0 bs va, e = .returned (.tuple #[.pointer (some ⟨b0, 0, none⟩), .agg #[.int .i64 (madeH Os Ws).1, va]]) ∧ HS w' b0 (madeH Os Ws) bs ∧ RdH w' (fun b => b ∉ bs) (.agg #[.int .i64 (madeH Os Ws).1, va]) (madeH Os Ws) ∧ Bw w w' ∧ ∀ b ∈ bs, w.heap.size ≤ b := by
  intro w1 hb
  have hn := much_no9 hm
  refine (made_any ao aw co cw Os Ws w1 (WU.wr9 (WU.bw9 hw hb) hm) (by omega) (by omega)).mono fun e w' h => ?_
  obtain ⟨b0, bs, va, he, hs, hr, hbw, hl⟩ := h
  exact ⟨b0, bs, va, he, hs, hr, hb.trans hbw, fun b hm => Nat.le_trans hb.size (hl b hm)⟩

/-- The two heaps, side by side. -/
structure TW (W0 w : World) (b0 : Nat) (bs : List Nat) (rv : Value) (H : AHeap) : Prop where
  s : HS w b0 H bs
  r : RdH w (fun b => b ∉ bs) rv H
  b : Bw W0 w
  n : ∀ b ∈ bs, W0.heap.size ≤ b
theorem TW.bw {W0 w w' : World} {b0 : Nat} {bs : List Nat} {rv : Value} {H : AHeap} (h : TW W0 w b0 bs rv H) (hb : Bw w w') : TW W0 w' b0 bs rv H := ⟨h.s.bw hb, h.r.below hb, h.b.trans hb, h.n⟩
theorem TW.free {W0 w : World} {b0 : Nat} {bs : List Nat} {rv : Value} {H : AHeap} (h : TW W0 w b0 bs rv H) : ∀ b, w.heap.size ≤ b → b ∉ bs := fun b hb hm => by have := h.s.lt hm; omega
theorem TW.len {W0 w : World} {b0 : Nat} {bs : List Nat} {rv : Value} {H : AHeap} (h : TW W0 w b0 bs rv H) : H.2.length ≤ 65536 := by have := h.s.most; omega
theorem TW.gone {W0 w w' : World} {b0 : Nat} {bs bs' : List Nat} {rv : Value} {H : AHeap} (h : TW W0 w b0 bs rv H) (hn : Nx bs w w' bs') : RdH w' (fun b => b ∉ bs') rv H ∧ Bw W0 w' ∧ (∀ b ∈ bs', W0.heap.size ≤ b) ∧ (∀ g cur e, Blk w g cur e → g ∉ bs → Blk w' g cur e) := by
  have hx := Nx.bw hn h.b h.n
  refine ⟨h.r.keep hn.1.size (fun b hb hG => hn.1.block b hb hG) (fun b hb hG hm => ?_), hx.1, hx.2, fun g cur e hb hg => hb.keep (hn.1.block g hb.lt hg)⟩
  rcases hn.2 b hm with h1 | h1
  · exact hG h1
  · omega

end Go.Proofs.YtjcoifdfemejkaaGreatDoor

set_option linter.unusedSimpArgs false
set_option linter.unusedVariables false
namespace Go.Proofs.YtjcoifdfemejkaaGreatDoor
open Go Go.RowKit

set_option maxRecDepth 100000 in
set_option maxHeartbeats 4000000 in
theorem bins_core (ao aw : Option Addr) (co cw : Nat) (Os : List AObj) (Ws : List (Int × Int × Int)) (mo : Os.length ≤ maxLen) (mw : Ws.length ≤ maxLen) (op a : Int) (wa : U a) (b : Int) (wb : U b) (w : World) (ht : Tf w) (wu : WU w ao aw Os Ws) :
    Calls Tryz.prog 3 #[.agg #[.slice ao Os.length co, .slice aw Ws.length cw], .int .i64 op, .int .u64 a, .int .u64 b] w fun e w' => e = .returned (.bool true) ∧ Bw w w' := by
  have HMU := hid (fun w1 (hb : Bw w w1) => much4_any ao aw co cw Os Ws w1 (WU.bw9 wu hb) mo mw)
  have HT := hid ht
  have HUA := hid wa
  have HUB := hid wb
  have BW := hid (Bw.refl w)
  by_cases hm : muchW Os Ws = true
  · rw [hm] at HMU
    have HMU := hid HMU.out
    clear wa wb wu mo mw hm ht
    go_enter Tryz.func3, Tryz.ntmps3
    go_wp2_with (first
      | (go_at_call 4; refine (HMU.out _ (by repeat (first | exact Bw.refl _ | apply Bw.lay | apply Bw.alloc | apply Bw.drewN | apply Bw.drew))).mono ?_; rintro e w1 ⟨rfl, os1, n1, rfl⟩)
      | (go_at_call 5; refine (live_any _ (HT.out.bw (BW.out.trans (by repeat (first | exact Bw.refl _ | apply Bw.lay | apply Bw.alloc | apply Bw.drewN | apply Bw.drew))))).mono ?_; rintro e wl ⟨rfl, hbl⟩; have BL := hid (BW.out.trans (Bw.trans (by repeat (first | exact Bw.refl _ | apply Bw.lay | apply Bw.alloc | apply Bw.drewN | apply Bw.drew)) hbl)); clear hbl)
      | fail)
    all_goals go_ret
    all_goals exact ⟨rfl, BL.out⟩
  have hm' : muchW Os Ws = false := by simpa using hm
  have HMD := hid (madeB (co := co) (cw := cw) wu hm')
  have hnb := made_nb wu hm'
  rw [hm'] at HMU
  replace HMU := hid HMU.out
  clear wu mo mw hm hm' ht BW wa wb
  generalize madeH Os Ws = H at HMD hnb
  have HNB := hid hnb
  have HNB1 := hid (hnb.bi (op := op) HUA.out HUB.out)
  clear hnb
  generalize hR1 : biR H op a b = R1 at HNB1
  have HR1 := hid hR1
  clear hR1
  obtain ⟨V1, F1, H1⟩ := R1
  have HNB1 := hid (show Nb (100 + 100) H1 from HNB1.out)
  have HNB2 := hid (HNB1.out.ng (a := a))
  generalize hR2 : ngR H1 a = R2 at HNB2
  have HR2 := hid hR2
  clear hR2
  obtain ⟨V2, F2, H2⟩ := R2
  have HNB2 := hid (show Nb (100 + 100) H2 from HNB2.out)
  go_enter Tryz.func3, Tryz.ntmps3
  go_wp2_with (first
    | (go_at_call 4; refine (HMU.out _ (by repeat (first | exact Bw.refl _ | apply Bw.lay | apply Bw.alloc | apply Bw.drewN | apply Bw.drew))).mono ?_; rintro e w1 ⟨rfl, os1, n1, rfl⟩)
    | (go_at_call 6; refine (HMD.out _ (by repeat (first | exact Bw.refl _ | apply Bw.lay | apply Bw.alloc | apply Bw.drewN | apply Bw.drew))).mono ?_; rintro e w2 ⟨b0, bs, va, rfl, hs2, hr2, hb2, hl2⟩; obtain ⟨a2, c2, e2⟩ := hr2.form; (obtain rfl : va = .slice a2 H.2.length c2 := by simpa using e2); have T2 := hid (TW.mk hs2 hr2 hb2 hl2); clear hs2 hr2 hb2 hl2 e2)
    | (go_at_call 7; refine (bin_all op a b HUA.out HUB.out (T2.out.bw (by repeat (first | exact Bw.refl _ | apply Bw.lay | apply Bw.alloc | apply Bw.drewN | apply Bw.drew))).s HNB.out.k9).mono ?_; unfold BP; rw [HR1.out]; rintro e w3 ⟨rfl, bs3, hs3, hn3⟩; obtain ⟨hr3, hb3, hl3, hk3⟩ := (T2.out.bw (by repeat (first | exact Bw.refl _ | apply Bw.lay | apply Bw.alloc | apply Bw.drewN | apply Bw.drew))).gone hn3; have S3 := hid hs3; have R3 := hid hr3; have B3 := hid hb3; have L3 := hid hl3; have P1 := hid (hk3 w2.heap.size #[.int .i64 H.1, .slice a2 H.2.length c2] 32 (Blk.new w2 _ _) (fun hm => by have := T2.out.s.lt hm; omega)); have P1c0 : w3.cell? ⟨w2.heap.size, 0, none⟩ = some (.int .i64 H.1) := P1.out.cell 0; have P1c1 : w3.cell? ⟨w2.heap.size, 1, none⟩ = some (.slice a2 H.2.length c2) := P1.out.cell 1; have P1l : w2.heap.size < w3.heap.size := P1.out.lt; clear hs3 hn3 hr3 hb3 hl3 hk3)
    | (go_at_call 8; refine (nbin_all (fun b => b ∉ bs3) _ H op a b HUA.out HUB.out T2.out.s.ok HNB.out.k9 HNB.out.bare (fun o ho => Nat.le_trans (HNB.out o ho).2 (by decide)) (fun b hb hm => by have := S3.out.lt hm; omega) R3.out (by have := T2.out.len; omega)).mono ?_; unfold BD; rw [HR1.out]; rintro e w4 ⟨v4, rfl, hr4, hb4⟩; obtain ⟨a4, c4, rfl⟩ := hr4.form; have T4 := hid (TW.mk (S3.out.bw hb4) hr4 (B3.out.trans hb4) L3.out); clear hr4 hb4)
    | (go_at_call 9; (fail_if_success (have _g := B5)); refine (all_any (fun b => b ∉ bs3) _ _ (T4.out.bw (by repeat (first | exact Bw.refl _ | apply Bw.lay | apply Bw.alloc | apply Bw.drewN | apply Bw.drew))).s (T4.out.bw (by repeat (first | exact Bw.refl _ | apply Bw.lay | apply Bw.alloc | apply Bw.drewN | apply Bw.drew))).r HNB1.out.neat T4.out.len).mono ?_; rintro e w5 ⟨rfl, hb5⟩; have B5 := hid (show Bw w4 w5 from Bw.trans (by repeat (first | exact Bw.refl _ | apply Bw.lay | apply Bw.alloc | apply Bw.drewN | apply Bw.drew)) hb5); have P5 := hid (Blk.bw (Blk.new w4 #[.int .i64 H1.1, .slice a4 H1.2.length c4] 32) hb5); have P5c0 : w5.cell? ⟨w4.heap.size, 0, none⟩ = some (.int .i64 H1.1) := P5.out.cell 0; have P5c1 : w5.cell? ⟨w4.heap.size, 1, none⟩ = some (.slice a4 H1.2.length c4) := P5.out.cell 1; have P5l : w4.heap.size < w5.heap.size := P5.out.lt; have T5 := hid (T4.out.bw B5.out); clear hb5)
    | (go_at_call 10; refine (neg_all a HUA.out (T5.out.bw (by repeat (first | exact Bw.refl _ | apply Bw.lay | apply Bw.alloc | apply Bw.drewN | apply Bw.drew))).s HNB1.out.k9).mono ?_; unfold BP; rw [HR2.out]; rintro e w6 ⟨rfl, bs6, hs6, hn6⟩; obtain ⟨hr6, hb6, hl6, hk6⟩ := (T5.out.bw (by repeat (first | exact Bw.refl _ | apply Bw.lay | apply Bw.alloc | apply Bw.drewN | apply Bw.drew))).gone hn6; have S6 := hid hs6; have R6 := hid hr6; have B6 := hid hb6; have L6 := hid hl6; have P6 := hid (hk6 w4.heap.size #[.int .i64 H1.1, .slice a4 H1.2.length c4] 32 P5.out (fun hm => by have := T4.out.s.lt hm; omega)); have P6c0 : w6.cell? ⟨w4.heap.size, 0, none⟩ = some (.int .i64 H1.1) := P6.out.cell 0; have P6c1 : w6.cell? ⟨w4.heap.size, 1, none⟩ = some (.slice a4 H1.2.length c4) := P6.out.cell 1; have P6l : w4.heap.size < w6.heap.size := P6.out.lt; clear hs6 hn6 hr6 hb6 hl6 hk6)
    | (go_at_call 11; refine (nneg_all (fun b => b ∉ bs6) _ H1 a HUA.out T5.out.s.ok HNB1.out.k9 (fun b hb hm => by have := S6.out.lt hm; omega) R6.out (by have := T5.out.len; omega)).mono ?_; unfold BD; rw [HR2.out]; rintro e w7 ⟨v7, rfl, hr7, hb7⟩; obtain ⟨a7, c7, rfl⟩ := hr7.form; have T7 := hid (TW.mk (S6.out.bw hb7) hr7 (B6.out.trans hb7) L6.out); clear hr7 hb7)
    | (go_at_call 9; have _g := B5; clear _g; refine (all_any (fun b => b ∉ bs6) _ _ (T7.out.bw (by repeat (first | exact Bw.refl _ | apply Bw.lay | apply Bw.alloc | apply Bw.drewN | apply Bw.drew))).s (T7.out.bw (by repeat (first | exact Bw.refl _ | apply Bw.lay | apply Bw.alloc | apply Bw.drewN | apply Bw.drew))).r HNB2.out.neat T7.out.len).mono ?_; rintro e w8 ⟨rfl, hb8⟩; have BW := hid (show Bw w w8 from T7.out.b.trans (Bw.trans (by repeat (first | exact Bw.refl _ | apply Bw.lay | apply Bw.alloc | apply Bw.drewN | apply Bw.drew)) hb8)); clear hb8)
    | (go_at_call 12; refine (Not_any a).mono ?_; rintro e w' ⟨rfl, hw'⟩; subst w')
    | (go_at_call 14; refine (ttruth_any a _).mono ?_; rintro e w' ⟨rfl, hw'⟩; subst w')
    | (go_at_call 13; refine (tbool_any _ _).mono ?_; rintro e w' ⟨rfl, hw'⟩; subst w')
    | (go_at_call 5; refine (live_any _ (HT.out.bw (BW.out.trans (by repeat (first | exact Bw.refl _ | apply Bw.lay | apply Bw.alloc | apply Bw.drewN | apply Bw.drew))))).mono ?_; rintro e wl ⟨rfl, hbl⟩; have BL := hid (BW.out.trans (Bw.trans (by repeat (first | exact Bw.refl _ | apply Bw.lay | apply Bw.alloc | apply Bw.drewN | apply Bw.drew)) hbl)); clear hbl)
    | fail)
  all_goals go_ret
  all_goals exact ⟨rfl, BL.out⟩

end Go.Proofs.YtjcoifdfemejkaaGreatDoor

