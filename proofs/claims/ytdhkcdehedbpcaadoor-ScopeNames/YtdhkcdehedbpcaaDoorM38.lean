/- scope.Resolve of the law's own example. · scope.Resolve of any list of which the plain model tells an answer. · The law's own example. -/
import Derived.Test.YtdhkcdehedbpcaaDoorM37
import Derived.Test.YtdhkcdehedbpcaaDoorM11
import Derived.Lib.SlBytesConst
set_option linter.unusedSimpArgs false
set_option linter.unusedVariables false
namespace Go.Proofs.YtdhkcdehedbpcaaDoor
open Go Go.RowKit

theorem live_small : (liveP.all fun n => decide (-9223372036854775808 ≤ n.2.1) && decide (n.2.1 ≤ 9223372036854775807) && (n.2.2.1.all fun c => decide (0 ≤ c) && decide (c ≤ 255)) && decide (n.2.2.1.length ≤ 9223372036854775807)) = true := by kernel_rfl
theorem live_nc {w : World} {base : Nat} {v : Value} (h : Nd w base v liveP) : ∃ g c, v = .slice (some ⟨g, 0, none⟩) 13 c ∧ NC w g 0 liveP := by
  have h' : w.ownsRow base 43 5 v liveP.length (liveP.flatMap ndV) := h
  rw [live_len] at h'
  obtain ⟨g, cap, e, hlt, hf, hc⟩ := own_some (own_base h' (Nat.zero_le _)) (by decide)
  refine ⟨g, cap, e, hlt, fun i hi j hj => ?_, fun i hi => ?_⟩
  · rw [Nat.zero_add, hc _ (by rw [live_len] at hi; omega)]
    exact flat_get8 ndV 5 (fun _ => rfl) liveP i j liveP[i] (List.getElem?_eq_getElem hi) hj
  · have h1 := List.all_eq_true.1 live_small liveP[i] (List.getElem_mem hi)
    simp only [Bool.and_eq_true, decide_eq_true_eq, List.all_eq_true] at h1
    exact ⟨h1.1.1, ⟨fun c hc => h1.1.2 c hc, h1.2⟩⟩

theorem NX.old {ρ ρ' : Nat → Nat} {w0 w w' : World} (h : NX ρ w w' ρ') (hb : Bw w0 w) (h0 : ∀ b, b < w0.heap.size → ρ b = 0) : Bw w0 w' ∧ ∀ b, b < w0.heap.size → ρ' b = 0 :=
  ⟨⟨h.os.trans hb.os, h.tape.trans hb.tape, h.output.trans hb.output, Nat.le_trans hb.size h.size, fun b hlt => (h.block b (Nat.lt_of_lt_of_le hlt hb.size) (h0 b hlt)).trans (hb.block b hlt)⟩, fun b hlt => h.new b (Nat.lt_of_lt_of_le hlt hb.size) (h0 b hlt)⟩

structure LiveR (w : World) (vf vg : Value) : Prop where
  f : ∃ fb fc cb cc, vf = .slice (some ⟨fb, 0, none⟩) 3 fc ∧ fb < w.heap.size ∧ w.cell? ⟨fb, 11, none⟩ = some (.slice (some ⟨cb, 0, none⟩) 1 cc) ∧ cb < w.heap.size ∧ w.cell? ⟨cb, 0, none⟩ = some (.int .i64 1)
  g : ∃ ga gc, vg = .slice ga 2 gc

set_option maxRecDepth 100000 in
set_option maxHeartbeats 8000000 in
theorem resolve_live {w : World} {g cap : Nat} (h : NC w g 0 liveP) (hh : Sh w) (hp : PrM w) : Calls Tryd.prog 10 #[.slice (some ⟨g, 0, none⟩) 13 cap] w fun e w' => ∃ vf ua uc vg, e = .returned (.tuple #[.agg #[vf, .slice ua 13 uc, vg], .int .i64 0, .int .i64 0]) ∧ LiveR w' vf vg ∧ Bw w w' := by
  have HCK := hid (fun (W : World) (hb : Bw w W) => (show Calls Tryd.prog 23 #[.slice (some ⟨g, 0, none⟩) 13 cap] W fun e w' => ∃ k : Int, e = .returned (.tuple #[.int .i64 k, .int .i64 0]) ∧ Bw W w' from by
    have := check_any g 0 cap liveP (by decide) (by decide) W (h.bw hb) (hh.bw hb)
    rw [live_checked] at this
    exact this.mono (by rintro e w' ⟨rfl, hb⟩; exact ⟨_, rfl, hb⟩)))
  have HNR := hid (fun (W : World) (hb : Bw w W) => newResolver_any g 0 cap liveP (by decide) (by decide) 2 (by exact live_n) (by decide) (h.bw hb) (hp.bw hb) live_globA)
  have HB0 := hid (fun (o : Obj) => Bw.alloc (Bw.refl w) o)
  have HPG := hid (show zR liveP liveA 60 (.parts (zN liveP 0).2.1) (zstart liveP) = some liveZ by rw [live_n]; exact live_resZ)
  have HL0 := hid (show 0 < liveP.length by decide)
  clear h hh hp
  go_enter Tryd.func10, Tryd.ntmps10
  go_upto_region 6 with (first
    | (go_at_call 23; refine (HCK.out _ (HB0.out _)).mono ?_; rintro e w1 ⟨k, rfl, hb1⟩; have B1 := hid ((HB0.out _).trans hb1); have P1 := hid (Blk.bw (Blk.new w #[.slice none 0 0, .slice none 0 0, .slice none 0 0] 31) hb1); clear hb1)
    | (go_at_call 24; refine (HNR.out _ B1.out).mono ?_; rintro e w2 ⟨r, ab, B, rfl, hr2, hb2, h02⟩; have R2 := hid hr2; have B2 := hid hb2; have Z2 := hid h02; clear hr2 hb2 h02)
    | (go_at_call 25; refine (program_any R2.out HL0.out 60 liveZ HPG.out).mono ?_; rintro e w3 ⟨rfl, B3, hr3, hn3⟩; have R3 := hid hr3; have N3 := hid hn3; clear hr3 hn3)
    | fail)
  obtain ⟨O3, Z3⟩ := N3.out.old B2.out Z2.out
  have O3 := hid O3
  have Z3 := hid Z3
  have P3 := hid (P1.out.bw O3.out)
  have q11 : w3.cell? ⟨r, 11, none⟩ = some (.int .i64 0) := by have := R3.out.blk.cell 11; rw [this]; show some (Value.int .i64 liveZ.fault) = _; rw [live_fault]
  have rl := R3.out.blk.lt
  have hfit : ∀ u ∈ liveZ.uses, zfit liveZ u = true := List.all_eq_true.1 live_fit
  have HFIT := hid hfit
  clear hfit
  have hK3 : B3.K.length = 3 := by have h1 := congrArg List.length R3.out.x.kf; rw [List.length_map] at h1; rw [h1]; exact live_funs
  have HK3 := hid hK3
  clear hK3
  go_upto_region 9 with (first
    | (go_at_call 26; refine (whole_any R3.out HFIT.out).mono ?_; rintro e w4 ⟨vf, he, hf4, hr4, hn4, ho4⟩; (obtain ⟨fa, fc, hvf⟩ := own_form hf4); (obtain ⟨ua, uc, huv⟩ := own_form (hr4.x.uses (by decide)).1); (obtain ⟨ga, gc, hgv⟩ := own_form (hr4.x.globs (by decide)).1); rw [HK3.out] at hvf; rw [show (List.map (zend liveZ) liveZ.uses).length = 13 from (by rw [List.length_map, R3.out.x.ul]; exact live_len)] at huv; rw [show liveZ.globals.length = 2 from live_globs] at hgv; rw [huv, hgv] at he; subst hvf; subst he; have F4 := hid hf4; have R4 := hid hr4; have N4 := hid hn4; have OW4 := hid ho4; have P4 := hid (P3.out.keep (hn4.block _ P3.out.lt (Z3.out _ P1.out.lt))); have p0 := P4.out.cell; have pf := P4.out.free; have pl := P4.out.lt; clear hf4 hr4 hn4 ho4 huv hgv)
    | fail)
  all_goals refine bodyPost_ret (v := .tuple #[.agg #[.slice fa 3 fc, .slice ua 13 uc, .slice ga 2 gc], .int .i64 0, .int .i64 0]) (by simp [results, Tryd.results10, go_sem, *]) rfl ?_
  all_goals
    obtain ⟨O4, Z4⟩ := N4.out.old O3.out Z3.out
    have hlw := P1.out.lt
    have hww := B1.out.size
    have hw3 := O3.out.size
    have f4 := F4.out
    rw [HK3.out] at f4
    obtain ⟨fb, fc', efa, fl, _, fcell⟩ := own_some f4 (by decide)
    have hfa : fa = some ⟨fb, 0, none⟩ := by cases efa; rfl
    subst hfa
    have hfn : fb ≠ w.heap.size := by have := OW4.out fb rfl; omega
    obtain ⟨k2, hk2⟩ : ∃ k2, B3.K[2]? = some k2 := ⟨_, List.getElem?_eq_getElem (by rw [HK3.out]; decide)⟩
    have hcaps : k2.f.caps = [(1, 0)] := by
      have h1 : liveZ.funs[2]? = some k2.f := by have h2 := R4.out.x.kf; have h3 : (B3.K.map FK.f)[2]? = some k2.f := by rw [List.getElem?_map, hk2]; rfl
                                                 rw [h2] at h3; exact h3
      have h4 := live_caps
      rw [List.getD_eq_getElem?_getD, h1] at h4
      exact h4
    obtain ⟨hc1, hc2⟩ := R4.out.x.caps 2 k2 hk2 (by decide)
    rw [hcaps] at hc1
    obtain ⟨cb, cc, ecv, cl, _, ccell⟩ := own_some hc1 (by decide)
    have hcn : cb ≠ w.heap.size := fun e => by
      have h1 := hc2 cb (by rw [ecv]; rfl)
      have h2 := Z4 w.heap.size hlw
      rw [e, h2] at h1
      cases h1
    have e11 : w4.cell? ⟨fb, 11, none⟩ = some (.slice (some ⟨cb, 0, none⟩) 1 cc) := by
      rw [fcell 11 (by decide), show (11 : Nat) = 2 * 4 + 3 from rfl, flat_get8 fnC 4 (fun _ => rfl) B3.K 2 3 k2 hk2 (by decide)]
      show some k2.cv = _
      rw [ecv]; rfl
    have e0 : w4.cell? ⟨cb, 0, none⟩ = some (.int .i64 1) := by rw [ccell 0 (by decide)]; rfl
    refine ⟨_, ua, uc, _, rfl, ⟨⟨fb, fc, cb, cc, rfl, by simp [World.setCell]; exact fl, ?_, by simp [World.setCell]; exact cl, ?_⟩, ⟨ga, gc, rfl⟩⟩, ?_⟩
    · rw [← e11]
      have hw : ∀ (W : World) (j : Nat) (v : Value), (W.setCell ⟨w.heap.size, j, none⟩ v).cell? ⟨fb, 11, none⟩ = W.cell? ⟨fb, 11, none⟩ := fun W j v => World.cell?_of_block (a := ⟨fb, 11, none⟩) (Below.heap_setCell W _ v fb hfn)
      rw [hw, hw, hw]
    · rw [← e0]
      have hw : ∀ (W : World) (j : Nat) (v : Value), (W.setCell ⟨w.heap.size, j, none⟩ v).cell? ⟨cb, 0, none⟩ = W.cell? ⟨cb, 0, none⟩ := fun W j v => World.cell?_of_block (a := ⟨cb, 0, none⟩) (Below.heap_setCell W _ v cb hcn)
      rw [hw, hw, hw]
    · exact (((B1.out.trans O4).setCell (Nat.le_refl _) _).setCell (Nat.le_refl _) _).setCell (Nat.le_refl _) _

end Go.Proofs.YtdhkcdehedbpcaaDoor

namespace Go.Proofs.YtdhkcdehedbpcaaDoor
open Go Go.RowKit

structure ScM (w : World) (vf vu vg : Value) (z : ZS) : Prop where
  f : ∃ K : List FK, K.map FK.f = z.funs ∧ w.ownsRow 0 49 4 vf K.length (K.flatMap fnC) ∧ ∀ (i : Nat) (k : FK), K[i]? = some k → w.ownsRow 0 59 2 k.cv k.f.caps.length (rowP k.f.caps)
  u : w.ownsRow 0 57 2 vu z.uses.length (rowP (z.uses.map (zend z)))
  g : w.ownsRow 0 9 1 vg z.globals.length (z.globals.map Value.string)

theorem ScM.bw {w w' : World} {vf vu vg : Value} {z : ZS} (h : ScM w vf vu vg z) (hb : Bw w w') : ScM w' vf vu vg z := by
  obtain ⟨K, h1, h2, h3⟩ := h.f
  exact ⟨⟨K, h1, own_keep8 h2 (fun b e => hb.block b (h2.lt b e).2), fun i k hk => own_keep8 (h3 i k hk) (fun b e => hb.block b ((h3 i k hk).lt b e).2)⟩, own_keep8 h.u (fun b e => hb.block b (h.u.lt b e).2), own_keep8 h.g (fun b e => hb.block b (h.g.lt b e).2)⟩

section
variable {w : World} {g o cap n : Nat} {L : List ANode} {A : ByteArray → Option Int}

set_option maxRecDepth 100000 in
set_option maxHeartbeats 8000000 in
theorem Resolve_no (h0 : 0 < L.length) (hl : L.length ≤ 1000) (h : NC w g o L) (hh : Sh w) (hc : (ckP L).2 ≠ 0) : Calls Tryd.prog 10 #[.slice (some ⟨g, o, none⟩) L.length cap] w fun e w' => e = .returned (.tuple #[.agg #[.slice none 0 0, .slice none 0 0, .slice none 0 0], .int .i64 (ckP L).2, .int .i64 0]) ∧ Bw w w' := by
  have HCK := hid (fun (W : World) (hb : Bw w W) => check_any g o cap L h0 hl W (h.bw hb) (hh.bw hb))
  have e1 : ((ckP L).2 != 0) = true := by simpa using hc
  have HB0 := hid (fun (o : Obj) => Bw.alloc (Bw.refl w) o)
  clear h hh hc
  generalize (ckP L).2 = er at HCK e1 ⊢
  generalize (ckP L).1 = k at HCK
  go_enter Tryd.func10, Tryd.ntmps10
  go_wp2_with (first
    | (go_at_call 23; refine (HCK.out _ (HB0.out _)).mono ?_; rintro e w1 ⟨rfl, hb1⟩; have B1 := hid ((HB0.out _).trans hb1); have P1 := hid (Blk.bw (Blk.new w #[.slice none 0 0, .slice none 0 0, .slice none 0 0] 31) hb1); have p0 := P1.out.cell; have pf := P1.out.free; have pl := P1.out.lt; clear hb1)
    | fail)
  all_goals refine bodyPost_ret (v := .tuple #[.agg #[.slice none 0 0, .slice none 0 0, .slice none 0 0], .int .i64 er, .int .i64 0]) (by simp [results, Tryd.results10, go_sem, *]) rfl ?_
  all_goals exact ⟨rfl, ((B1.out.setCell (Nat.le_refl _) _).setCell (Nat.le_refl _) _).setCell (Nat.le_refl _) _⟩

set_option maxRecDepth 100000 in
set_option maxHeartbeats 8000000 in
theorem Resolve_bad (h0 : 0 < L.length) (hl : L.length ≤ 1000) (hn : (zN L 0).2.1 = (n : Int)) (hn5 : n ≤ 1000) (h : NC w g o L) (hh : Sh w) (hp : PrM w) (hc : (ckP L).2 = 0) (hg : globA L n 1 (fun _ => none) 0 = some A) (t : Nat) (z : ZS) (hz : zR L A t (.parts n) (zstart L) = some z) (hf : z.fault ≠ 0) (hfy : z.faulty < L.length) :
    Calls Tryd.prog 10 #[.slice (some ⟨g, o, none⟩) L.length cap] w fun e w' => e = .returned (.tuple #[.agg #[.slice none 0 0, .slice none 0 0, .slice none 0 0], .int .i64 z.fault, .int .i64 (zN L z.faulty).2.2.2.2]) ∧ Bw w w' := by
  have hL0 : L[0].2.1 = (n : Int) := by have e : zN L 0 = L[0] := by unfold zN; rw [List.getD_eq_getElem?_getD, List.getElem?_eq_getElem h0]; rfl
                                        rw [← e]; exact hn
  have HCK := hid (fun (W : World) (hb : Bw w W) => (show Calls Tryd.prog 23 #[.slice (some ⟨g, o, none⟩) L.length cap] W fun e w' => ∃ k : Int, e = .returned (.tuple #[.int .i64 k, .int .i64 0]) ∧ Bw W w' from by
    have := check_any g o cap L h0 hl W (h.bw hb) (hh.bw hb)
    rw [hc] at this
    exact this.mono (by rintro e w' ⟨rfl, hb⟩; exact ⟨_, rfl, hb⟩)))
  have HNR := hid (fun (W : World) (hb : Bw w W) => newResolver_any g o cap L h0 hl n hL0 hn5 (h.bw hb) (hp.bw hb) hg)
  have HPG := hid (show zR L A t (.parts (zN L 0).2.1) (zstart L) = some z by rw [hn]; exact hz)
  have HL0 := hid h0
  have HB0 := hid (fun (o : Obj) => Bw.alloc (Bw.refl w) o)
  have e1 : (z.fault != 0) = true := by simpa using hf
  have HNC := hid h
  have HFY := hid hfy
  have hf2 : (z.faulty : Int) < (L.length : Int) := by omega
  have ca : w.cell? ⟨g, o + z.faulty * 5 + 4, none⟩ = some (.int .i64 (zN L z.faulty).2.2.2.2) := by
    have e : zN L z.faulty = L[z.faulty] := by unfold zN; rw [List.getD_eq_getElem?_getD, List.getElem?_eq_getElem hfy]; rfl
    rw [h.c z.faulty hfy 4 (by omega), e]; rfl
  have CA := hid ca
  have GL := hid h.lt
  clear h hh hp hc hg hz hf hfy hL0 ca
  generalize (zN L z.faulty).2.2.2.2 = at_ at CA ⊢
  go_enter Tryd.func10, Tryd.ntmps10
  go_upto_region 6 with (first
    | (go_at_call 23; refine (HCK.out _ (HB0.out _)).mono ?_; rintro e w1 ⟨k, rfl, hb1⟩; have B1 := hid ((HB0.out _).trans hb1); have P1 := hid (Blk.bw (Blk.new w #[.slice none 0 0, .slice none 0 0, .slice none 0 0] 31) hb1); clear hb1)
    | (go_at_call 24; refine (HNR.out _ B1.out).mono ?_; rintro e w2 ⟨r, ab, B, rfl, hr2, hb2, h02⟩; have R2 := hid hr2; have B2 := hid hb2; have Z2 := hid h02; clear hr2 hb2 h02)
    | (go_at_call 25; refine (program_any R2.out HL0.out t z HPG.out).mono ?_; rintro e w3 ⟨rfl, B3, hr3, hn3⟩; have R3 := hid hr3; have N3 := hid hn3; clear hr3 hn3)
    | fail)
  obtain ⟨O3, Z3⟩ := N3.out.old B2.out Z2.out
  have O3 := hid O3
  have P3 := P1.out.bw O3.out
  have B3' := B1.out.trans O3.out
  have p0 := P3.cell
  have pf := P3.free
  have pl := P3.lt
  have q11 : w3.cell? ⟨r, 11, none⟩ = some (.int .i64 z.fault) := R3.out.blk.cell 11
  have q12 : w3.cell? ⟨r, 12, none⟩ = some (.int .i64 z.faulty) := R3.out.blk.cell 12
  have rl := R3.out.blk.lt
  have gl : g < w3.heap.size := Nat.lt_of_lt_of_le GL.out B3'.size
  have ca3 : w3.cell? ⟨g, o + z.faulty * 5 + 4, none⟩ = some (.int .i64 at_) := by rw [← CA.out]; exact World.cell?_of_block (a := ⟨g, o + z.faulty * 5 + 4, none⟩) (B3'.block g GL.out)
  have HB3 := hid B3'
  clear P3 B3'
  go_upto_region 7 with fail
  go_region
  all_goals go_wp2
  all_goals refine bodyPost_ret (v := .tuple #[.agg #[.slice none 0 0, .slice none 0 0, .slice none 0 0], .int .i64 z.fault, .int .i64 at_]) (by simp [results, Tryd.results10, go_sem, *]) rfl ?_
  all_goals refine ⟨rfl, ?_⟩
  all_goals repeat (first | exact HB3.out | apply Bw.drew | apply Bw.drewN | (refine Bw.setCell ?_ (Nat.le_refl _) _))

set_option maxRecDepth 100000 in
set_option maxHeartbeats 8000000 in
theorem Resolve_ok (h0 : 0 < L.length) (hl : L.length ≤ 1000) (hn : (zN L 0).2.1 = (n : Int)) (hn5 : n ≤ 1000) (h : NC w g o L) (hh : Sh w) (hp : PrM w) (hc : (ckP L).2 = 0) (hg : globA L n 1 (fun _ => none) 0 = some A) (t : Nat) (z : ZS) (hz : zR L A t (.parts n) (zstart L) = some z) (hf : z.fault = 0) (hfit : ∀ u ∈ z.uses, zfit z u = true) :
    Calls Tryd.prog 10 #[.slice (some ⟨g, o, none⟩) L.length cap] w fun e w' => ∃ vf vu vg, e = .returned (.tuple #[.agg #[vf, vu, vg], .int .i64 0, .int .i64 0]) ∧ ScM w' vf vu vg z ∧ (∃ a c, vf = .slice a z.funs.length c) ∧ (∃ a c, vu = .slice a L.length c) ∧ (∃ a c, vg = .slice a z.globals.length c) ∧ z.uses.length = L.length ∧ Bw w w' := by
  have hL0 : L[0].2.1 = (n : Int) := by have e : zN L 0 = L[0] := by unfold zN; rw [List.getD_eq_getElem?_getD, List.getElem?_eq_getElem h0]; rfl
                                        rw [← e]; exact hn
  have HCK := hid (fun (W : World) (hb : Bw w W) => (show Calls Tryd.prog 23 #[.slice (some ⟨g, o, none⟩) L.length cap] W fun e w' => ∃ k : Int, e = .returned (.tuple #[.int .i64 k, .int .i64 0]) ∧ Bw W w' from by
    have := check_any g o cap L h0 hl W (h.bw hb) (hh.bw hb)
    rw [hc] at this
    exact this.mono (by rintro e w' ⟨rfl, hb⟩; exact ⟨_, rfl, hb⟩)))
  have HNR := hid (fun (W : World) (hb : Bw w W) => newResolver_any g o cap L h0 hl n hL0 hn5 (h.bw hb) (hp.bw hb) hg)
  have HPG := hid (show zR L A t (.parts (zN L 0).2.1) (zstart L) = some z by rw [hn]; exact hz)
  have HL0 := hid h0
  have HB0 := hid (fun (o : Obj) => Bw.alloc (Bw.refl w) o)
  have HFIT := hid hfit
  have HF := hid hf
  clear h hh hp hc hg hz hf hL0 hfit
  go_enter Tryd.func10, Tryd.ntmps10
  go_upto_region 6 with (first
    | (go_at_call 23; refine (HCK.out _ (HB0.out _)).mono ?_; rintro e w1 ⟨k, rfl, hb1⟩; have B1 := hid ((HB0.out _).trans hb1); have P1 := hid (Blk.bw (Blk.new w #[.slice none 0 0, .slice none 0 0, .slice none 0 0] 31) hb1); clear hb1)
    | (go_at_call 24; refine (HNR.out _ B1.out).mono ?_; rintro e w2 ⟨r, ab, B, rfl, hr2, hb2, h02⟩; have R2 := hid hr2; have B2 := hid hb2; have Z2 := hid h02; clear hr2 hb2 h02)
    | (go_at_call 25; refine (program_any R2.out HL0.out t z HPG.out).mono ?_; rintro e w3 ⟨rfl, B3, hr3, hn3⟩; have R3 := hid hr3; have N3 := hid hn3; clear hr3 hn3)
    | fail)
  obtain ⟨O3, Z3⟩ := N3.out.old B2.out Z2.out
  have O3 := hid O3
  have Z3 := hid Z3
  have P3 := hid (P1.out.bw O3.out)
  have q11 : w3.cell? ⟨r, 11, none⟩ = some (.int .i64 0) := by have := R3.out.blk.cell 11; rw [this]; show some (Value.int .i64 z.fault) = _; rw [HF.out]
  have rl := R3.out.blk.lt
  obtain ⟨nf, hnf⟩ : ∃ nf, z.funs.length = nf := ⟨_, rfl⟩
  have hK3 : B3.K.length = nf := by have h1 := congrArg List.length R3.out.x.kf; rw [List.length_map] at h1; rw [h1]; exact hnf
  have HK3 := hid hK3
  have HNF := hid hnf
  have HUL := hid R3.out.x.ul
  obtain ⟨ng, hng⟩ : ∃ ng, z.globals.length = ng := ⟨_, rfl⟩
  have HNG := hid hng
  clear hK3 hnf hng
  go_upto_region 9 with (first
    | (go_at_call 26; refine (whole_any R3.out HFIT.out).mono ?_; rintro e w4 ⟨vf, he, hf4, hr4, hn4, ho4⟩; (obtain ⟨fa, fc, hvf⟩ := own_form hf4); (obtain ⟨ua, uc, huv⟩ := own_form (hr4.x.uses (by decide)).1); (obtain ⟨ga, gc, hgv⟩ := own_form (hr4.x.globs (by decide)).1); rw [HK3.out] at hvf; rw [show (List.map (zend z) z.uses).length = L.length from (by rw [List.length_map]; exact HUL.out)] at huv; rw [HNG.out] at hgv; rw [huv, hgv] at he; subst hvf; subst he; have F4 := hid hf4; have R4 := hid hr4; have N4 := hid hn4; have OW4 := hid ho4; have HGV := hid hgv; have HUV := hid huv; have P4 := hid (P3.out.keep (hn4.block _ P3.out.lt (Z3.out _ P1.out.lt))); have p0 := P4.out.cell; have pf := P4.out.free; have pl := P4.out.lt; clear hf4 hr4 hn4 ho4 huv hgv)
    | fail)
  all_goals refine bodyPost_ret (v := .tuple #[.agg #[.slice fa nf fc, .slice ua L.length uc, .slice ga ng gc], .int .i64 0, .int .i64 0]) (by simp [results, Tryd.results10, go_sem, *]) rfl ?_
  all_goals
    obtain ⟨O4, Z4⟩ := N4.out.old O3.out Z3.out
    have hlw := P1.out.lt
    have hww := B1.out.size
    have hw3 := O3.out.size
    have hkeep : ∀ (b : Nat), b ≠ w.heap.size → ∀ (v0 v1 v2 : Value), (((w4.setCell ⟨w.heap.size, 0, none⟩ v0).setCell ⟨w.heap.size, 1, none⟩ v1).setCell ⟨w.heap.size, 2, none⟩ v2).heap[b]? = w4.heap[b]? := fun b hb v0 v1 v2 => by
      rw [Below.heap_setCell _ _ _ b hb, Below.heap_setCell _ _ _ b hb, Below.heap_setCell _ _ _ b hb]
    have role : ∀ {b j : Nat}, B3.ρ b = j → j ≠ 0 → b ≠ w.heap.size := fun e hj k => hj (by rw [← e, k]; exact Z4 _ hlw)
    have hu4 := R4.out.x.uses (by decide)
    rw [HUV.out] at hu4
    have hg4 := R4.out.x.globs (by decide)
    rw [HGV.out] at hg4
    have f4 := F4.out
    refine ⟨_, _, _, rfl, ⟨⟨B3.K, R4.out.x.kf, own_keep8 f4 (fun b e => hkeep b (by have := OW4.out b e; omega) _ _ _), fun i k hk => own_keep8 (R4.out.x.caps i k hk (by omega)).1 (fun b e => hkeep b (role ((R4.out.x.caps i k hk (by omega)).2 b e) (by omega)) _ _ _)⟩, ?_, ?_⟩, ⟨fa, fc, by rw [HNF.out]⟩, ⟨ua, uc, rfl⟩, ⟨ga, gc, by rw [HNG.out]⟩, HUL.out, (((B1.out.trans O4).setCell (Nat.le_refl _) _).setCell (Nat.le_refl _) _).setCell (Nat.le_refl _) _⟩
    · have h5 : w4.ownsRow 0 57 2 (.slice ua L.length uc) (List.map (zend z) z.uses).length (rowP (z.uses.map (zend z))) := hu4.1
      rw [List.length_map] at h5
      exact own_keep8 h5 (fun b e => hkeep b (role (hu4.2 b e) (by decide)) _ _ _)
    · exact own_keep8 hg4.1 (fun b e => hkeep b (role (hg4.2 b e) (by decide)) _ _ _)
end
end Go.Proofs.YtdhkcdehedbpcaaDoor

namespace Go.Proofs.YtdhkcdehedbpcaaDoor
open Go Go.RowKit

theorem by_alloc8 (w : World) (l : List Int) (fr : Nat × Nat) (hl : l.length ≤ 9223372036854775807) (hb : ∀ c ∈ l, 0 ≤ c ∧ c ≤ 255) : By (w.alloc (.cells (l.map (Value.int .u8)).toArray 5 fr)) (.slice (some ⟨w.heap.size, 0, none⟩) l.length l.length) l := by
 refine ⟨⟨by simp, _, _, rfl, ⟨Nat.le_refl _, fun h => by cases h⟩, .inr ⟨w.heap.size, 0, rfl, by simp, trivial, fun i hi => ?_⟩⟩, hb, hl⟩
 rw [World.cell?_alloc_mark]
 simp
theorem num_any (n : Int) (w : World) :
  Calls Tryd.prog 13 #[.int .i64 n] w fun e w' => e = .returned (.int .i64 n) ∧ w' = w := by
 go_enter Tryd.func13, Tryd.ntmps13
 go_wp2
 go_ret
 exact ⟨rfl, rfl⟩

theorem prim_len {w : World} (h : PrM w) : Calls Tryd.prog 19 #[.string ⟨#[108, 101, 110]⟩] w fun e w' => e = .returned (.tuple #[.int .i64 1, .bool true]) ∧ Bw w w' := by
 have h1 := prim_any h ⟨#[108, 101, 110]⟩
 rw [show primF ⟨#[108, 101, 110]⟩ = some 1 from by kernel_rfl] at h1
 exact h1

set_option maxRecDepth 100000 in
set_option maxHeartbeats 8000000 in
theorem live_any (w : World) (hh : Sh w) (hp : PrM w) : Calls Tryd.prog 8 #[] w fun e w' => e = .returned (.bool true) ∧ Bw w w' := by
 have HH := hid hh
 have HP := hid hp
 clear hh hp
 have hcv := fun (W : World) (C : Array Value) (n c : Nat) => Lib.run_convert_bytes_const (P := Tryd.prog) W 22 5 C n c under22 under5
 go_enter Tryd.func8, Tryd.ntmps8
 go_upto_region 2 with (first
  | (go_at_call 9; refine (live_parsed (by_alloc8 w liveB _ (by decide) (by decide))).mono ?_; rintro e w1 ⟨a1, c1, rfl, hn1, hb1⟩; have HB1 := hid (Bw.trans (Bw.alloc (Bw.refl w) _) hb1); obtain ⟨g, c, e1, hnc⟩ := live_nc hn1; (obtain ⟨e2, e3⟩ : a1 = some ⟨g, 0, none⟩ ∧ c1 = c := by cases e1; exact ⟨rfl, rfl⟩); subst e2 e3; have HNC := hid hnc; clear hn1 hb1 e1 hnc)
  | fail)
 clear hcv
 go_upto_region 3 with (first
  | (go_at_call 10; refine (resolve_live HNC.out (HH.out.bw HB1.out) (HP.out.bw HB1.out)).mono ?_; rintro e w2 ⟨vf, ua, uc, vg, he, hr, hb2⟩; (obtain ⟨⟨fb, fc, cb, cc, e1, fl, q11, cl, q0⟩, ⟨ga, gc, e2⟩⟩ := hr); subst e1; subst e2; subst he; have HB2 := hid (HB1.out.trans hb2); have HQ := hid (And.intro q11 q0); have HL := hid (And.intro fl cl); clear hb2 q11 q0 fl cl)
  | fail)
 have S2 := hid (Blk.new w2 #[.slice (some ⟨fb, 0, none⟩) 3 fc, .slice ua 13 uc, .slice ga 2 gc] 31)
 have BW2 := hid (Bw.alloc (Bw.refl w2) (.cells #[.slice (some ⟨fb, 0, none⟩) 3 fc, .slice ua 13 uc, .slice ga 2 gc] 31))
 go_upto_region 4 with (first
  | (go_at_call 10; refine (resolve_nil _).mono ?_; rintro e w3 ⟨rfl, hb3⟩; have HB3 := hid hb3; clear hb3)
  | fail)
 have BW3 := hid (HB3.out.alloc (.cells #[.slice none 0 0, .slice none 0 0, .slice none 0 0] 31))
 go_upto_region 5 with (first
  | (go_at_call 19; refine (prim_len (HP.out.bw ((HB2.out.trans BW2.out).trans BW3.out))).mono ?_; rintro e w4 ⟨rfl, hb4⟩; have HB4 := hid hb4; clear hb4)
  | fail)
 have B24 := hid (BW3.out.trans HB4.out)
 have B4 := hid (BW2.out.trans B24.out)
 have S4 := S2.out.bw B24.out
 have s0 := S4.cell 0
 have s1 := S4.cell 1
 have s2 := S4.cell 2
 simp only [List.getElem?_toArray, List.getElem?_cons_zero, List.getElem?_cons_succ] at s0 s1 s2
 have sl := S4.lt
 have f11 : w4.cell? ⟨fb, 11, none⟩ = some (.slice (some ⟨cb, 0, none⟩) 1 cc) := by rw [← HQ.out.1]; exact World.cell?_of_block (a := ⟨fb, 11, none⟩) (B4.out.block fb HL.out.1)
 have f0 : w4.cell? ⟨cb, 0, none⟩ = some (.int .i64 1) := by rw [← HQ.out.2]; exact World.cell?_of_block (a := ⟨cb, 0, none⟩) (B4.out.block cb HL.out.2)
 have fl := Nat.lt_of_lt_of_le HL.out.1 B4.out.size
 have cl := Nat.lt_of_lt_of_le HL.out.2 B4.out.size
 clear S4
 go_wp2_with (first
  | (go_at_call 13; refine (num_any _ _).mono ?_; rintro e w' ⟨rfl, hw'⟩; subst w')
  | fail)
 all_goals go_ret
 all_goals exact ⟨rfl, HB2.out.trans B4.out⟩

end Go.Proofs.YtdhkcdehedbpcaaDoor

