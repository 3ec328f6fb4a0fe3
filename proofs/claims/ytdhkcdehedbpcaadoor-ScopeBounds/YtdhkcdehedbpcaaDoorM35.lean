/- The closed text of the law's own example, read by the document's Parse. · No nodes: Check, Resolve; the law's own example is well made. · The law's own example, resolved as plain data. · scope.Resolve of the law's own example. -/
import Derived.Test.YtdhkcdehedbpcaaDoorM19
import Derived.Test.YtdhkcdehedbpcaaDoorM24
import Derived.Test.YtdhkcdehedbpcaaDoorM34
set_option linter.unusedSimpArgs false
set_option linter.unusedVariables false
namespace Go.Proofs.YtdhkcdehedbpcaaDoor
open Go Go.RowKit

def liveB : List Int := [118, 97, 114, 32, 120, 32, 61, 32, 49, 59, 32, 102, 110, 32, 102, 40, 97, 41, 32, 123, 32, 114, 101, 116, 117, 114, 110, 32, 102, 110, 32, 40, 41, 32, 123, 32, 114, 101, 116, 117, 114, 110, 32, 97, 32, 43, 32, 120, 59, 32, 125, 59, 32, 125]
def liveL : List ANode := [(3, 1, [120], 0, 0), (14, 0, [], 1, 8), (12, 2, [102], 1, 11), (19, 0, [97], 0, 16), (2, 1, [], 0, 19), (9, 1, [], 0, 21), (31, 1, [], 0, 28), (2, 1, [], 0, 34), (9, 1, [], 0, 36), (23, 2, [43], 0, 43), (19, 0, [97], 0, 43), (19, 0, [120], 0, 47)]

theorem live_lexed : (lexA liveB).2.1 = 0 ∧ (lexA liveB).1.length = 25 ∧ liveB.length = 54 := by decide +kernel
theorem live_endT : EndT8 (lexA liveB).1 := by unfold EndT8; decide +kernel
theorem live_read : dProgL (lexA liveB).1 200 [] 0 ⟨0, 0, 0⟩ = some (liveL, 2, ⟨24, 0, 0⟩) := by kernel_rfl

theorem live_parsed {w : World} {v : Value} (h : By w v liveB) : Calls Tryd.prog 9 #[v] w fun e w' => ∃ a c, e = .returned (.tuple #[.slice a 13 c, .int .i64 0, .int .i64 54]) ∧ Nd w' w.heap.size (.slice a 13 c) (dJoin (1, 0, [], 0, 0) 2 liveL) ∧ Bw w w' := by
  obtain ⟨h1, h2, h3⟩ := live_lexed
  exact rParse_any h (by omega) h1 (by omega) (by omega) live_endT live_read (by decide) (by decide) rfl

end Go.Proofs.YtdhkcdehedbpcaaDoor

set_option linter.unusedSimpArgs false
set_option linter.unusedVariables false
namespace Go.Proofs.YtdhkcdehedbpcaaDoor
open Go Go.RowKit

def liveP : List ANode := dJoin (1, 0, [], 0, 0) 2 liveL
theorem live_checked : (ckP liveP).2 = 0 := by kernel_rfl

section
variable (w : World)

set_option maxRecDepth 100000 in
set_option maxHeartbeats 4000000 in
theorem check_nil : Calls Tryd.prog 23 #[.slice none 0 0] w fun e w' => e = .returned (.tuple #[.int .i64 0, .int .i64 6]) ∧ Bw w w' := by
  go_enter Tryd.func23, Tryd.ntmps23
  go_wp2
  all_goals go_ret2
  all_goals exact ⟨rfl, by repeat (first | exact Bw.refl _ | apply Bw.alloc | apply Bw.drewN | apply Bw.drew)⟩

set_option maxRecDepth 100000 in
set_option maxHeartbeats 4000000 in
theorem resolve_nil : Calls Tryd.prog 10 #[.slice none 0 0] w fun e w' => e = .returned (.tuple #[.agg #[.slice none 0 0, .slice none 0 0, .slice none 0 0], .int .i64 6, .int .i64 0]) ∧ Bw w w' := by
  go_enter Tryd.func10, Tryd.ntmps10
  go_wp2_with (first
    | (go_at_call 23; refine (check_nil _).mono ?_; rintro e w1 ⟨rfl, hb1⟩; have B1 := hid (show Bw w w1 from Bw.trans bq hb1); have p3 : Blk w1 w.heap.size #[.slice none 0 0, .slice none 0 0, .slice none 0 0] 31 := Blk.bw (w := w.alloc _) (Blk.new w _ _) (Bw.trans bq hb1); have P3 := hid p3; have z := p3.cell; have zf := p3.free; have zl := p3.lt; clear hb1 p3)
    | fail)
  refine bodyPost_ret (v := .tuple #[.agg #[.slice none 0 0, .slice none 0 0, .slice none 0 0], .int .i64 6, .int .i64 0]) (by simp [results, Tryd.results10, go_sem, *]) rfl ?_
  exact ⟨rfl, ((B1.out.setCell (Nat.le_refl _) _).setCell (Nat.le_refl _) _).setCell (Nat.le_refl _) _⟩

end

end Go.Proofs.YtdhkcdehedbpcaaDoor

set_option linter.unusedSimpArgs false
set_option linter.unusedVariables false
namespace Go.Proofs.YtdhkcdehedbpcaaDoor
open Go Go.RowKit

def liveA : ByteArray → Option Int := (globA liveP 2 1 (fun _ => none) 0).getD fun _ => none
def liveO : Option ZS := zR liveP liveA 60 (.parts 2) (zstart liveP)
def liveZ : ZS := liveO.getD default
theorem live_glob : (globA liveP 2 1 (fun _ => none) 0).isSome = true := by kernel_rfl
theorem live_globA : globA liveP 2 1 (fun _ => none) 0 = some liveA := by
  obtain ⟨A, hA⟩ := Option.isSome_iff_exists.1 live_glob
  unfold liveA
  rw [hA]; rfl
theorem live_res : liveO.isSome = true := by kernel_rfl
theorem live_resZ : zR liveP liveA 60 (.parts 2) (zstart liveP) = some liveZ := by
  obtain ⟨A, hA⟩ := Option.isSome_iff_exists.1 live_res
  have h : liveO = some liveZ := by unfold liveZ; rw [hA]; rfl
  exact h
theorem live_fault : liveZ.fault = 0 := by kernel_rfl
theorem live_funs : liveZ.funs.length = 3 := by kernel_rfl
theorem live_caps : (liveZ.funs.getD 2 default).caps = [(1, 0)] := by kernel_rfl
theorem live_globs : liveZ.globals.length = 2 := by kernel_rfl
theorem live_fit : (liveZ.uses.all (zfit liveZ)) = true := by kernel_rfl
theorem live_len : liveP.length = 13 := by kernel_rfl
theorem live_n : (zN liveP 0).2.1 = 2 := by kernel_rfl

end Go.Proofs.YtdhkcdehedbpcaaDoor

set_option linter.unusedSimpArgs false
set_option linter.unusedVariables false
namespace Go.Proofs.YtdhkcdehedbpcaaDoor
open Go Go.RowKit

theorem live_small : (liveP.all fun n => decide (-9223372036854775808 ≤ n.2.1) && decide (n.2.1 ≤ 9223372036854775807) && (n.2.2.1.all fun c => decide (0 ≤ c) && decide (c ≤ 255)) && decide (n.2.2.1.length ≤ 9223372036854775807)) = true := by kernel_rfl
theorem live_nc {w : World} {base : Nat} {v : Value} (h : Nd w base v liveP) : ∃ g c, v = .slice (some ⟨g, 0, none⟩) 13 c ∧ NC w g 0 liveP := by
  have h' : w.ownsRow base 43 5 v liveP.length (liveP.flatMap ndV) := h
  rw [live_len] at h'
  obtain ⟨g, cap, e, hlt, hf, hc⟩ := own_some (own_base h' (Nat.zero_le _)) (by decide)
  refine ⟨g, cap, e, hlt, fun i hi j hj => ?_, fun i hi => ?_⟩
  · rw [Nat.zero_add, hc _ (by rw [live_len] at hi; omega)]
    exact flat_get8 ndV 5 (fun _ => rfl) liveP i j liveP[i] (List.getElem?_eq_getElem hi) hj
  · have h1 := List.all_eq_true.1 live_small liveP[i] (List.getElem_mem hi)
    simp only [Bool.and_eq_true, decide_eq_true_eq, List.all_eq_true] at h1
    exact ⟨h1.1.1, ⟨fun c hc => h1.1.2 c hc, h1.2⟩⟩

theorem NX.old {ρ ρ' : Nat → Nat} {w0 w w' : World} (h : NX ρ w w' ρ') (hb : Bw w0 w) (h0 : ∀ b, b < w0.heap.size → ρ b = 0) : Bw w0 w' ∧ ∀ b, b < w0.heap.size → ρ' b = 0 :=
  ⟨⟨h.os.trans hb.os, h.tape.trans hb.tape, h.output.trans hb.output, Nat.le_trans hb.size h.size, fun b hlt => (h.block b (Nat.lt_of_lt_of_le hlt hb.size) (h0 b hlt)).trans (hb.block b hlt)⟩, fun b hlt => h.new b (Nat.lt_of_lt_of_le hlt hb.size) (h0 b hlt)⟩

/-- What is told of the example. -/
structure LiveR (w : World) (vf vg : Value) : Prop where
  f : ∃ fb fc cb cc, vf = .slice (some ⟨fb, 0, none⟩) 3 fc ∧ fb < w.heap.size ∧ w.cell? ⟨fb, 11, none⟩ = some (.slice (some ⟨cb, 0, none⟩) 1 cc) ∧ cb < w.heap.size ∧ w.cell? ⟨cb, 0, none⟩ = some (.int .i64 1)
  g : ∃ ga gc, vg = .slice ga 2 gc

set_option maxRecDepth 100000 in
set_option maxHeartbeats 8000000 in
theorem resolve_live {w : World} {g cap : Nat} (h : NC w g 0 liveP) (hh : Sh w) (hp : PrM w) : Calls Tryd.prog 10 #[.slice (some ⟨g, 0, none⟩) 13 cap] w fun e w' => ∃ vf ua uc vg, e = .returned (.tuple #[.agg #[vf, .slice ua 13 uc, vg], .int .i64 0, .int .i64 0]) ∧ LiveR w' vf vg ∧ Bw w w' := by
  have HCK := hid (fun (W : World) (hb : Bw w W) => (show Calls Tryd.prog 23 #[.slice (some ⟨g, 0, none⟩) 13 cap] W fun e w' => ∃ k : Int, e = .returned (.tuple #[.int .i64 k, .int .i64 0]) ∧ Bw W w' from by
    have := check_any g 0 cap liveP (by decide) (by decide) W (h.bw hb) (hh.bw hb)
    rw [live_checked] at this
    exact this.mono (by rintro e w' ⟨rfl, hb⟩; exact ⟨_, rfl, hb⟩)))
  have HNR := hid (fun (W : World) (hb : Bw w W) => newResolver_any g 0 cap liveP (by decide) (by decide) 2 (by exact live_n) (by decide) (h.bw hb) (hp.bw hb) live_globA)
  have HB0 := hid (fun (o : Obj) => Bw.alloc (Bw.refl w) o)
  have HPG := hid (show zR liveP liveA 60 (.parts (zN liveP 0).2.1) (zstart liveP) = some liveZ by rw [live_n]; exact live_resZ)
  have HL0 := hid (show 0 < liveP.length by decide)
  clear h hh hp
  go_enter Tryd.func10, Tryd.ntmps10
  go_upto_region 6 with (first
    | (go_at_call 23; refine (HCK.out _ (HB0.out _)).mono ?_; rintro e w1 ⟨k, rfl, hb1⟩; have B1 := hid ((HB0.out _).trans hb1); have P1 := hid (Blk.bw (Blk.new w #[.slice none 0 0, .slice none 0 0, .slice none 0 0] 31) hb1); clear hb1)
    | (go_at_call 24; refine (HNR.out _ B1.out).mono ?_; rintro e w2 ⟨r, ab, B, rfl, hr2, hb2, h02⟩; have R2 := hid hr2; have B2 := hid hb2; have Z2 := hid h02; clear hr2 hb2 h02)
    | (go_at_call 25; refine (program_any R2.out HL0.out 60 liveZ HPG.out).mono ?_; rintro e w3 ⟨rfl, B3, hr3, hn3⟩; have R3 := hid hr3; have N3 := hid hn3; clear hr3 hn3)
    | fail)
  obtain ⟨O3, Z3⟩ := N3.out.old B2.out Z2.out
  have O3 := hid O3
  have Z3 := hid Z3
  have P3 := hid (P1.out.bw O3.out)
  have q11 : w3.cell? ⟨r, 11, none⟩ = some (.int .i64 0) := by have := R3.out.blk.cell 11; rw [this]; show some (Value.int .i64 liveZ.fault) = _; rw [live_fault]
  have rl := R3.out.blk.lt
  have hfit : ∀ u ∈ liveZ.uses, zfit liveZ u = true := List.all_eq_true.1 live_fit
  have HFIT := hid hfit
  clear hfit
  have hK3 : B3.K.length = 3 := by have h1 := congrArg List.length R3.out.x.kf; rw [List.length_map] at h1; rw [h1]; exact live_funs
  have HK3 := hid hK3
  clear hK3
  go_upto_region 9 with (first
    | (go_at_call 26; refine (whole_any R3.out HFIT.out).mono ?_; rintro e w4 ⟨vf, he, hf4, hr4, hn4, ho4⟩; (obtain ⟨fa, fc, hvf⟩ := own_form hf4); (obtain ⟨ua, uc, huv⟩ := own_form (hr4.x.uses (by decide)).1); (obtain ⟨ga, gc, hgv⟩ := own_form (hr4.x.globs (by decide)).1); rw [HK3.out] at hvf; rw [show (List.map (zend liveZ) liveZ.uses).length = 13 from (by rw [List.length_map, R3.out.x.ul]; exact live_len)] at huv; rw [show liveZ.globals.length = 2 from live_globs] at hgv; rw [huv, hgv] at he; subst hvf; subst he; have F4 := hid hf4; have R4 := hid hr4; have N4 := hid hn4; have OW4 := hid ho4; have P4 := hid (P3.out.keep (hn4.block _ P3.out.lt (Z3.out _ P1.out.lt))); have p0 := P4.out.cell; have pf := P4.out.free; have pl := P4.out.lt; clear hf4 hr4 hn4 ho4 huv hgv)
    | fail)
  all_goals refine bodyPost_ret (v := .tuple #[.agg #[.slice fa 3 fc, .slice ua 13 uc, .slice ga 2 gc], .int .i64 0, .int .i64 0]) (by simp [results, Tryd.results10, go_sem, *]) rfl ?_
  all_goals
    obtain ⟨O4, Z4⟩ := N4.out.old O3.out Z3.out
    have hlw := P1.out.lt
    have hww := B1.out.size
    have hw3 := O3.out.size
    have f4 := F4.out
    rw [HK3.out] at f4
    obtain ⟨fb, fc', efa, fl, _, fcell⟩ := own_some f4 (by decide)
    have hfa : fa = some ⟨fb, 0, none⟩ := by cases efa; rfl
    subst hfa
    have hfn : fb ≠ w.heap.size := by have := OW4.out fb rfl; omega
    obtain ⟨k2, hk2⟩ : ∃ k2, B3.K[2]? = some k2 := ⟨_, List.getElem?_eq_getElem (by rw [HK3.out]; decide)⟩
    have hcaps : k2.f.caps = [(1, 0)] := by
      have h1 : liveZ.funs[2]? = some k2.f := by have h2 := R4.out.x.kf; have h3 : (B3.K.map FK.f)[2]? = some k2.f := by rw [List.getElem?_map, hk2]; rfl
                                                 rw [h2] at h3; exact h3
      have h4 := live_caps
      rw [List.getD_eq_getElem?_getD, h1] at h4
      exact h4
    obtain ⟨hc1, hc2⟩ := R4.out.x.caps 2 k2 hk2 (by decide)
    rw [hcaps] at hc1
    obtain ⟨cb, cc, ecv, cl, _, ccell⟩ := own_some hc1 (by decide)
    have hcn : cb ≠ w.heap.size := fun e => by
      have h1 := hc2 cb (by rw [ecv]; rfl)
      have h2 := Z4 w.heap.size hlw
      rw [e, h2] at h1
      cases h1
    have e11 : w4.cell? ⟨fb, 11, none⟩ = some (.slice (some ⟨cb, 0, none⟩) 1 cc) := by
      rw [fcell 11 (by decide), show (11 : Nat) = 2 * 4 + 3 from rfl, flat_get8 fnC 4 (fun _ => rfl) B3.K 2 3 k2 hk2 (by decide)]
      show some k2.cv = _
      rw [ecv]; rfl
    have e0 : w4.cell? ⟨cb, 0, none⟩ = some (.int .i64 1) := by rw [ccell 0 (by decide)]; rfl
    refine ⟨_, ua, uc, _, rfl, ⟨⟨fb, fc, cb, cc, rfl, by simp [World.setCell]; exact fl, ?_, by simp [World.setCell]; exact cl, ?_⟩, ⟨ga, gc, rfl⟩⟩, ?_⟩
    · rw [← e11]
      have hw : ∀ (W : World) (j : Nat) (v : Value), (W.setCell ⟨w.heap.size, j, none⟩ v).cell? ⟨fb, 11, none⟩ = W.cell? ⟨fb, 11, none⟩ := fun W j v => World.cell?_of_block (a := ⟨fb, 11, none⟩) (Below.heap_setCell W _ v fb hfn)
      rw [hw, hw, hw]
    · rw [← e0]
      have hw : ∀ (W : World) (j : Nat) (v : Value), (W.setCell ⟨w.heap.size, j, none⟩ v).cell? ⟨cb, 0, none⟩ = W.cell? ⟨cb, 0, none⟩ := fun W j v => World.cell?_of_block (a := ⟨cb, 0, none⟩) (Below.heap_setCell W _ v cb hcn)
      rw [hw, hw, hw]
    · exact (((B1.out.trans O4).setCell (Nat.le_refl _) _).setCell (Nat.le_refl _) _).setCell (Nat.le_refl _) _

end Go.Proofs.YtdhkcdehedbpcaaDoor

