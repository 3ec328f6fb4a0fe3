/- Whether two words are alike: the program's alike, for every fuel. · Whether two words are alike: the program's Deep. · Whether two words are alike: the document's Deep, whole. -/
import Derived.Test.YtlhgdknmgdohkaaGreatDoorTKk
import Derived.Test.YtlhgdknmgdohkaaGreatDoorK13
import Derived.Laws.EntriesVeiled
import Derived.Test.YtlhgdknmgdohkaaGreatDoorTYk
import Derived.Test.YtlhgdknmgdohkaaGreatDoorK11
set_option linter.unusedSimpArgs false
set_option linter.unusedVariables false
namespace Go.Proofs.YtlhgdknmgdohkaaGreatDoor
open Go Go.RowKit

set_option maxHeartbeats 2000000 in
theorem alike_any {b0 : Nat} {H : AHeap} {bs : List Nat} {cb mb : Nat} (hok : HOK H) (hnd : ∀ o ∈ H.2, o.keys.Nodup) : ∀ f, Alk b0 H bs cb mb f
  | 0 => fun Ms a b w ha hb hf h => absurd hf (Nat.not_lt_zero _)
  | f + 1 => fun Ms a b w ha hb hf h => by
    by_cases c1 : eqW H a b = true
    · have e : dp H (f + 1) Ms a b = (true, Ms, false) := by rw [dp, if_pos c1]
      rw [e]
      exact alike_early a b ha hb w h true (.inl ⟨c1, rfl⟩)
    · have c1' : eqW H a b = false := by simpa using c1
      by_cases c2 : (kk H a != kk H b || !(kk H a == 2 || kk H a == 3 || kk H a == 4)) = true
      · have e : dp H (f + 1) Ms a b = (false, Ms, false) := by rw [dp, if_neg c1, if_pos c2]
        rw [e]
        exact alike_early a b ha hb w h false (.inr ⟨c1', c2, rfl⟩)
      · have c2' := c2
        rw [Bool.not_eq_true, Bool.or_eq_false_iff] at c2'
        obtain ⟨k1, k2⟩ := c2'
        have k3 : (kk H a == 2 || kk H a == 3 || kk H a == 4) = true := by
          have := k2
          rwa [Bool.not_eq_false'] at this
        have k4 : kk H a = kk H b := by simpa using k1
        by_cases c3 : (a, b) ∈ Ms
        · have e : dp H (f + 1) Ms a b = (true, Ms, false) := by rw [dp, if_neg c1, if_neg c2, if_pos c3]
          rw [e]
          exact alike_met a b ha hb w h c1' k1 k3 c3
        · by_cases c4 : 65536 ≤ Ms.length
          · have e : dp H (f + 1) Ms a b = (false, Ms, true) := by rw [dp, if_neg c1, if_neg c2, if_neg c3, if_pos c4]
            rw [e]
            exact alike_many a b ha hb w h c1' k1 k3 c3 c4
          · have hlt : 65536 - (Ms ++ [(a, b)]).length < f := by simp only [List.length_append, List.length_singleton]; omega
            have en : kids H a b = none → dp H (f + 1) Ms a b = (false, Ms ++ [(a, b)], false) := fun hk => by rw [dp, if_neg c1, if_neg c2, if_neg c3, if_neg c4, hk]
            have es : ∀ ps, kids H a b = some ps → dp H (f + 1) Ms a b = dpL (dp H f) ps (Ms ++ [(a, b)]) := fun ps hk => by rw [dp, if_neg c1, if_neg c2, if_neg c3, if_neg c4, hk]
            have hA := alike_any (b0 := b0) (bs := bs) (cb := cb) (mb := mb) hok hnd f
            refine alike_new a b ha hb w h c1' k1 c3 (by omega) _ ?_
            have kc : kk H a = 2 ∨ kk H a = 3 ∨ kk H a = 4 := by simpa [or_assoc] using k3
            rcases kc with ka | ka | ka
            · refine .inl ⟨ka, fun w2 h2 => alikeEntries_any hA a b ha hb w2 h2 hlt ka (k4 ▸ ka) _ ?_⟩
              by_cases hl : (ob H a).vals.length = (ob H b).vals.length
              · rw [if_pos hl]; exact es _ (by rw [kids, if_pos ka, if_pos hl])
              · rw [if_neg hl]; exact en (by rw [kids, if_pos ka, if_neg hl])
            · refine .inr (.inl ⟨ka, fun w2 h2 => alikeFields_any hA a b ha hb w2 h2 hlt ka (k4 ▸ ka) hnd _ ?_⟩)
              by_cases hl : sameK (ob H a).keys (ob H b).keys = true
              · rw [if_pos hl]; exact es _ (by rw [kids, if_neg (by omega), if_pos ka, if_pos hl])
              · rw [if_neg hl]; exact en (by rw [kids, if_neg (by omega), if_pos ka, if_neg hl])
            · refine .inr (.inr ⟨ka, fun w2 h2 => alikeAt_any a b 0 ha hb w2 h2 _ ?_⟩)
              intro w1 hi
              have e2 : dp H (f + 1) Ms a b = dp H f (Ms ++ [(a, b)]) (aAtV H a 0) (aAtV H b 0) := by
                rw [es [(aAtV H a 0, aAtV H b 0)] (by rw [kids, if_neg (by omega), if_neg (by omega)])]
                simp only [dpL]
                by_cases ht : (dp H f (Ms ++ [(a, b)]) (aAtV H a 0) (aAtV H b 0)).1 = true
                · rw [if_pos ht]
                  have hm := dp_many H f _ _ _ ht
                  generalize dp H f (Ms ++ [(a, b)]) (aAtV H a 0) (aAtV H b 0) = t at ht hm ⊢
                  obtain ⟨t1, t2, t3⟩ := t
                  simp only at ht hm ⊢
                  rw [ht, hm]
                · rw [if_neg ht]
              rw [e2]
              exact hA _ _ _ w1 (U_at hok ha (.inr ka)) (U_at hok hb (.inr (k4 ▸ ka))) hlt hi

end Go.Proofs.YtlhgdknmgdohkaaGreatDoor

set_option linter.unusedSimpArgs false
set_option linter.unusedVariables false
namespace Go.Proofs.YtlhgdknmgdohkaaGreatDoor
open Go Go.RowKit

theorem CI.begin {w : World} {b0 : Nat} {H : AHeap} {bs : List Nat} (h : HS w b0 H bs) :
    CI ((w.alloc (.map #[] 0)).alloc (.cells #[.pointer (some ⟨b0, 0, none⟩), .map (some w.heap.size), .bool false] 77)) b0 H bs (w.heap.size + 1) w.heap.size [] false where
  hs := h.bw (((Bw.refl w).alloc _).alloc _)
  n := ⟨fun hk => by have := h.lt hk; omega, fun hk => by have := h.lt hk; omega, by omega⟩
  k := by
    have := Blk.new (w.alloc (.map #[] 0)) #[.pointer (some ⟨b0, 0, none⟩), .map (some w.heap.size), .bool false] 77
    simpa using this
  mp := by
    have := World.ownsMap_made w Tryz.prog 117 (plainElem (H := Unit) Tryz.prog 3)
    exact ⟨_, this.alloc _, RowP.nil⟩

set_option maxRecDepth 100000 in
set_option maxHeartbeats 8000000 in
theorem deep_any {b0 : Nat} {H : AHeap} {bs : List Nat} (hnd : ∀ o ∈ H.2, o.keys.Nodup) (a b : Int) (ha : U a) (hb : U b) (w : World) (h : HS w b0 H bs) :
    Calls Tryz.prog 10 #[.pointer (some ⟨b0, 0, none⟩), .int .u64 a, .int .u64 b] w fun e w' => e = .returned (.tuple #[.bool (dp H 65537 [] a b).1, .int .i64 (if (dp H 65537 [] a b).2.2 = true then 3 else 0)]) ∧ Bw w w' := by
  have HB := hid (CI.begin h)
  have HC := hid (fun w1 h1 => alike_any (b0 := b0) (bs := bs) (cb := w.heap.size + 1) (mb := w.heap.size) h.ok hnd 65537 [] a b w1 ha hb (by simp) h1)
  have HM := hid (dp_many H 65537 [] a b)
  have HBW := hid (((Bw.refl w).alloc (.map #[] 0)).alloc (.cells #[.pointer (some ⟨b0, 0, none⟩), .map (some w.heap.size), .bool false] 77))
  clear h ha hb hnd
  have hmm := @run_makeMap Tryz.prog
  generalize dp H 65537 [] a b = r at HC HM ⊢
  obtain ⟨r1, r2, r3⟩ := r
  cases r3
  · go_enter Tryz.func10, Tryz.ntmps10
    go_wp2_with (first
      | (go_at_call 31; refine (HC.out _ HB.out).mono ?_; rintro e w1 ⟨rfl, hi1, hf1⟩; have y2 := hi1.k.cell 2; have HF1 := hid hf1; clear hi1 hf1)
      | fail)
    all_goals go_ret2
    all_goals refine ⟨rfl, ?_⟩
    all_goals exact ⟨HF1.out.os.trans HBW.out.os, HF1.out.tape.trans HBW.out.tape, HF1.out.output.trans HBW.out.output, Nat.le_trans HBW.out.size HF1.out.size, fun b hb => (HF1.out.block b (Nat.lt_of_lt_of_le hb HBW.out.size) (by simp; omega)).trans (HBW.out.block b hb)⟩
  · have h1 : r1 = false := by
      cases r1
      · rfl
      · exact absurd (HM.out rfl) (by simp)
    subst h1
    go_enter Tryz.func10, Tryz.ntmps10
    go_wp2_with (first
      | (go_at_call 31; refine (HC.out _ HB.out).mono ?_; rintro e w1 ⟨rfl, hi1, hf1⟩; have y2 := hi1.k.cell 2; have HF1 := hid hf1; clear hi1 hf1)
      | fail)
    all_goals go_ret2
    all_goals refine ⟨rfl, ?_⟩
    all_goals exact ⟨HF1.out.os.trans HBW.out.os, HF1.out.tape.trans HBW.out.tape, HF1.out.output.trans HBW.out.output, Nat.le_trans HBW.out.size HF1.out.size, fun b hb => (HF1.out.block b (Nat.lt_of_lt_of_le hb HBW.out.size) (by simp; omega)).trans (HBW.out.block b hb)⟩

end Go.Proofs.YtlhgdknmgdohkaaGreatDoor

set_option linter.unusedSimpArgs false
set_option linter.unusedVariables false
namespace Go.Proofs.YtlhgdknmgdohkaaGreatDoor
open Go Go.RowKit

theorem vdk_any {k0 : Int} {ah : Option Addr} {ch : Nat} {H : AHeap} {sb : Nat} (hok : HOK H) (hbr : Bare H) (hn : Neat H) (hm : H.2.length ≤ 1000000) : ∀ f, Vdk k0 ah ch H sb f
  | 0 => fun Ms va vb a b w _ _ _ hf _ => absurd hf (by omega)
  | f + 1 => vdeep_step hok hbr hm (vdeep_new hok hbr hn hm (vdk_any hok hbr hn hm f))

/-- The document's Deep says what the program's says. -/
theorem rdeep_any {k0 : Int} {ah : Option Addr} {ch : Nat} {H : AHeap} {G : Nat → Prop} (hok : HOK H) (hbr : Bare H) (hn : Neat H) (hm : H.2.length ≤ 1000000) (a b : Int) (ha : U a) (hb : U b) (w : World) (h : RdH w G (.agg #[.int .i64 k0, .slice ah H.2.length ch]) H) :
    Calls Tryz.prog 11 #[.agg #[.int .i64 k0, .slice ah H.2.length ch], .int .u64 a, .int .u64 b] w fun e w' => e = .returned (.tuple #[.bool (dp H 65537 [] a b).1, .int .i64 (if (dp H 65537 [] a b).2.2 = true then 3 else 0)]) ∧ Bw w w' :=
  rdeep_of a b ha hb w h (vdk_any hok hbr hn hm 65537)

theorem OU.bw {w w' : World} {o : AObj} {vb vv vk : Value} (h : OU w o vb vv vk) (hb : Bw w w') : OU w' o vb vv vk :=
  ⟨h.ol.below hb, h.u, h.b, h.m1, h.m2, h.m3, h.ks⟩

theorem WU.bw {w w' : World} {ao aw : Option Addr} {Os : List AObj} {Ws : List (Int × Int × Int)} (h : WU w ao aw Os Ws) (hb : Bw w w') : WU w' ao aw Os Ws := by
  refine ⟨fun i hi => ?_, fun i hi => ?_⟩
  · obtain ⟨b, off, x, e, hlt, hc, ho⟩ := h.1 i hi
    exact ⟨b, off, x, e, Nat.lt_of_lt_of_le hlt hb.size, fun j hj => (cell_bw4 hb hlt).trans (hc j hj), ho.bw hb⟩
  · obtain ⟨b, off, e, hlt, c0, c1, c2, hu⟩ := h.2 i hi
    exact ⟨b, off, e, Nat.lt_of_lt_of_le hlt hb.size, (cell_bw4 hb hlt).trans c0, (cell_bw4 hb hlt).trans c1, (cell_bw4 hb hlt).trans c2, hu⟩

theorem WU.us {w : World} {ao aw : Option Addr} {Os : List AObj} {Ws : List (Int × Int × Int)} (h : WU w ao aw Os Ws) : ∀ x ∈ Ws, U x.1 := by
  intro x hx
  obtain ⟨i, hi, rfl⟩ := List.getElem_of_mem hx
  obtain ⟨b, off, e, hlt, c0, c1, c2, hu⟩ := h.2 i hi
  exact hu.1

/-- Both heaps of a world that is not too much, and what holds of them. -/
theorem made_all {ao aw : Option Addr} {co cw : Nat} {Os : List AObj} {Ws : List (Int × Int × Int)} {w : World} (hw : WU w ao aw Os Ws) (hm : muchW Os Ws = false) :
    Bare (madeH Os Ws) ∧ Neat (madeH Os Ws) ∧ ∀ w1, Bw w w1 → Calls Tryz.prog 9 #[.agg #[.slice ao Os.length co, .slice aw Ws.length cw]] w1 fun e w' => ∃ b0 bs ar cr, e = .returned (.tuple #[.pointer (some ⟨b0, 0, none⟩), .agg #[.int .i64 (madeH Os Ws).1, .slice ar (madeH Os Ws).2.length cr]]) ∧ HS w' b0 (madeH Os Ws) bs ∧ RdH w' (fun b => b ∉ bs) (.agg #[.int .i64 (madeH Os Ws).1, .slice ar (madeH Os Ws).2.length cr]) (madeH Os Ws) ∧ Bw w1 w' ∧ ∀ b ∈ bs, w1.heap.size ≤ b := by
  have h30 := much_no4 hm
  have hwr : ∀ w1, Bw w w1 → WR w1 ao aw Os Ws := fun w1 hb => (hw.bw hb).wr hm
  refine ⟨made_bare hw.us, made_neat hw.us, fun w1 hb => ?_⟩
  · refine (made_any ao aw co cw Os Ws w1 (hwr w1 hb) (by omega) (by omega)).mono fun e w' ⟨b0, bs, va, he, hs, hr, hb', hl⟩ => ?_
    obtain ⟨ar, cr, ev⟩ := hr.parts
    have ev' : va = .slice ar (madeH Os Ws).2.length cr := by simpa using ev
    subst ev'
    exact ⟨b0, bs, ar, cr, he, hs, hr, hb', hl⟩

end Go.Proofs.YtlhgdknmgdohkaaGreatDoor

