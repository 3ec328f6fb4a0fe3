/- A call, by the program and by the document: the contract of the statements' own 'step'. -/
import Derived.Test.YtolfgkpmcfneiaaQS
import Derived.Test.YtolfgkpmcfneiaaQA
import Derived.Test.YtolfgkpmcfneiaaR3Q
import Derived.Test.YtolfgkpmcfneiaaR3I
set_option linter.unusedSimpArgs false
set_option linter.unusedVariables false
namespace Go.Proofs.Ytolfgkpmcfneiaa
open Go Go.RowKit

set_option maxRecDepth 100000 in
set_option maxHeartbeats 16000000 in
theorem step_below (rv : Value) {b0 : Nat} {H : AHeap} {bs : List Nat} (a : AAct) (x : Value × Value × Value) (w : World) (hS : HS w b0 H bs) (qs : List Nat) (hq0 : ∀ q ∈ qs, q < w.heap.size) (h : RdH w (fun b => b ∉ qs ++ bs) rv H) (ha : AOK w (fun b => b ∉ bs) a x) (hN : NeatH H) (hC : Capped H) (hm : H.2.length ≤ 65536) (m1 : a.B.length ≤ 300) (m2 : a.L.length ≤ 300) (m3 : a.K.length ≤ 300) (hd : a.Do < 0) :
    Calls Try.prog 14 #[.pointer (some ⟨b0, 0, none⟩), rv, actV a x] w fun e w' => ∃ rv' H' bs', e = .returned (.tuple #[rv', .bool true]) ∧ HS w' b0 H' bs' ∧ RdH w' (fun b => b ∉ qs ++ bs') rv' H' ∧ NeatH H' ∧ Capped H' ∧ H'.1 = H.1 ∧ Nx bs w w' bs' := by
  have HSS := hid hS
  have HR := hid h
  have HA := hid ha
  have HN := hid hN
  have HC := hid hC
  have HOKH := hid hS.ok
  obtain ⟨va, t, rfl, ht, hs, ho⟩ := h
  obtain ⟨ah, ch, rfl⟩ := hs.form
  obtain ⟨vb0, vl0, vk0⟩ := x
  obtain ⟨p1, c1, e1⟩ := ha.b.form
  obtain ⟨p2, c2, e2⟩ := ha.l.form
  obtain ⟨p3, c3, e3⟩ := ha.k.form
  simp only at e1 e2 e3
  subst e1 e2 e3
  have HUV := hid ha.v
  have HUX := hid ha.x
  have B0 := hid (((Blk.new w #[.int .i64 H.1, .slice ah H.2.length ch] 31).alloc (.cells #[.int .i64 a.Do, .int .u64 a.V, .int .u64 a.X, .int .i64 a.I, .slice p1 a.B.length c1, .slice p2 a.L.length c2, .slice p3 a.K.length c3, .string a.Key, .int .u64 a.Re, .int .u64 a.Im] 43)).alloc (.cells #[.int .i64 0, .slice none 0 0] 31))
  have B1 := hid (show Blk (((w.alloc (.cells #[.int .i64 H.1, .slice ah H.2.length ch] 31)).alloc (.cells #[.int .i64 a.Do, .int .u64 a.V, .int .u64 a.X, .int .i64 a.I, .slice p1 a.B.length c1, .slice p2 a.L.length c2, .slice p3 a.K.length c3, .string a.Key, .int .u64 a.Re, .int .u64 a.Im] 43)).alloc (.cells #[.int .i64 0, .slice none 0 0] 31)) (w.heap.size + 1) #[.int .i64 a.Do, .int .u64 a.V, .int .u64 a.X, .int .i64 a.I, .slice p1 a.B.length c1, .slice p2 a.L.length c2, .slice p3 a.K.length c3, .string a.Key, .int .u64 a.Re, .int .u64 a.Im] 43 by simpa using ((Blk.new (w.alloc (.cells #[.int .i64 H.1, .slice ah H.2.length ch] 31)) #[.int .i64 a.Do, .int .u64 a.V, .int .u64 a.X, .int .i64 a.I, .slice p1 a.B.length c1, .slice p2 a.L.length c2, .slice p3 a.K.length c3, .string a.Key, .int .u64 a.Re, .int .u64 a.Im] 43).alloc (.cells #[.int .i64 0, .slice none 0 0] 31)))
  have B2 := hid (show Blk (((w.alloc (.cells #[.int .i64 H.1, .slice ah H.2.length ch] 31)).alloc (.cells #[.int .i64 a.Do, .int .u64 a.V, .int .u64 a.X, .int .i64 a.I, .slice p1 a.B.length c1, .slice p2 a.L.length c2, .slice p3 a.K.length c3, .string a.Key, .int .u64 a.Re, .int .u64 a.Im] 43)).alloc (.cells #[.int .i64 0, .slice none 0 0] 31)) (w.heap.size + 1 + 1) #[.int .i64 0, .slice none 0 0] 31 by simpa using Blk.new ((w.alloc (.cells #[.int .i64 H.1, .slice ah H.2.length ch] 31)).alloc (.cells #[.int .i64 a.Do, .int .u64 a.V, .int .u64 a.X, .int .i64 a.I, .slice p1 a.B.length c1, .slice p2 a.L.length c2, .slice p3 a.K.length c3, .string a.Key, .int .u64 a.Re, .int .u64 a.Im] 43)) #[.int .i64 0, .slice none 0 0] 31)
  have BW := hid (show Bw w (((w.alloc (.cells #[.int .i64 H.1, .slice ah H.2.length ch] 31)).alloc (.cells #[.int .i64 a.Do, .int .u64 a.V, .int .u64 a.X, .int .i64 a.I, .slice p1 a.B.length c1, .slice p2 a.L.length c2, .slice p3 a.K.length c3, .string a.Key, .int .u64 a.Re, .int .u64 a.Im] 43)).alloc (.cells #[.int .i64 0, .slice none 0 0] 31)) from (((Bw.refl w).alloc _).alloc _).alloc _)
  have HS3 := hid (HSS.out.bw BW.out)
  have HLT := hid (fun b (hb : b ∈ bs) => hS.lt hb)
  have HQ0 := hid hq0
  clear hS ht hs ho ha hN hC hq0
  have DD := hid (show (a.Do == 7) = false ∧ (a.Do == 8) = false ∧ (a.Do == 9) = false ∧ (a.Do == 10) = false by simp only [beq_eq_false_iff_ne]; omega)
  have d0 : decide ((0 : Int) ≤ a.Do) = false := decide_eq_false (by omega)
  clear hd
  have d7 : (a.Do == 7) = false := DD.out.1
  have d8 : (a.Do == 8) = false := DD.out.2.1
  have d9 : (a.Do == 9) = false := DD.out.2.2.1
  have d10 : (a.Do == 10) = false := DD.out.2.2.2
  go_enter Try.func14, Try.ntmps14
  go_wp2_with fail
  go_region_held3 (fun w' => w'.cell? ⟨w.heap.size, 0, none⟩ = some (.int .i64 H.1) ∧ w'.cell? ⟨w.heap.size, 1, none⟩ = some (.slice ah H.2.length ch) ∧ w'.cell? ⟨w.heap.size + 1, 0, none⟩ = some (.int .i64 a.Do) ∧ w'.cell? ⟨w.heap.size + 1, 1, none⟩ = some (.int .u64 a.V) ∧ w'.cell? ⟨w.heap.size + 1, 2, none⟩ = some (.int .u64 a.X) ∧ w'.cell? ⟨w.heap.size + 1, 3, none⟩ = some (.int .i64 a.I) ∧ w'.cell? ⟨w.heap.size + 1, 4, none⟩ = some (.slice p1 a.B.length c1) ∧ w'.cell? ⟨w.heap.size + 1, 5, none⟩ = some (.slice p2 a.L.length c2) ∧ w'.cell? ⟨w.heap.size + 1, 6, none⟩ = some (.slice p3 a.K.length c3) ∧ w'.cell? ⟨w.heap.size + 1, 7, none⟩ = some (.string a.Key) ∧ w'.cell? ⟨w.heap.size + 1, 8, none⟩ = some (.int .u64 a.Re) ∧ w'.cell? ⟨w.heap.size + 1, 9, none⟩ = some (.int .u64 a.Im)) (first | (simp [go_sem]; done) | (simp [go_sem, *]; done))
    (first
      | (go_at_call 44; refine (asks_any (fun b => b ∉ qs ++ bs) (fun b => b ∉ bs) _ a (.slice p1 a.B.length c1, .slice p2 a.L.length c2, .slice p3 a.K.length c3) _ (HSS.out.bw (Ly.bw (by repeat (first | exact Ly.refl _ | apply Ly.lay | apply Ly.alloc | apply Ly.drewN | apply Ly.drew)))) (RdH.below HR.out (Ly.bw (by repeat (first | exact Ly.refl _ | apply Ly.lay | apply Ly.alloc | apply Ly.drewN | apply Ly.drew)))) (AOK.bw HA.out (Ly.bw (by repeat (first | exact Ly.refl _ | apply Ly.lay | apply Ly.alloc | apply Ly.drewN | apply Ly.drew)))) HN.out (by omega)).mono ?_; rintro e w6 ⟨rfl, hb6⟩; have BB := hid (Bw.trans (show Bw w _ from Ly.bw (by repeat (first | exact Ly.refl _ | apply Ly.lay | apply Ly.alloc | apply Ly.drewN | apply Ly.drew))) hb6); have B26 := hid ((show Blk _ (w.heap.size + 1 + 1) #[.int .i64 0, .slice none 0 0] 31 from by repeat (first | exact B2.out | apply Blk.drew)).bw hb6); have B06 := hid ((show Blk _ w.heap.size #[.int .i64 H.1, .slice ah H.2.length ch] 31 from by repeat (first | exact B0.out | apply Blk.drew)).bw hb6); have B16 := hid ((show Blk _ (w.heap.size + 1) #[.int .i64 a.Do, .int .u64 a.V, .int .u64 a.X, .int .i64 a.I, .slice p1 a.B.length c1, .slice p2 a.L.length c2, .slice p3 a.K.length c3, .string a.Key, .int .u64 a.Re, .int .u64 a.Im] 43 from by repeat (first | exact B1.out | apply Blk.drew)).bw hb6); have z26 := B26.out.cell; have z26f := B26.out.free; have z06 := B06.out.cell; have z16 := B16.out.cell; have hq4 : w.heap.size + 1 + 1 < w6.heap.size := B26.out.lt; clear hb6)
      | fail)
  all_goals go_wp2
  all_goals
    have bf := (B26.out.set 0 (.int .i64 H.1)).set 1 (.slice ah H.2.length ch)
    have bfc := bf.cell
    refine bodyPost_ret (v := .tuple #[.agg #[.int .i64 H.1, .slice ah H.2.length ch], .bool true]) (by simp [results, Try.results14, go_sem, bfc]) rfl ?_
    have hf := fin_step (wf := (w6.setCell ⟨w.heap.size + 1 + 1, 0, none⟩ (.int .i64 H.1)).setCell ⟨w.heap.size + 1 + 1, 1, none⟩ (.slice ah H.2.length ch)) (q := w.heap.size + 1 + 1) ((Bw.refl w).nx bs) BB.out HSS.out (fun hmm => by have := HLT.out _ hmm; omega) (by omega) (HR.out.nxq (BB.out.nx bs) (w.heap.size + 1 + 1) (by omega)) (by simp [World.setCell]) ⟨rfl, rfl, rfl⟩ (fun b hb hne => (Below.heap_setCell _ ⟨w.heap.size + 1 + 1, 1, none⟩ (.slice ah H.2.length ch) b hne).trans (Below.heap_setCell _ ⟨w.heap.size + 1 + 1, 0, none⟩ (.int .i64 H.1) b hne))
    exact ⟨_, _, _, rfl, hf.1, hf.2.1, HN.out, HC.out, rfl, hf.2.2⟩

set_option maxRecDepth 100000 in
set_option maxHeartbeats 16000000 in
theorem step_beyond (rv : Value) {b0 : Nat} {H : AHeap} {bs : List Nat} (a : AAct) (x : Value × Value × Value) (w : World) (hS : HS w b0 H bs) (qs : List Nat) (hq0 : ∀ q ∈ qs, q < w.heap.size) (h : RdH w (fun b => b ∉ qs ++ bs) rv H) (ha : AOK w (fun b => b ∉ bs) a x) (hN : NeatH H) (hC : Capped H) (hm : H.2.length ≤ 65536) (m1 : a.B.length ≤ 300) (m2 : a.L.length ≤ 300) (m3 : a.K.length ≤ 300) (hd : 10 < a.Do) :
    Calls Try.prog 14 #[.pointer (some ⟨b0, 0, none⟩), rv, actV a x] w fun e w' => ∃ rv' H' bs', e = .returned (.tuple #[rv', .bool true]) ∧ HS w' b0 H' bs' ∧ RdH w' (fun b => b ∉ qs ++ bs') rv' H' ∧ NeatH H' ∧ Capped H' ∧ H'.1 = H.1 ∧ Nx bs w w' bs' := by
  have HSS := hid hS
  have HR := hid h
  have HA := hid ha
  have HN := hid hN
  have HC := hid hC
  have HOKH := hid hS.ok
  obtain ⟨va, t, rfl, ht, hs, ho⟩ := h
  obtain ⟨ah, ch, rfl⟩ := hs.form
  obtain ⟨vb0, vl0, vk0⟩ := x
  obtain ⟨p1, c1, e1⟩ := ha.b.form
  obtain ⟨p2, c2, e2⟩ := ha.l.form
  obtain ⟨p3, c3, e3⟩ := ha.k.form
  simp only at e1 e2 e3
  subst e1 e2 e3
  have HUV := hid ha.v
  have HUX := hid ha.x
  have B0 := hid (((Blk.new w #[.int .i64 H.1, .slice ah H.2.length ch] 31).alloc (.cells #[.int .i64 a.Do, .int .u64 a.V, .int .u64 a.X, .int .i64 a.I, .slice p1 a.B.length c1, .slice p2 a.L.length c2, .slice p3 a.K.length c3, .string a.Key, .int .u64 a.Re, .int .u64 a.Im] 43)).alloc (.cells #[.int .i64 0, .slice none 0 0] 31))
  have B1 := hid (show Blk (((w.alloc (.cells #[.int .i64 H.1, .slice ah H.2.length ch] 31)).alloc (.cells #[.int .i64 a.Do, .int .u64 a.V, .int .u64 a.X, .int .i64 a.I, .slice p1 a.B.length c1, .slice p2 a.L.length c2, .slice p3 a.K.length c3, .string a.Key, .int .u64 a.Re, .int .u64 a.Im] 43)).alloc (.cells #[.int .i64 0, .slice none 0 0] 31)) (w.heap.size + 1) #[.int .i64 a.Do, .int .u64 a.V, .int .u64 a.X, .int .i64 a.I, .slice p1 a.B.length c1, .slice p2 a.L.length c2, .slice p3 a.K.length c3, .string a.Key, .int .u64 a.Re, .int .u64 a.Im] 43 by simpa using ((Blk.new (w.alloc (.cells #[.int .i64 H.1, .slice ah H.2.length ch] 31)) #[.int .i64 a.Do, .int .u64 a.V, .int .u64 a.X, .int .i64 a.I, .slice p1 a.B.length c1, .slice p2 a.L.length c2, .slice p3 a.K.length c3, .string a.Key, .int .u64 a.Re, .int .u64 a.Im] 43).alloc (.cells #[.int .i64 0, .slice none 0 0] 31)))
  have B2 := hid (show Blk (((w.alloc (.cells #[.int .i64 H.1, .slice ah H.2.length ch] 31)).alloc (.cells #[.int .i64 a.Do, .int .u64 a.V, .int .u64 a.X, .int .i64 a.I, .slice p1 a.B.length c1, .slice p2 a.L.length c2, .slice p3 a.K.length c3, .string a.Key, .int .u64 a.Re, .int .u64 a.Im] 43)).alloc (.cells #[.int .i64 0, .slice none 0 0] 31)) (w.heap.size + 1 + 1) #[.int .i64 0, .slice none 0 0] 31 by simpa using Blk.new ((w.alloc (.cells #[.int .i64 H.1, .slice ah H.2.length ch] 31)).alloc (.cells #[.int .i64 a.Do, .int .u64 a.V, .int .u64 a.X, .int .i64 a.I, .slice p1 a.B.length c1, .slice p2 a.L.length c2, .slice p3 a.K.length c3, .string a.Key, .int .u64 a.Re, .int .u64 a.Im] 43)) #[.int .i64 0, .slice none 0 0] 31)
  have BW := hid (show Bw w (((w.alloc (.cells #[.int .i64 H.1, .slice ah H.2.length ch] 31)).alloc (.cells #[.int .i64 a.Do, .int .u64 a.V, .int .u64 a.X, .int .i64 a.I, .slice p1 a.B.length c1, .slice p2 a.L.length c2, .slice p3 a.K.length c3, .string a.Key, .int .u64 a.Re, .int .u64 a.Im] 43)).alloc (.cells #[.int .i64 0, .slice none 0 0] 31)) from (((Bw.refl w).alloc _).alloc _).alloc _)
  have HS3 := hid (HSS.out.bw BW.out)
  have HLT := hid (fun b (hb : b ∈ bs) => hS.lt hb)
  have HQ0 := hid hq0
  clear hS ht hs ho ha hN hC hq0
  have DD := hid (show (a.Do == 7) = false ∧ (a.Do == 8) = false ∧ (a.Do == 9) = false ∧ (a.Do == 10) = false by simp only [beq_eq_false_iff_ne]; omega)
  have d0 : decide ((0 : Int) ≤ a.Do) = true := decide_eq_true (by omega)
  have d6 : decide (a.Do ≤ 6) = false := decide_eq_false (by omega)
  clear hd
  have d7 : (a.Do == 7) = false := DD.out.1
  have d8 : (a.Do == 8) = false := DD.out.2.1
  have d9 : (a.Do == 9) = false := DD.out.2.2.1
  have d10 : (a.Do == 10) = false := DD.out.2.2.2
  go_enter Try.func14, Try.ntmps14
  go_wp2_with fail
  go_region_held3 (fun w' => w'.cell? ⟨w.heap.size, 0, none⟩ = some (.int .i64 H.1) ∧ w'.cell? ⟨w.heap.size, 1, none⟩ = some (.slice ah H.2.length ch) ∧ w'.cell? ⟨w.heap.size + 1, 0, none⟩ = some (.int .i64 a.Do) ∧ w'.cell? ⟨w.heap.size + 1, 1, none⟩ = some (.int .u64 a.V) ∧ w'.cell? ⟨w.heap.size + 1, 2, none⟩ = some (.int .u64 a.X) ∧ w'.cell? ⟨w.heap.size + 1, 3, none⟩ = some (.int .i64 a.I) ∧ w'.cell? ⟨w.heap.size + 1, 4, none⟩ = some (.slice p1 a.B.length c1) ∧ w'.cell? ⟨w.heap.size + 1, 5, none⟩ = some (.slice p2 a.L.length c2) ∧ w'.cell? ⟨w.heap.size + 1, 6, none⟩ = some (.slice p3 a.K.length c3) ∧ w'.cell? ⟨w.heap.size + 1, 7, none⟩ = some (.string a.Key) ∧ w'.cell? ⟨w.heap.size + 1, 8, none⟩ = some (.int .u64 a.Re) ∧ w'.cell? ⟨w.heap.size + 1, 9, none⟩ = some (.int .u64 a.Im)) (first | (simp [go_sem]; done) | (simp [go_sem, *]; done))
    (first
      | (go_at_call 44; refine (asks_any (fun b => b ∉ qs ++ bs) (fun b => b ∉ bs) _ a (.slice p1 a.B.length c1, .slice p2 a.L.length c2, .slice p3 a.K.length c3) _ (HSS.out.bw (Ly.bw (by repeat (first | exact Ly.refl _ | apply Ly.lay | apply Ly.alloc | apply Ly.drewN | apply Ly.drew)))) (RdH.below HR.out (Ly.bw (by repeat (first | exact Ly.refl _ | apply Ly.lay | apply Ly.alloc | apply Ly.drewN | apply Ly.drew)))) (AOK.bw HA.out (Ly.bw (by repeat (first | exact Ly.refl _ | apply Ly.lay | apply Ly.alloc | apply Ly.drewN | apply Ly.drew)))) HN.out (by omega)).mono ?_; rintro e w6 ⟨rfl, hb6⟩; have BB := hid (Bw.trans (show Bw w _ from Ly.bw (by repeat (first | exact Ly.refl _ | apply Ly.lay | apply Ly.alloc | apply Ly.drewN | apply Ly.drew))) hb6); have B26 := hid ((show Blk _ (w.heap.size + 1 + 1) #[.int .i64 0, .slice none 0 0] 31 from by repeat (first | exact B2.out | apply Blk.drew)).bw hb6); have B06 := hid ((show Blk _ w.heap.size #[.int .i64 H.1, .slice ah H.2.length ch] 31 from by repeat (first | exact B0.out | apply Blk.drew)).bw hb6); have B16 := hid ((show Blk _ (w.heap.size + 1) #[.int .i64 a.Do, .int .u64 a.V, .int .u64 a.X, .int .i64 a.I, .slice p1 a.B.length c1, .slice p2 a.L.length c2, .slice p3 a.K.length c3, .string a.Key, .int .u64 a.Re, .int .u64 a.Im] 43 from by repeat (first | exact B1.out | apply Blk.drew)).bw hb6); have z26 := B26.out.cell; have z26f := B26.out.free; have z06 := B06.out.cell; have z16 := B16.out.cell; have hq4 : w.heap.size + 1 + 1 < w6.heap.size := B26.out.lt; clear hb6)
      | fail)
  all_goals go_wp2
  all_goals
    have bf := (B26.out.set 0 (.int .i64 H.1)).set 1 (.slice ah H.2.length ch)
    have bfc := bf.cell
    refine bodyPost_ret (v := .tuple #[.agg #[.int .i64 H.1, .slice ah H.2.length ch], .bool true]) (by simp [results, Try.results14, go_sem, bfc]) rfl ?_
    have hf := fin_step (wf := (w6.setCell ⟨w.heap.size + 1 + 1, 0, none⟩ (.int .i64 H.1)).setCell ⟨w.heap.size + 1 + 1, 1, none⟩ (.slice ah H.2.length ch)) (q := w.heap.size + 1 + 1) ((Bw.refl w).nx bs) BB.out HSS.out (fun hmm => by have := HLT.out _ hmm; omega) (by omega) (HR.out.nxq (BB.out.nx bs) (w.heap.size + 1 + 1) (by omega)) (by simp [World.setCell]) ⟨rfl, rfl, rfl⟩ (fun b hb hne => (Below.heap_setCell _ ⟨w.heap.size + 1 + 1, 1, none⟩ (.slice ah H.2.length ch) b hne).trans (Below.heap_setCell _ ⟨w.heap.size + 1 + 1, 0, none⟩ (.int .i64 H.1) b hne))
    exact ⟨_, _, _, rfl, hf.1, hf.2.1, HN.out, HC.out, rfl, hf.2.2⟩

theorem step_any (rv : Value) {b0 : Nat} {H : AHeap} {bs : List Nat} (a : AAct) (x : Value × Value × Value) (w : World) (hS : HS w b0 H bs) (qs : List Nat) (hq0 : ∀ q ∈ qs, q < w.heap.size) (h : RdH w (fun b => b ∉ qs ++ bs) rv H) (ha : AOK w (fun b => b ∉ bs) a x) (hN : NeatH H) (hC : Capped H) (hm : H.2.length ≤ 65536) (m1 : a.B.length ≤ 300) (m2 : a.L.length ≤ 300) (m3 : a.K.length ≤ 300) :
    Calls Try.prog 14 #[.pointer (some ⟨b0, 0, none⟩), rv, actV a x] w fun e w' => ∃ rv' H' bs', e = .returned (.tuple #[rv', .bool true]) ∧ HS w' b0 H' bs' ∧ RdH w' (fun b => b ∉ qs ++ bs') rv' H' ∧ NeatH H' ∧ Capped H' ∧ H'.1 = H.1 ∧ Nx bs w w' bs' := by
  by_cases h0 : a.Do < 0
  · exact step_below rv a x w hS qs hq0 h ha hN hC hm m1 m2 m3 h0
  by_cases h6 : a.Do ≤ 6
  · exact step_make rv a x w hS qs hq0 h ha hN hC hm m1 m2 m3 ⟨by omega, h6⟩
  by_cases h7 : a.Do = 7
  · exact step_set rv a x w hS qs hq0 h ha hN hC hm m1 m2 m3 h7
  by_cases h8 : a.Do = 8
  · exact step_push rv a x w hS qs hq0 h ha hN hC hm m1 m2 m3 h8
  by_cases h9 : a.Do = 9
  · exact step_pop rv a x w hS qs hq0 h ha hN hC hm m1 m2 m3 h9
  by_cases h10 : a.Do = 10
  · exact step_put rv a x w hS qs hq0 h ha hN hC hm m1 m2 m3 h10
  · exact step_beyond rv a x w hS qs hq0 h ha hN hC hm m1 m2 m3 (by omega)

end Go.Proofs.Ytolfgkpmcfneiaa
