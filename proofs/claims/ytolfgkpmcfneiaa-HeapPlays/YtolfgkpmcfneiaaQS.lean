/- A call, by the program and by the document: the contract of the statements' own 'step'. -/
import Derived.Test.YtolfgkpmcfneiaaQA
import Derived.Test.YtolfgkpmcfneiaaR3Q
import Derived.Test.YtolfgkpmcfneiaaR3I
set_option linter.unusedSimpArgs false
set_option linter.unusedVariables false
namespace Go.Proofs.Ytolfgkpmcfneiaa
open Go Go.RowKit

theorem RdH.nxq {w w' : World} {bs bs' qs : List Nat} {rv : Value} {H : AHeap} (h : RdH w (fun b => b ∉ qs ++ bs) rv H) (hn : Nx bs w w' bs') (q : Nat) (hq : w.heap.size ≤ q) : RdH w' (fun b => b ∉ qs ++ bs' ∧ b ≠ q) rv H :=
  h.keep hn.1.size (fun b hb hg => hn.1.block b hb (fun hm => hg (List.mem_append_right _ hm))) (fun b hb hg => ⟨fun hm => (List.mem_append.1 hm).elim (fun e => hg (List.mem_append_left _ e)) (fun hm => (hn.2 b hm).elim (fun hh => hg (List.mem_append_right _ hh)) (fun hh => by omega)), by omega⟩)

theorem fin_step {w w1 w2 wf : World} {b0 q : Nat} {H : AHeap} {bs bs1 : List Nat} {rv : Value} {qs : List Nat} (hN : Nx bs w w1 bs1) (hb : Bw w1 w2) (hS : HS w1 b0 H bs1) (hq : q ∉ bs1) (hwq : w.heap.size ≤ q) (hR : RdH w2 (fun b => b ∉ qs ++ bs1 ∧ b ≠ q) rv H)
    (hz : w2.heap.size ≤ wf.heap.size) (ho : wf.os = w2.os ∧ wf.tape = w2.tape ∧ wf.output = w2.output) (hk : ∀ b, b < w2.heap.size → b ≠ q → wf.heap[b]? = w2.heap[b]?) : HS wf b0 H bs1 ∧ RdH wf (fun b => b ∉ qs ++ bs1) rv H ∧ Nx bs w wf bs1 := by
  have h2 := hS.bw hb
  have hlt : ∀ b ∈ bs1, b < w2.heap.size := fun b hb => h2.lt hb
  refine ⟨?_, hR.keep hz (fun b hb hg => hk b hb hg.2) (fun b hb hg => hg.1), ?_, hN.2⟩
  · obtain ⟨vo, t, h3, rfl⟩ := h2
    exact ⟨vo, t, h3.same (fun k hk' => hk k (hlt k hk') (fun e => hq (e ▸ hk'))), rfl⟩
  · have h1 := hN.1
    refine ⟨ho.1.trans (hb.os.trans h1.os), ho.2.1.trans (hb.tape.trans h1.tape), ho.2.2.trans (hb.output.trans h1.output), Nat.le_trans h1.size (Nat.le_trans hb.size hz), fun b hb' hn => ?_⟩
    rw [hk b (Nat.lt_of_lt_of_le (Nat.lt_of_lt_of_le hb' h1.size) hb.size) (by omega), hb.block b (Nat.lt_of_lt_of_le hb' h1.size), h1.block b hb' hn]

set_option maxRecDepth 100000 in
set_option maxHeartbeats 16000000 in
theorem step_set (rv : Value) {b0 : Nat} {H : AHeap} {bs : List Nat} (a : AAct) (x : Value × Value × Value) (w : World) (hS : HS w b0 H bs) (qs : List Nat) (hq0 : ∀ q ∈ qs, q < w.heap.size) (h : RdH w (fun b => b ∉ qs ++ bs) rv H) (ha : AOK w (fun b => b ∉ bs) a x) (hN : NeatH H) (hC : Capped H) (hm : H.2.length ≤ 65536) (m1 : a.B.length ≤ 300) (m2 : a.L.length ≤ 300) (m3 : a.K.length ≤ 300) (hd : a.Do = 7) :
    Calls Try.prog 14 #[.pointer (some ⟨b0, 0, none⟩), rv, actV a x] w fun e w' => ∃ rv' H' bs', e = .returned (.tuple #[rv', .bool true]) ∧ HS w' b0 H' bs' ∧ RdH w' (fun b => b ∉ qs ++ bs') rv' H' ∧ NeatH H' ∧ Capped H' ∧ H'.1 = H.1 ∧ Nx bs w w' bs' := by
  have HSS := hid hS
  have HR := hid h
  have HA := hid ha
  have HN := hid hN
  have HC := hid hC
  have HOKH := hid hS.ok
  obtain ⟨va, t, rfl, ht, hs, ho⟩ := h
  obtain ⟨ah, ch, rfl⟩ := hs.form
  obtain ⟨vb0, vl0, vk0⟩ := x
  obtain ⟨p1, c1, e1⟩ := ha.b.form
  obtain ⟨p2, c2, e2⟩ := ha.l.form
  obtain ⟨p3, c3, e3⟩ := ha.k.form
  simp only at e1 e2 e3
  subst e1 e2 e3
  have HUV := hid ha.v
  have HUX := hid ha.x
  have B0 := hid (((Blk.new w #[.int .i64 H.1, .slice ah H.2.length ch] 31).alloc (.cells #[.int .i64 a.Do, .int .u64 a.V, .int .u64 a.X, .int .i64 a.I, .slice p1 a.B.length c1, .slice p2 a.L.length c2, .slice p3 a.K.length c3, .string a.Key, .int .u64 a.Re, .int .u64 a.Im] 43)).alloc (.cells #[.int .i64 0, .slice none 0 0] 31))
  have B1 := hid (show Blk (((w.alloc (.cells #[.int .i64 H.1, .slice ah H.2.length ch] 31)).alloc (.cells #[.int .i64 a.Do, .int .u64 a.V, .int .u64 a.X, .int .i64 a.I, .slice p1 a.B.length c1, .slice p2 a.L.length c2, .slice p3 a.K.length c3, .string a.Key, .int .u64 a.Re, .int .u64 a.Im] 43)).alloc (.cells #[.int .i64 0, .slice none 0 0] 31)) (w.heap.size + 1) #[.int .i64 a.Do, .int .u64 a.V, .int .u64 a.X, .int .i64 a.I, .slice p1 a.B.length c1, .slice p2 a.L.length c2, .slice p3 a.K.length c3, .string a.Key, .int .u64 a.Re, .int .u64 a.Im] 43 by simpa using ((Blk.new (w.alloc (.cells #[.int .i64 H.1, .slice ah H.2.length ch] 31)) #[.int .i64 a.Do, .int .u64 a.V, .int .u64 a.X, .int .i64 a.I, .slice p1 a.B.length c1, .slice p2 a.L.length c2, .slice p3 a.K.length c3, .string a.Key, .int .u64 a.Re, .int .u64 a.Im] 43).alloc (.cells #[.int .i64 0, .slice none 0 0] 31)))
  have B2 := hid (show Blk (((w.alloc (.cells #[.int .i64 H.1, .slice ah H.2.length ch] 31)).alloc (.cells #[.int .i64 a.Do, .int .u64 a.V, .int .u64 a.X, .int .i64 a.I, .slice p1 a.B.length c1, .slice p2 a.L.length c2, .slice p3 a.K.length c3, .string a.Key, .int .u64 a.Re, .int .u64 a.Im] 43)).alloc (.cells #[.int .i64 0, .slice none 0 0] 31)) (w.heap.size + 1 + 1) #[.int .i64 0, .slice none 0 0] 31 by simpa using Blk.new ((w.alloc (.cells #[.int .i64 H.1, .slice ah H.2.length ch] 31)).alloc (.cells #[.int .i64 a.Do, .int .u64 a.V, .int .u64 a.X, .int .i64 a.I, .slice p1 a.B.length c1, .slice p2 a.L.length c2, .slice p3 a.K.length c3, .string a.Key, .int .u64 a.Re, .int .u64 a.Im] 43)) #[.int .i64 0, .slice none 0 0] 31)
  have BW := hid (show Bw w (((w.alloc (.cells #[.int .i64 H.1, .slice ah H.2.length ch] 31)).alloc (.cells #[.int .i64 a.Do, .int .u64 a.V, .int .u64 a.X, .int .i64 a.I, .slice p1 a.B.length c1, .slice p2 a.L.length c2, .slice p3 a.K.length c3, .string a.Key, .int .u64 a.Re, .int .u64 a.Im] 43)).alloc (.cells #[.int .i64 0, .slice none 0 0] 31)) from (((Bw.refl w).alloc _).alloc _).alloc _)
  have HS3 := hid (HSS.out.bw BW.out)
  have HLT := hid (fun b (hb : b ∈ bs) => hS.lt hb)
  have HQ0 := hid hq0
  clear hS ht hs ho ha hN hC hq0
  have d0 : decide ((0 : Int) ≤ a.Do) = true := decide_eq_true (by omega)
  have d6 : decide (a.Do ≤ 6) = false := decide_eq_false (by omega)
  have d7 : (a.Do == 7) = true := by simp; omega
  clear hd
  go_enter Try.func14, Try.ntmps14
  go_upto_region 8 with (first
    | (go_at_call 26; refine (set_any _ _ _ HUV.out HUX.out _ HS3.out).mono ?_; rintro e w1 ⟨rfl, bs1, hs1, hn1⟩; have K1 := hid hs1; have N1 := hid (BW.out.nxBefore hn1); have B01 := hid (B0.out.nx hn1 (fun hm => by have := HLT.out _ hm; omega)); have B11 := hid (B1.out.nx hn1 (fun hm => by have := HLT.out _ hm; omega)); have B21 := hid (B2.out.nx hn1 (fun hm => by have := HLT.out _ hm; omega)); have z01 := B01.out.cell; have z11 := B11.out.cell; have hq1 : w.heap.size < w1.heap.size := B01.out.lt; have hq2 : w.heap.size + 1 < w1.heap.size := B11.out.lt; have hq3 : w.heap.size + 1 + 1 < w1.heap.size := B21.out.lt; have Q1 := hid (show w.heap.size + 1 + 1 ∉ bs1 from fun hm => (hn1.2 _ hm).elim (fun hh => by have := HLT.out _ hh; omega) (fun hh => by (try simp at hh); omega)); have R1 := hid (HR.out.nxq N1.out (w.heap.size + 1 + 1) (by omega)); clear hs1 hn1)
    | (go_at_call 40; refine (rset_any (fun b => b ∉ qs ++ bs1 ∧ b ≠ w.heap.size + 1 + 1) _ H _ _ _ HUV.out HUX.out _ (fun b hb => ⟨fun hmm => (List.mem_append.1 hmm).elim (fun e => by have := HQ0.out _ e; (try simp at hb); omega) (fun hmm => by have h1 := K1.out.lt hmm; (try simp at hb); omega), by (try simp at hb); omega⟩) (RdH.below R1.out (Ly.bw (by repeat (first | exact Ly.refl _ | apply Ly.lay | apply Ly.alloc | apply Ly.drewN | apply Ly.drew)))) HOKH.out (by omega)).mono ?_; rintro e w2 ⟨rv2, rfl, hr2, hb2⟩; obtain ⟨va2, t2, rfl, ht2, hs2, ho2⟩ := (show _ from hr2 : RdH w2 _ rv2 _); obtain ⟨a2, k2, rfl⟩ := hs2.form; have R2 := hid hr2; have BB := hid (Bw.trans (show Bw w1 _ from Ly.bw (by repeat (first | exact Ly.refl _ | apply Ly.lay | apply Ly.alloc | apply Ly.drewN | apply Ly.drew))) hb2); have B22 := hid (B21.out.bw BB.out); have z22 := B22.out.cell; have z22f := B22.out.free; have hq4 : w.heap.size + 1 + 1 < w2.heap.size := B22.out.lt; clear hr2 hb2 ht2 hs2 ho2)
    | (go_at_call 13; refine (num_any _ _).mono ?_; rintro e wq ⟨rfl, hwq⟩; subst wq))
  go_region_held3 (fun w' => w'.cell? ⟨w2.heap.size, 0, none⟩ = some (.int .i64 (aSetH H a.V a.I a.X).1) ∧ w'.cell? ⟨w2.heap.size, 1, none⟩ = some (.slice a2 (aSetH H a.V a.I a.X).2.length k2)) (simp [go_sem])
    (first
      | (go_at_call 13; refine (num_any _ _).mono ?_; rintro e wq ⟨rfl, hwq⟩; subst wq)
      | fail)
  all_goals go_wp2
  all_goals
    have bf := ((B22.out.set 0 (.int .i64 (aSetH H a.V a.I a.X).1)).set 1 (.slice a2 (aSetH H a.V a.I a.X).2.length k2)).alloc (.cells #[.int .i64 (aSetH H a.V a.I a.X).1, .slice a2 (aSetH H a.V a.I a.X).2.length k2] 31)
    have bfc := bf.cell
    refine bodyPost_ret (v := .tuple #[.agg #[.int .i64 (aSetH H a.V a.I a.X).1, .slice a2 (aSetH H a.V a.I a.X).2.length k2], .bool true]) (by simp [results, Try.results14, go_sem, bfc]) rfl ?_
    have hf := fin_step (wf := (((w2.setCell ⟨w.heap.size + 1 + 1, 0, none⟩ (.int .i64 (aSetH H a.V a.I a.X).1)).setCell ⟨w.heap.size + 1 + 1, 1, none⟩ (.slice a2 (aSetH H a.V a.I a.X).2.length k2)).alloc (.cells #[.int .i64 (aSetH H a.V a.I a.X).1, .slice a2 (aSetH H a.V a.I a.X).2.length k2] 31)).drew) N1.out BB.out K1.out Q1.out (by omega) R2.out (q := w.heap.size + 1 + 1) (by simp [World.setCell]) ⟨rfl, rfl, rfl⟩ (fun b hb hne => (Below.heap_alloc ((w2.setCell ⟨w.heap.size + 1 + 1, 0, none⟩ (.int .i64 (aSetH H a.V a.I a.X).1)).setCell ⟨w.heap.size + 1 + 1, 1, none⟩ (.slice a2 (aSetH H a.V a.I a.X).2.length k2)) (.cells #[.int .i64 (aSetH H a.V a.I a.X).1, .slice a2 (aSetH H a.V a.I a.X).2.length k2] 31) b (by simpa [World.setCell] using hb)).trans ((Below.heap_setCell _ ⟨w.heap.size + 1 + 1, 1, none⟩ (.slice a2 (aSetH H a.V a.I a.X).2.length k2) b hne).trans (Below.heap_setCell _ ⟨w.heap.size + 1 + 1, 0, none⟩ (.int .i64 (aSetH H a.V a.I a.X).1) b hne)))
    exact ⟨_, _, _, rfl, hf.1, hf.2.1, HN.out.set HUV.out, HC.out.set _ _ _, (by unfold aSetH; split <;> rfl), hf.2.2⟩

set_option maxRecDepth 100000 in
set_option maxHeartbeats 16000000 in
theorem step_push (rv : Value) {b0 : Nat} {H : AHeap} {bs : List Nat} (a : AAct) (x : Value × Value × Value) (w : World) (hS : HS w b0 H bs) (qs : List Nat) (hq0 : ∀ q ∈ qs, q < w.heap.size) (h : RdH w (fun b => b ∉ qs ++ bs) rv H) (ha : AOK w (fun b => b ∉ bs) a x) (hN : NeatH H) (hC : Capped H) (hm : H.2.length ≤ 65536) (m1 : a.B.length ≤ 300) (m2 : a.L.length ≤ 300) (m3 : a.K.length ≤ 300) (hd : a.Do = 8) :
    Calls Try.prog 14 #[.pointer (some ⟨b0, 0, none⟩), rv, actV a x] w fun e w' => ∃ rv' H' bs', e = .returned (.tuple #[rv', .bool true]) ∧ HS w' b0 H' bs' ∧ RdH w' (fun b => b ∉ qs ++ bs') rv' H' ∧ NeatH H' ∧ Capped H' ∧ H'.1 = H.1 ∧ Nx bs w w' bs' := by
  have HSS := hid hS
  have HR := hid h
  have HA := hid ha
  have HN := hid hN
  have HC := hid hC
  have HOKH := hid hS.ok
  obtain ⟨va, t, rfl, ht, hs, ho⟩ := h
  obtain ⟨ah, ch, rfl⟩ := hs.form
  obtain ⟨vb0, vl0, vk0⟩ := x
  obtain ⟨p1, c1, e1⟩ := ha.b.form
  obtain ⟨p2, c2, e2⟩ := ha.l.form
  obtain ⟨p3, c3, e3⟩ := ha.k.form
  simp only at e1 e2 e3
  subst e1 e2 e3
  have HUV := hid ha.v
  have HUX := hid ha.x
  have B0 := hid (((Blk.new w #[.int .i64 H.1, .slice ah H.2.length ch] 31).alloc (.cells #[.int .i64 a.Do, .int .u64 a.V, .int .u64 a.X, .int .i64 a.I, .slice p1 a.B.length c1, .slice p2 a.L.length c2, .slice p3 a.K.length c3, .string a.Key, .int .u64 a.Re, .int .u64 a.Im] 43)).alloc (.cells #[.int .i64 0, .slice none 0 0] 31))
  have B1 := hid (show Blk (((w.alloc (.cells #[.int .i64 H.1, .slice ah H.2.length ch] 31)).alloc (.cells #[.int .i64 a.Do, .int .u64 a.V, .int .u64 a.X, .int .i64 a.I, .slice p1 a.B.length c1, .slice p2 a.L.length c2, .slice p3 a.K.length c3, .string a.Key, .int .u64 a.Re, .int .u64 a.Im] 43)).alloc (.cells #[.int .i64 0, .slice none 0 0] 31)) (w.heap.size + 1) #[.int .i64 a.Do, .int .u64 a.V, .int .u64 a.X, .int .i64 a.I, .slice p1 a.B.length c1, .slice p2 a.L.length c2, .slice p3 a.K.length c3, .string a.Key, .int .u64 a.Re, .int .u64 a.Im] 43 by simpa using ((Blk.new (w.alloc (.cells #[.int .i64 H.1, .slice ah H.2.length ch] 31)) #[.int .i64 a.Do, .int .u64 a.V, .int .u64 a.X, .int .i64 a.I, .slice p1 a.B.length c1, .slice p2 a.L.length c2, .slice p3 a.K.length c3, .string a.Key, .int .u64 a.Re, .int .u64 a.Im] 43).alloc (.cells #[.int .i64 0, .slice none 0 0] 31)))
  have B2 := hid (show Blk (((w.alloc (.cells #[.int .i64 H.1, .slice ah H.2.length ch] 31)).alloc (.cells #[.int .i64 a.Do, .int .u64 a.V, .int .u64 a.X, .int .i64 a.I, .slice p1 a.B.length c1, .slice p2 a.L.length c2, .slice p3 a.K.length c3, .string a.Key, .int .u64 a.Re, .int .u64 a.Im] 43)).alloc (.cells #[.int .i64 0, .slice none 0 0] 31)) (w.heap.size + 1 + 1) #[.int .i64 0, .slice none 0 0] 31 by simpa using Blk.new ((w.alloc (.cells #[.int .i64 H.1, .slice ah H.2.length ch] 31)).alloc (.cells #[.int .i64 a.Do, .int .u64 a.V, .int .u64 a.X, .int .i64 a.I, .slice p1 a.B.length c1, .slice p2 a.L.length c2, .slice p3 a.K.length c3, .string a.Key, .int .u64 a.Re, .int .u64 a.Im] 43)) #[.int .i64 0, .slice none 0 0] 31)
  have BW := hid (show Bw w (((w.alloc (.cells #[.int .i64 H.1, .slice ah H.2.length ch] 31)).alloc (.cells #[.int .i64 a.Do, .int .u64 a.V, .int .u64 a.X, .int .i64 a.I, .slice p1 a.B.length c1, .slice p2 a.L.length c2, .slice p3 a.K.length c3, .string a.Key, .int .u64 a.Re, .int .u64 a.Im] 43)).alloc (.cells #[.int .i64 0, .slice none 0 0] 31)) from (((Bw.refl w).alloc _).alloc _).alloc _)
  have HS3 := hid (HSS.out.bw BW.out)
  have HLT := hid (fun b (hb : b ∈ bs) => hS.lt hb)
  have HQ0 := hid hq0
  clear hS ht hs ho ha hN hC hq0
  have d0 : decide ((0 : Int) ≤ a.Do) = true := decide_eq_true (by omega)
  have d6 : decide (a.Do ≤ 6) = false := decide_eq_false (by omega)
  have d7 : (a.Do == 7) = false := by simp; omega
  have d8 : (a.Do == 8) = true := by simp; omega
  clear hd
  go_enter Try.func14, Try.ntmps14
  go_upto_region 12 with (first
    | (go_at_call 27; refine (push_any _ _ HUV.out HUX.out _ HS3.out (fun o ho => (HC.out o ho).1)).mono ?_; rintro e w1 ⟨rfl, bs1, hs1, hn1⟩; have K1 := hid hs1; have N1 := hid (BW.out.nxBefore hn1); have B01 := hid (B0.out.nx hn1 (fun hm => by have := HLT.out _ hm; omega)); have B11 := hid (B1.out.nx hn1 (fun hm => by have := HLT.out _ hm; omega)); have B21 := hid (B2.out.nx hn1 (fun hm => by have := HLT.out _ hm; omega)); have z01 := B01.out.cell; have z11 := B11.out.cell; have hq1 : w.heap.size < w1.heap.size := B01.out.lt; have hq2 : w.heap.size + 1 < w1.heap.size := B11.out.lt; have hq3 : w.heap.size + 1 + 1 < w1.heap.size := B21.out.lt; have Q1 := hid (show w.heap.size + 1 + 1 ∉ bs1 from fun hm => (hn1.2 _ hm).elim (fun hh => by have := HLT.out _ hh; omega) (fun hh => by (try simp at hh); omega)); have R1 := hid (HR.out.nxq N1.out (w.heap.size + 1 + 1) (by omega)); clear hs1 hn1)
    | (go_at_call 41; refine (rpush_any (fun b => b ∉ qs ++ bs1 ∧ b ≠ w.heap.size + 1 + 1) _ H _ _ HUV.out HUX.out _ (fun b hb => ⟨fun hmm => (List.mem_append.1 hmm).elim (fun e => by have := HQ0.out _ e; (try simp at hb); omega) (fun hmm => by have h1 := K1.out.lt hmm; (try simp at hb); omega), by (try simp at hb); omega⟩) (RdH.below R1.out (Ly.bw (by repeat (first | exact Ly.refl _ | apply Ly.lay | apply Ly.alloc | apply Ly.drewN | apply Ly.drew)))) HOKH.out (by omega)).mono ?_; rintro e w2 ⟨rv2, rfl, hr2, hb2⟩; obtain ⟨va2, t2, rfl, ht2, hs2, ho2⟩ := (show _ from hr2 : RdH w2 _ rv2 _); obtain ⟨a2, k2, rfl⟩ := hs2.form; have R2 := hid hr2; have BB := hid (Bw.trans (show Bw w1 _ from Ly.bw (by repeat (first | exact Ly.refl _ | apply Ly.lay | apply Ly.alloc | apply Ly.drewN | apply Ly.drew))) hb2); have B22 := hid (B21.out.bw BB.out); have z22 := B22.out.cell; have z22f := B22.out.free; have hq4 : w.heap.size + 1 + 1 < w2.heap.size := B22.out.lt; clear hr2 hb2 ht2 hs2 ho2)
    | (go_at_call 13; refine (num_any _ _).mono ?_; rintro e wq ⟨rfl, hwq⟩; subst wq))
  go_region_held3 (fun w' => w'.cell? ⟨w2.heap.size, 0, none⟩ = some (.int .i64 (aPushH H a.V a.X).1) ∧ w'.cell? ⟨w2.heap.size, 1, none⟩ = some (.slice a2 (aPushH H a.V a.X).2.length k2)) (simp [go_sem])
    (first
      | (go_at_call 13; refine (num_any _ _).mono ?_; rintro e wq ⟨rfl, hwq⟩; subst wq)
      | fail)
  all_goals go_wp2
  all_goals
    have bf := ((B22.out.set 0 (.int .i64 (aPushH H a.V a.X).1)).set 1 (.slice a2 (aPushH H a.V a.X).2.length k2)).alloc (.cells #[.int .i64 (aPushH H a.V a.X).1, .slice a2 (aPushH H a.V a.X).2.length k2] 31)
    have bfc := bf.cell
    refine bodyPost_ret (v := .tuple #[.agg #[.int .i64 (aPushH H a.V a.X).1, .slice a2 (aPushH H a.V a.X).2.length k2], .bool true]) (by simp [results, Try.results14, go_sem, bfc]) rfl ?_
    have hf := fin_step (wf := (((w2.setCell ⟨w.heap.size + 1 + 1, 0, none⟩ (.int .i64 (aPushH H a.V a.X).1)).setCell ⟨w.heap.size + 1 + 1, 1, none⟩ (.slice a2 (aPushH H a.V a.X).2.length k2)).alloc (.cells #[.int .i64 (aPushH H a.V a.X).1, .slice a2 (aPushH H a.V a.X).2.length k2] 31)).drew) N1.out BB.out K1.out Q1.out (by omega) R2.out (q := w.heap.size + 1 + 1) (by simp [World.setCell]) ⟨rfl, rfl, rfl⟩ (fun b hb hne => (Below.heap_alloc ((w2.setCell ⟨w.heap.size + 1 + 1, 0, none⟩ (.int .i64 (aPushH H a.V a.X).1)).setCell ⟨w.heap.size + 1 + 1, 1, none⟩ (.slice a2 (aPushH H a.V a.X).2.length k2)) (.cells #[.int .i64 (aPushH H a.V a.X).1, .slice a2 (aPushH H a.V a.X).2.length k2] 31) b (by simpa [World.setCell] using hb)).trans ((Below.heap_setCell _ ⟨w.heap.size + 1 + 1, 1, none⟩ (.slice a2 (aPushH H a.V a.X).2.length k2) b hne).trans (Below.heap_setCell _ ⟨w.heap.size + 1 + 1, 0, none⟩ (.int .i64 (aPushH H a.V a.X).1) b hne)))
    exact ⟨_, _, _, rfl, hf.1, hf.2.1, HN.out.push HUV.out, HC.out.push _ _, (by unfold aPushH; split <;> rfl), hf.2.2⟩

set_option maxRecDepth 100000 in
set_option maxHeartbeats 16000000 in
theorem step_pop (rv : Value) {b0 : Nat} {H : AHeap} {bs : List Nat} (a : AAct) (x : Value × Value × Value) (w : World) (hS : HS w b0 H bs) (qs : List Nat) (hq0 : ∀ q ∈ qs, q < w.heap.size) (h : RdH w (fun b => b ∉ qs ++ bs) rv H) (ha : AOK w (fun b => b ∉ bs) a x) (hN : NeatH H) (hC : Capped H) (hm : H.2.length ≤ 65536) (m1 : a.B.length ≤ 300) (m2 : a.L.length ≤ 300) (m3 : a.K.length ≤ 300) (hd : a.Do = 9) :
    Calls Try.prog 14 #[.pointer (some ⟨b0, 0, none⟩), rv, actV a x] w fun e w' => ∃ rv' H' bs', e = .returned (.tuple #[rv', .bool true]) ∧ HS w' b0 H' bs' ∧ RdH w' (fun b => b ∉ qs ++ bs') rv' H' ∧ NeatH H' ∧ Capped H' ∧ H'.1 = H.1 ∧ Nx bs w w' bs' := by
  have HSS := hid hS
  have HR := hid h
  have HA := hid ha
  have HN := hid hN
  have HC := hid hC
  have HOKH := hid hS.ok
  obtain ⟨va, t, rfl, ht, hs, ho⟩ := h
  obtain ⟨ah, ch, rfl⟩ := hs.form
  obtain ⟨vb0, vl0, vk0⟩ := x
  obtain ⟨p1, c1, e1⟩ := ha.b.form
  obtain ⟨p2, c2, e2⟩ := ha.l.form
  obtain ⟨p3, c3, e3⟩ := ha.k.form
  simp only at e1 e2 e3
  subst e1 e2 e3
  have HUV := hid ha.v
  have HUX := hid ha.x
  have B0 := hid (((Blk.new w #[.int .i64 H.1, .slice ah H.2.length ch] 31).alloc (.cells #[.int .i64 a.Do, .int .u64 a.V, .int .u64 a.X, .int .i64 a.I, .slice p1 a.B.length c1, .slice p2 a.L.length c2, .slice p3 a.K.length c3, .string a.Key, .int .u64 a.Re, .int .u64 a.Im] 43)).alloc (.cells #[.int .i64 0, .slice none 0 0] 31))
  have B1 := hid (show Blk (((w.alloc (.cells #[.int .i64 H.1, .slice ah H.2.length ch] 31)).alloc (.cells #[.int .i64 a.Do, .int .u64 a.V, .int .u64 a.X, .int .i64 a.I, .slice p1 a.B.length c1, .slice p2 a.L.length c2, .slice p3 a.K.length c3, .string a.Key, .int .u64 a.Re, .int .u64 a.Im] 43)).alloc (.cells #[.int .i64 0, .slice none 0 0] 31)) (w.heap.size + 1) #[.int .i64 a.Do, .int .u64 a.V, .int .u64 a.X, .int .i64 a.I, .slice p1 a.B.length c1, .slice p2 a.L.length c2, .slice p3 a.K.length c3, .string a.Key, .int .u64 a.Re, .int .u64 a.Im] 43 by simpa using ((Blk.new (w.alloc (.cells #[.int .i64 H.1, .slice ah H.2.length ch] 31)) #[.int .i64 a.Do, .int .u64 a.V, .int .u64 a.X, .int .i64 a.I, .slice p1 a.B.length c1, .slice p2 a.L.length c2, .slice p3 a.K.length c3, .string a.Key, .int .u64 a.Re, .int .u64 a.Im] 43).alloc (.cells #[.int .i64 0, .slice none 0 0] 31)))
  have B2 := hid (show Blk (((w.alloc (.cells #[.int .i64 H.1, .slice ah H.2.length ch] 31)).alloc (.cells #[.int .i64 a.Do, .int .u64 a.V, .int .u64 a.X, .int .i64 a.I, .slice p1 a.B.length c1, .slice p2 a.L.length c2, .slice p3 a.K.length c3, .string a.Key, .int .u64 a.Re, .int .u64 a.Im] 43)).alloc (.cells #[.int .i64 0, .slice none 0 0] 31)) (w.heap.size + 1 + 1) #[.int .i64 0, .slice none 0 0] 31 by simpa using Blk.new ((w.alloc (.cells #[.int .i64 H.1, .slice ah H.2.length ch] 31)).alloc (.cells #[.int .i64 a.Do, .int .u64 a.V, .int .u64 a.X, .int .i64 a.I, .slice p1 a.B.length c1, .slice p2 a.L.length c2, .slice p3 a.K.length c3, .string a.Key, .int .u64 a.Re, .int .u64 a.Im] 43)) #[.int .i64 0, .slice none 0 0] 31)
  have BW := hid (show Bw w (((w.alloc (.cells #[.int .i64 H.1, .slice ah H.2.length ch] 31)).alloc (.cells #[.int .i64 a.Do, .int .u64 a.V, .int .u64 a.X, .int .i64 a.I, .slice p1 a.B.length c1, .slice p2 a.L.length c2, .slice p3 a.K.length c3, .string a.Key, .int .u64 a.Re, .int .u64 a.Im] 43)).alloc (.cells #[.int .i64 0, .slice none 0 0] 31)) from (((Bw.refl w).alloc _).alloc _).alloc _)
  have HS3 := hid (HSS.out.bw BW.out)
  have HLT := hid (fun b (hb : b ∈ bs) => hS.lt hb)
  have HQ0 := hid hq0
  clear hS ht hs ho ha hN hC hq0
  have d0 : decide ((0 : Int) ≤ a.Do) = true := decide_eq_true (by omega)
  have d6 : decide (a.Do ≤ 6) = false := decide_eq_false (by omega)
  have d7 : (a.Do == 7) = false := by simp; omega
  have d8 : (a.Do == 8) = false := by simp; omega
  have d9 : (a.Do == 9) = true := by simp; omega
  clear hd
  go_enter Try.func14, Try.ntmps14
  go_upto_region 16 with (first
    | (go_at_call 19; refine (pop_any _ HUV.out _ HS3.out).mono ?_; rintro e w1 ⟨rfl, bs1, hs1, hn1⟩; have K1 := hid hs1; have N1 := hid (BW.out.nxBefore hn1); have B01 := hid (B0.out.nx hn1 (fun hm => by have := HLT.out _ hm; omega)); have B11 := hid (B1.out.nx hn1 (fun hm => by have := HLT.out _ hm; omega)); have B21 := hid (B2.out.nx hn1 (fun hm => by have := HLT.out _ hm; omega)); have z01 := B01.out.cell; have z11 := B11.out.cell; have hq1 : w.heap.size < w1.heap.size := B01.out.lt; have hq2 : w.heap.size + 1 < w1.heap.size := B11.out.lt; have hq3 : w.heap.size + 1 + 1 < w1.heap.size := B21.out.lt; have Q1 := hid (show w.heap.size + 1 + 1 ∉ bs1 from fun hm => (hn1.2 _ hm).elim (fun hh => by have := HLT.out _ hh; omega) (fun hh => by (try simp at hh); omega)); have R1 := hid (HR.out.nxq N1.out (w.heap.size + 1 + 1) (by omega)); clear hs1 hn1)
    | (go_at_call 42; refine (rpop_any (fun b => b ∉ qs ++ bs1 ∧ b ≠ w.heap.size + 1 + 1) _ H _ HUV.out _ (fun b hb => ⟨fun hmm => (List.mem_append.1 hmm).elim (fun e => by have := HQ0.out _ e; (try simp at hb); omega) (fun hmm => by have h1 := K1.out.lt hmm; (try simp at hb); omega), by (try simp at hb); omega⟩) (RdH.below R1.out (Ly.bw (by repeat (first | exact Ly.refl _ | apply Ly.lay | apply Ly.alloc | apply Ly.drewN | apply Ly.drew)))) HOKH.out (by omega)).mono ?_; rintro e w2 ⟨rv2, rfl, hr2, hb2⟩; obtain ⟨va2, t2, rfl, ht2, hs2, ho2⟩ := (show _ from hr2 : RdH w2 _ rv2 _); obtain ⟨a2, k2, rfl⟩ := hs2.form; have R2 := hid hr2; have BB := hid (Bw.trans (show Bw w1 _ from Ly.bw (by repeat (first | exact Ly.refl _ | apply Ly.lay | apply Ly.alloc | apply Ly.drewN | apply Ly.drew))) hb2); have B22 := hid (B21.out.bw BB.out); have z22 := B22.out.cell; have z22f := B22.out.free; have hq4 : w.heap.size + 1 + 1 < w2.heap.size := B22.out.lt; clear hr2 hb2 ht2 hs2 ho2)
    | (go_at_call 13; refine (num_any _ _).mono ?_; rintro e wq ⟨rfl, hwq⟩; subst wq))
  go_region_held3 (fun w' => w'.cell? ⟨w2.heap.size, 0, none⟩ = some (.int .i64 (aPopH H a.V).1) ∧ w'.cell? ⟨w2.heap.size, 1, none⟩ = some (.slice a2 (aPopH H a.V).2.length k2)) (simp [go_sem])
    (first
      | (go_at_call 13; refine (num_any _ _).mono ?_; rintro e wq ⟨rfl, hwq⟩; subst wq)
      | fail)
  all_goals go_wp2
  all_goals
    have bf := ((B22.out.set 0 (.int .i64 (aPopH H a.V).1)).set 1 (.slice a2 (aPopH H a.V).2.length k2)).alloc (.cells #[.int .i64 (aPopH H a.V).1, .slice a2 (aPopH H a.V).2.length k2] 31)
    have bfc := bf.cell
    refine bodyPost_ret (v := .tuple #[.agg #[.int .i64 (aPopH H a.V).1, .slice a2 (aPopH H a.V).2.length k2], .bool true]) (by simp [results, Try.results14, go_sem, bfc]) rfl ?_
    have hf := fin_step (wf := (((w2.setCell ⟨w.heap.size + 1 + 1, 0, none⟩ (.int .i64 (aPopH H a.V).1)).setCell ⟨w.heap.size + 1 + 1, 1, none⟩ (.slice a2 (aPopH H a.V).2.length k2)).alloc (.cells #[.int .i64 (aPopH H a.V).1, .slice a2 (aPopH H a.V).2.length k2] 31)).drew) N1.out BB.out K1.out Q1.out (by omega) R2.out (q := w.heap.size + 1 + 1) (by simp [World.setCell]) ⟨rfl, rfl, rfl⟩ (fun b hb hne => (Below.heap_alloc ((w2.setCell ⟨w.heap.size + 1 + 1, 0, none⟩ (.int .i64 (aPopH H a.V).1)).setCell ⟨w.heap.size + 1 + 1, 1, none⟩ (.slice a2 (aPopH H a.V).2.length k2)) (.cells #[.int .i64 (aPopH H a.V).1, .slice a2 (aPopH H a.V).2.length k2] 31) b (by simpa [World.setCell] using hb)).trans ((Below.heap_setCell _ ⟨w.heap.size + 1 + 1, 1, none⟩ (.slice a2 (aPopH H a.V).2.length k2) b hne).trans (Below.heap_setCell _ ⟨w.heap.size + 1 + 1, 0, none⟩ (.int .i64 (aPopH H a.V).1) b hne)))
    exact ⟨_, _, _, rfl, hf.1, hf.2.1, HN.out.pop HUV.out, HC.out.pop _, (by unfold aPopH; split <;> rfl), hf.2.2⟩

set_option maxRecDepth 100000 in
set_option maxHeartbeats 16000000 in
theorem step_put (rv : Value) {b0 : Nat} {H : AHeap} {bs : List Nat} (a : AAct) (x : Value × Value × Value) (w : World) (hS : HS w b0 H bs) (qs : List Nat) (hq0 : ∀ q ∈ qs, q < w.heap.size) (h : RdH w (fun b => b ∉ qs ++ bs) rv H) (ha : AOK w (fun b => b ∉ bs) a x) (hN : NeatH H) (hC : Capped H) (hm : H.2.length ≤ 65536) (m1 : a.B.length ≤ 300) (m2 : a.L.length ≤ 300) (m3 : a.K.length ≤ 300) (hd : a.Do = 10) :
    Calls Try.prog 14 #[.pointer (some ⟨b0, 0, none⟩), rv, actV a x] w fun e w' => ∃ rv' H' bs', e = .returned (.tuple #[rv', .bool true]) ∧ HS w' b0 H' bs' ∧ RdH w' (fun b => b ∉ qs ++ bs') rv' H' ∧ NeatH H' ∧ Capped H' ∧ H'.1 = H.1 ∧ Nx bs w w' bs' := by
  have HSS := hid hS
  have HR := hid h
  have HA := hid ha
  have HN := hid hN
  have HC := hid hC
  have HOKH := hid hS.ok
  obtain ⟨va, t, rfl, ht, hs, ho⟩ := h
  obtain ⟨ah, ch, rfl⟩ := hs.form
  obtain ⟨vb0, vl0, vk0⟩ := x
  obtain ⟨p1, c1, e1⟩ := ha.b.form
  obtain ⟨p2, c2, e2⟩ := ha.l.form
  obtain ⟨p3, c3, e3⟩ := ha.k.form
  simp only at e1 e2 e3
  subst e1 e2 e3
  have HUV := hid ha.v
  have HUX := hid ha.x
  have B0 := hid (((Blk.new w #[.int .i64 H.1, .slice ah H.2.length ch] 31).alloc (.cells #[.int .i64 a.Do, .int .u64 a.V, .int .u64 a.X, .int .i64 a.I, .slice p1 a.B.length c1, .slice p2 a.L.length c2, .slice p3 a.K.length c3, .string a.Key, .int .u64 a.Re, .int .u64 a.Im] 43)).alloc (.cells #[.int .i64 0, .slice none 0 0] 31))
  have B1 := hid (show Blk (((w.alloc (.cells #[.int .i64 H.1, .slice ah H.2.length ch] 31)).alloc (.cells #[.int .i64 a.Do, .int .u64 a.V, .int .u64 a.X, .int .i64 a.I, .slice p1 a.B.length c1, .slice p2 a.L.length c2, .slice p3 a.K.length c3, .string a.Key, .int .u64 a.Re, .int .u64 a.Im] 43)).alloc (.cells #[.int .i64 0, .slice none 0 0] 31)) (w.heap.size + 1) #[.int .i64 a.Do, .int .u64 a.V, .int .u64 a.X, .int .i64 a.I, .slice p1 a.B.length c1, .slice p2 a.L.length c2, .slice p3 a.K.length c3, .string a.Key, .int .u64 a.Re, .int .u64 a.Im] 43 by simpa using ((Blk.new (w.alloc (.cells #[.int .i64 H.1, .slice ah H.2.length ch] 31)) #[.int .i64 a.Do, .int .u64 a.V, .int .u64 a.X, .int .i64 a.I, .slice p1 a.B.length c1, .slice p2 a.L.length c2, .slice p3 a.K.length c3, .string a.Key, .int .u64 a.Re, .int .u64 a.Im] 43).alloc (.cells #[.int .i64 0, .slice none 0 0] 31)))
  have B2 := hid (show Blk (((w.alloc (.cells #[.int .i64 H.1, .slice ah H.2.length ch] 31)).alloc (.cells #[.int .i64 a.Do, .int .u64 a.V, .int .u64 a.X, .int .i64 a.I, .slice p1 a.B.length c1, .slice p2 a.L.length c2, .slice p3 a.K.length c3, .string a.Key, .int .u64 a.Re, .int .u64 a.Im] 43)).alloc (.cells #[.int .i64 0, .slice none 0 0] 31)) (w.heap.size + 1 + 1) #[.int .i64 0, .slice none 0 0] 31 by simpa using Blk.new ((w.alloc (.cells #[.int .i64 H.1, .slice ah H.2.length ch] 31)).alloc (.cells #[.int .i64 a.Do, .int .u64 a.V, .int .u64 a.X, .int .i64 a.I, .slice p1 a.B.length c1, .slice p2 a.L.length c2, .slice p3 a.K.length c3, .string a.Key, .int .u64 a.Re, .int .u64 a.Im] 43)) #[.int .i64 0, .slice none 0 0] 31)
  have BW := hid (show Bw w (((w.alloc (.cells #[.int .i64 H.1, .slice ah H.2.length ch] 31)).alloc (.cells #[.int .i64 a.Do, .int .u64 a.V, .int .u64 a.X, .int .i64 a.I, .slice p1 a.B.length c1, .slice p2 a.L.length c2, .slice p3 a.K.length c3, .string a.Key, .int .u64 a.Re, .int .u64 a.Im] 43)).alloc (.cells #[.int .i64 0, .slice none 0 0] 31)) from (((Bw.refl w).alloc _).alloc _).alloc _)
  have HS3 := hid (HSS.out.bw BW.out)
  have HLT := hid (fun b (hb : b ∈ bs) => hS.lt hb)
  have HQ0 := hid hq0
  clear hS ht hs ho ha hN hC hq0
  have d0 : decide ((0 : Int) ≤ a.Do) = true := decide_eq_true (by omega)
  have d6 : decide (a.Do ≤ 6) = false := decide_eq_false (by omega)
  have d7 : (a.Do == 7) = false := by simp; omega
  have d8 : (a.Do == 8) = false := by simp; omega
  have d9 : (a.Do == 9) = false := by simp; omega
  have d10 : (a.Do == 10) = true := by simp; omega
  clear hd
  go_enter Try.func14, Try.ntmps14
  go_upto_region 20 with (first
    | (go_at_call 28; refine (put_any _ _ _ HUV.out HUX.out _ HS3.out (fun o ho => (HC.out o ho).2)).mono ?_; rintro e w1 ⟨rfl, bs1, hs1, hn1⟩; have K1 := hid hs1; have N1 := hid (BW.out.nxBefore hn1); have B01 := hid (B0.out.nx hn1 (fun hm => by have := HLT.out _ hm; omega)); have B11 := hid (B1.out.nx hn1 (fun hm => by have := HLT.out _ hm; omega)); have B21 := hid (B2.out.nx hn1 (fun hm => by have := HLT.out _ hm; omega)); have z01 := B01.out.cell; have z11 := B11.out.cell; have hq1 : w.heap.size < w1.heap.size := B01.out.lt; have hq2 : w.heap.size + 1 < w1.heap.size := B11.out.lt; have hq3 : w.heap.size + 1 + 1 < w1.heap.size := B21.out.lt; have Q1 := hid (show w.heap.size + 1 + 1 ∉ bs1 from fun hm => (hn1.2 _ hm).elim (fun hh => by have := HLT.out _ hh; omega) (fun hh => by (try simp at hh); omega)); have R1 := hid (HR.out.nxq N1.out (w.heap.size + 1 + 1) (by omega)); clear hs1 hn1)
    | (go_at_call 43; refine (rputf_any (fun b => b ∉ qs ++ bs1 ∧ b ≠ w.heap.size + 1 + 1) _ H _ _ _ HUV.out HUX.out _ (fun b hb => ⟨fun hmm => (List.mem_append.1 hmm).elim (fun e => by have := HQ0.out _ e; (try simp at hb); omega) (fun hmm => by have h1 := K1.out.lt hmm; (try simp at hb); omega), by (try simp at hb); omega⟩) (RdH.below R1.out (Ly.bw (by repeat (first | exact Ly.refl _ | apply Ly.lay | apply Ly.alloc | apply Ly.drewN | apply Ly.drew)))) HOKH.out (by omega)).mono ?_; rintro e w2 ⟨rv2, rfl, hr2, hb2⟩; obtain ⟨va2, t2, rfl, ht2, hs2, ho2⟩ := (show _ from hr2 : RdH w2 _ rv2 _); obtain ⟨a2, k2, rfl⟩ := hs2.form; have R2 := hid hr2; have BB := hid (Bw.trans (show Bw w1 _ from Ly.bw (by repeat (first | exact Ly.refl _ | apply Ly.lay | apply Ly.alloc | apply Ly.drewN | apply Ly.drew))) hb2); have B22 := hid (B21.out.bw BB.out); have z22 := B22.out.cell; have z22f := B22.out.free; have hq4 : w.heap.size + 1 + 1 < w2.heap.size := B22.out.lt; clear hr2 hb2 ht2 hs2 ho2)
    | (go_at_call 13; refine (num_any _ _).mono ?_; rintro e wq ⟨rfl, hwq⟩; subst wq))
  go_region_held3 (fun w' => w'.cell? ⟨w2.heap.size, 0, none⟩ = some (.int .i64 (aPutH H a.V a.Key a.X).1) ∧ w'.cell? ⟨w2.heap.size, 1, none⟩ = some (.slice a2 (aPutH H a.V a.Key a.X).2.length k2)) (simp [go_sem])
    (first
      | (go_at_call 13; refine (num_any _ _).mono ?_; rintro e wq ⟨rfl, hwq⟩; subst wq)
      | fail)
  all_goals go_wp2
  all_goals
    have bf := ((B22.out.set 0 (.int .i64 (aPutH H a.V a.Key a.X).1)).set 1 (.slice a2 (aPutH H a.V a.Key a.X).2.length k2)).alloc (.cells #[.int .i64 (aPutH H a.V a.Key a.X).1, .slice a2 (aPutH H a.V a.Key a.X).2.length k2] 31)
    have bfc := bf.cell
    refine bodyPost_ret (v := .tuple #[.agg #[.int .i64 (aPutH H a.V a.Key a.X).1, .slice a2 (aPutH H a.V a.Key a.X).2.length k2], .bool true]) (by simp [results, Try.results14, go_sem, bfc]) rfl ?_
    have hf := fin_step (wf := (((w2.setCell ⟨w.heap.size + 1 + 1, 0, none⟩ (.int .i64 (aPutH H a.V a.Key a.X).1)).setCell ⟨w.heap.size + 1 + 1, 1, none⟩ (.slice a2 (aPutH H a.V a.Key a.X).2.length k2)).alloc (.cells #[.int .i64 (aPutH H a.V a.Key a.X).1, .slice a2 (aPutH H a.V a.Key a.X).2.length k2] 31)).drew) N1.out BB.out K1.out Q1.out (by omega) R2.out (q := w.heap.size + 1 + 1) (by simp [World.setCell]) ⟨rfl, rfl, rfl⟩ (fun b hb hne => (Below.heap_alloc ((w2.setCell ⟨w.heap.size + 1 + 1, 0, none⟩ (.int .i64 (aPutH H a.V a.Key a.X).1)).setCell ⟨w.heap.size + 1 + 1, 1, none⟩ (.slice a2 (aPutH H a.V a.Key a.X).2.length k2)) (.cells #[.int .i64 (aPutH H a.V a.Key a.X).1, .slice a2 (aPutH H a.V a.Key a.X).2.length k2] 31) b (by simpa [World.setCell] using hb)).trans ((Below.heap_setCell _ ⟨w.heap.size + 1 + 1, 1, none⟩ (.slice a2 (aPutH H a.V a.Key a.X).2.length k2) b hne).trans (Below.heap_setCell _ ⟨w.heap.size + 1 + 1, 0, none⟩ (.int .i64 (aPutH H a.V a.Key a.X).1) b hne)))
    exact ⟨_, _, _, rfl, hf.1, hf.2.1, HN.out.put HUV.out, HC.out.put _ _ _ HOKH.out HUV.out, (by unfold aPutH; split <;> (try split) <;> (try split) <;> rfl), hf.2.2⟩

theorem mkO_U {w : World} {G : Nat → Prop} {a : AAct} {x : Value × Value × Value} (h : AOK w G a x) (m1 : a.B.length ≤ 300) (m2 : a.L.length ≤ 300) (m3 : a.K.length ≤ 300) :
    (∀ v ∈ (mkO a).vals, U v) ∧ (mkO a).bytes.length ≤ 1000000 ∧ (mkO a).vals.length ≤ 1000000 ∧ (mkO a).keys.length ≤ 1000000 := by
  have h0 : ∀ v ∈ ([] : List Int), U v := fun v hv => by simp at hv
  have hx : ∀ v ∈ [a.X], U v := fun v hv => by rw [List.mem_singleton] at hv; subst hv; exact h.x
  unfold mkO
  split
  · exact ⟨h0, show a.B.length ≤ 1000000 by omega, Nat.zero_le _, Nat.zero_le _⟩
  split
  · exact ⟨h.lu, Nat.zero_le _, show a.L.length ≤ 1000000 by omega, Nat.zero_le _⟩
  split
  · exact ⟨h.lu, Nat.zero_le _, show a.L.length ≤ 1000000 by omega, show a.K.length ≤ 1000000 by omega⟩
  split
  · exact ⟨hx, Nat.zero_le _, (by decide : 1 ≤ 1000000), Nat.zero_le _⟩
  split
  · exact ⟨h.lu, Nat.zero_le _, show a.L.length ≤ 1000000 by omega, Nat.zero_le _⟩
  split
  · exact ⟨h0, Nat.zero_le _, Nat.zero_le _, Nat.zero_le _⟩
  · exact ⟨h0, Nat.zero_le _, Nat.zero_le _, Nat.zero_le _⟩

set_option maxRecDepth 100000 in
set_option maxHeartbeats 16000000 in
theorem step_make (rv : Value) {b0 : Nat} {H : AHeap} {bs : List Nat} (a : AAct) (x : Value × Value × Value) (w : World) (hS : HS w b0 H bs) (qs : List Nat) (hq0 : ∀ q ∈ qs, q < w.heap.size) (h : RdH w (fun b => b ∉ qs ++ bs) rv H) (ha : AOK w (fun b => b ∉ bs) a x) (hN : NeatH H) (hC : Capped H) (hm : H.2.length ≤ 65536) (m1 : a.B.length ≤ 300) (m2 : a.L.length ≤ 300) (m3 : a.K.length ≤ 300) (hd : 0 ≤ a.Do ∧ a.Do ≤ 6) :
    Calls Try.prog 14 #[.pointer (some ⟨b0, 0, none⟩), rv, actV a x] w fun e w' => ∃ rv' H' bs', e = .returned (.tuple #[rv', .bool true]) ∧ HS w' b0 H' bs' ∧ RdH w' (fun b => b ∉ qs ++ bs') rv' H' ∧ NeatH H' ∧ Capped H' ∧ H'.1 = H.1 ∧ Nx bs w w' bs' := by
  have HSS := hid hS
  have HR := hid h
  have HA := hid ha
  have HN := hid hN
  have HC := hid hC
  have HOKH := hid hS.ok
  obtain ⟨va, t, rfl, ht, hs, ho⟩ := h
  obtain ⟨ah, ch, rfl⟩ := hs.form
  obtain ⟨vb0, vl0, vk0⟩ := x
  obtain ⟨p1, c1, e1⟩ := ha.b.form
  obtain ⟨p2, c2, e2⟩ := ha.l.form
  obtain ⟨p3, c3, e3⟩ := ha.k.form
  simp only at e1 e2 e3
  subst e1 e2 e3
  have HUV := hid ha.v
  have HUX := hid ha.x
  have B0 := hid (((Blk.new w #[.int .i64 H.1, .slice ah H.2.length ch] 31).alloc (.cells #[.int .i64 a.Do, .int .u64 a.V, .int .u64 a.X, .int .i64 a.I, .slice p1 a.B.length c1, .slice p2 a.L.length c2, .slice p3 a.K.length c3, .string a.Key, .int .u64 a.Re, .int .u64 a.Im] 43)).alloc (.cells #[.int .i64 0, .slice none 0 0] 31))
  have B1 := hid (show Blk (((w.alloc (.cells #[.int .i64 H.1, .slice ah H.2.length ch] 31)).alloc (.cells #[.int .i64 a.Do, .int .u64 a.V, .int .u64 a.X, .int .i64 a.I, .slice p1 a.B.length c1, .slice p2 a.L.length c2, .slice p3 a.K.length c3, .string a.Key, .int .u64 a.Re, .int .u64 a.Im] 43)).alloc (.cells #[.int .i64 0, .slice none 0 0] 31)) (w.heap.size + 1) #[.int .i64 a.Do, .int .u64 a.V, .int .u64 a.X, .int .i64 a.I, .slice p1 a.B.length c1, .slice p2 a.L.length c2, .slice p3 a.K.length c3, .string a.Key, .int .u64 a.Re, .int .u64 a.Im] 43 by simpa using ((Blk.new (w.alloc (.cells #[.int .i64 H.1, .slice ah H.2.length ch] 31)) #[.int .i64 a.Do, .int .u64 a.V, .int .u64 a.X, .int .i64 a.I, .slice p1 a.B.length c1, .slice p2 a.L.length c2, .slice p3 a.K.length c3, .string a.Key, .int .u64 a.Re, .int .u64 a.Im] 43).alloc (.cells #[.int .i64 0, .slice none 0 0] 31)))
  have B2 := hid (show Blk (((w.alloc (.cells #[.int .i64 H.1, .slice ah H.2.length ch] 31)).alloc (.cells #[.int .i64 a.Do, .int .u64 a.V, .int .u64 a.X, .int .i64 a.I, .slice p1 a.B.length c1, .slice p2 a.L.length c2, .slice p3 a.K.length c3, .string a.Key, .int .u64 a.Re, .int .u64 a.Im] 43)).alloc (.cells #[.int .i64 0, .slice none 0 0] 31)) (w.heap.size + 1 + 1) #[.int .i64 0, .slice none 0 0] 31 by simpa using Blk.new ((w.alloc (.cells #[.int .i64 H.1, .slice ah H.2.length ch] 31)).alloc (.cells #[.int .i64 a.Do, .int .u64 a.V, .int .u64 a.X, .int .i64 a.I, .slice p1 a.B.length c1, .slice p2 a.L.length c2, .slice p3 a.K.length c3, .string a.Key, .int .u64 a.Re, .int .u64 a.Im] 43)) #[.int .i64 0, .slice none 0 0] 31)
  have BW := hid (show Bw w (((w.alloc (.cells #[.int .i64 H.1, .slice ah H.2.length ch] 31)).alloc (.cells #[.int .i64 a.Do, .int .u64 a.V, .int .u64 a.X, .int .i64 a.I, .slice p1 a.B.length c1, .slice p2 a.L.length c2, .slice p3 a.K.length c3, .string a.Key, .int .u64 a.Re, .int .u64 a.Im] 43)).alloc (.cells #[.int .i64 0, .slice none 0 0] 31)) from (((Bw.refl w).alloc _).alloc _).alloc _)
  have HS3 := hid (HSS.out.bw BW.out)
  have HLT := hid (fun b (hb : b ∈ bs) => hS.lt hb)
  have HQ0 := hid hq0
  clear hS ht hs ho ha hN hC hq0
  have d0 : decide ((0 : Int) ≤ a.Do) = true := decide_eq_true (by omega)
  have d6 : decide (a.Do ≤ 6) = true := decide_eq_true hd.2
  have MU := hid (mkO_U HA.out m1 m2 m3)
  clear hd
  go_enter Try.func14, Try.ntmps14
  go_upto_region 4 with (first
    | (go_at_call 21; refine (make1_any a (.slice p1 a.B.length c1, .slice p2 a.L.length c2, .slice p3 a.K.length c3) _ HS3.out (AOK.bw HA.out BW.out) (by omega) (by omega) (by omega)).mono ?_; rintro e w1 ⟨vb, vv, vk, rfl, bs1, hol, hs1, hn1⟩; obtain ⟨y1, d1, rfl⟩ := hol.1.form; obtain ⟨y2, d2, rfl⟩ := hol.2.1.form; obtain ⟨y3, d3, rfl⟩ := hol.2.2.form; have HOL := hid hol; have K1 := hid hs1; have N1 := hid (BW.out.nxBefore hn1); have B01 := hid (B0.out.nx hn1 (fun hm => by have := HLT.out _ hm; omega)); have B11 := hid (B1.out.nx hn1 (fun hm => by have := HLT.out _ hm; omega)); have B21 := hid (B2.out.nx hn1 (fun hm => by have := HLT.out _ hm; omega)); have z01 := B01.out.cell; have z11 := B11.out.cell; have hq1 : w.heap.size < w1.heap.size := B01.out.lt; have hq2 : w.heap.size + 1 < w1.heap.size := B11.out.lt; have hq3 : w.heap.size + 1 + 1 < w1.heap.size := B21.out.lt; have Q1 := hid (show w.heap.size + 1 + 1 ∉ bs1 from fun hm => (hn1.2 _ hm).elim (fun hh => by have := HLT.out _ hh; omega) (fun hh => by (try simp at hh); omega)); have R1 := hid (HR.out.nxq N1.out (w.heap.size + 1 + 1) (by omega)); clear hs1 hn1; clear hol)
    | (go_at_call 39; refine (rmake_any (fun b => b ∉ qs ++ bs1 ∧ b ≠ w.heap.size + 1 + 1) (fun b => b ∉ bs1) _ H (mkO a) _ _ _ _ (fun b hb => ⟨fun hmm => (List.mem_append.1 hmm).elim (fun e => by have := HQ0.out _ e; (try simp at hb); omega) (fun hmm => by have h1 := K1.out.lt hmm; (try simp at hb); omega), by (try simp at hb); omega⟩) (RdH.below R1.out (Ly.bw (by repeat (first | exact Ly.refl _ | apply Ly.lay | apply Ly.alloc | apply Ly.drewN | apply Ly.drew)))) (OL.below HOL.out (Ly.bw (by repeat (first | exact Ly.refl _ | apply Ly.lay | apply Ly.alloc | apply Ly.drewN | apply Ly.drew)))) MU.out.1 (by omega) MU.out.2.1 MU.out.2.2.1 MU.out.2.2.2).mono ?_; rw [dMakeV_eq, dMake_eq, dMakeH_eq]; rintro e w2 ⟨rv2, rfl, hr2, hb2⟩; obtain ⟨va2, t2, rfl, ht2, hs2, ho2⟩ := (show _ from hr2 : RdH w2 _ rv2 _); obtain ⟨a2, k2, rfl⟩ := hs2.form; have R2 := hid hr2; have BB := hid (Bw.trans (show Bw w1 _ from Ly.bw (by repeat (first | exact Ly.refl _ | apply Ly.lay | apply Ly.alloc | apply Ly.drewN | apply Ly.drew))) hb2); have B22 := hid (B21.out.bw BB.out); have z22 := B22.out.cell; have z22f := B22.out.free; have hq4 : w.heap.size + 1 + 1 < w2.heap.size := B22.out.lt; clear hr2 hb2 ht2 hs2 ho2)
    | (go_at_call 13; refine (num_any _ _).mono ?_; rintro e wq ⟨rfl, hwq⟩; subst wq))
  go_region_held3 (fun w' => w'.cell? ⟨w2.heap.size, 0, none⟩ = some (.int .i64 (kMakeH H a).1) ∧ w'.cell? ⟨w2.heap.size, 1, none⟩ = some (.slice a2 (kMakeH H a).2.length k2)) (simp [go_sem])
    (first
      | (go_at_call 13; refine (num_any _ _).mono ?_; rintro e wq ⟨rfl, hwq⟩; subst wq)
      | fail)
  all_goals go_wp2
  all_goals
    have bf := ((B22.out.set 0 (.int .i64 (kMakeH H a).1)).set 1 (.slice a2 (kMakeH H a).2.length k2)).alloc (.cells #[.int .i64 (kMakeH H a).1, .slice a2 (kMakeH H a).2.length k2] 31)
    have bfc := bf.cell
    refine bodyPost_ret (v := .tuple #[.agg #[.int .i64 (kMakeH H a).1, .slice a2 (kMakeH H a).2.length k2], .bool true]) (by simp [results, Try.results14, go_sem, bfc]) rfl ?_
    have hf := fin_step (wf := (((w2.setCell ⟨w.heap.size + 1 + 1, 0, none⟩ (.int .i64 (kMakeH H a).1)).setCell ⟨w.heap.size + 1 + 1, 1, none⟩ (.slice a2 (kMakeH H a).2.length k2)).alloc (.cells #[.int .i64 (kMakeH H a).1, .slice a2 (kMakeH H a).2.length k2] 31)).drew) N1.out BB.out K1.out Q1.out (by omega) R2.out (q := w.heap.size + 1 + 1) (by simp [World.setCell]) ⟨rfl, rfl, rfl⟩ (fun b hb hne => (Below.heap_alloc ((w2.setCell ⟨w.heap.size + 1 + 1, 0, none⟩ (.int .i64 (kMakeH H a).1)).setCell ⟨w.heap.size + 1 + 1, 1, none⟩ (.slice a2 (kMakeH H a).2.length k2)) (.cells #[.int .i64 (kMakeH H a).1, .slice a2 (kMakeH H a).2.length k2] 31) b (by simpa [World.setCell] using hb)).trans ((Below.heap_setCell _ ⟨w.heap.size + 1 + 1, 1, none⟩ (.slice a2 (kMakeH H a).2.length k2) b hne).trans (Below.heap_setCell _ ⟨w.heap.size + 1 + 1, 0, none⟩ (.int .i64 (kMakeH H a).1) b hne)))
    exact ⟨_, _, _, rfl, hf.1, hf.2.1, HN.out.make _, HC.out.make _, kMakeH_most H a, hf.2.2⟩


set_option maxRecDepth 100000 in
set_option maxHeartbeats 16000000 in
theorem step_below (rv : Value) {b0 : Nat} {H : AHeap} {bs : List Nat} (a : AAct) (x : Value × Value × Value) (w : World) (hS : HS w b0 H bs) (qs : List Nat) (hq0 : ∀ q ∈ qs, q < w.heap.size) (h : RdH w (fun b => b ∉ qs ++ bs) rv H) (ha : AOK w (fun b => b ∉ bs) a x) (hN : NeatH H) (hC : Capped H) (hm : H.2.length ≤ 65536) (m1 : a.B.length ≤ 300) (m2 : a.L.length ≤ 300) (m3 : a.K.length ≤ 300) (hd : a.Do < 0) :
    Calls Try.prog 14 #[.pointer (some ⟨b0, 0, none⟩), rv, actV a x] w fun e w' => ∃ rv' H' bs', e = .returned (.tuple #[rv', .bool true]) ∧ HS w' b0 H' bs' ∧ RdH w' (fun b => b ∉ qs ++ bs') rv' H' ∧ NeatH H' ∧ Capped H' ∧ H'.1 = H.1 ∧ Nx bs w w' bs' := by
  have HSS := hid hS
  have HR := hid h
  have HA := hid ha
  have HN := hid hN
  have HC := hid hC
  have HOKH := hid hS.ok
  obtain ⟨va, t, rfl, ht, hs, ho⟩ := h
  obtain ⟨ah, ch, rfl⟩ := hs.form
  obtain ⟨vb0, vl0, vk0⟩ := x
  obtain ⟨p1, c1, e1⟩ := ha.b.form
  obtain ⟨p2, c2, e2⟩ := ha.l.form
  obtain ⟨p3, c3, e3⟩ := ha.k.form
  simp only at e1 e2 e3
  subst e1 e2 e3
  have HUV := hid ha.v
  have HUX := hid ha.x
  have B0 := hid (((Blk.new w #[.int .i64 H.1, .slice ah H.2.length ch] 31).alloc (.cells #[.int .i64 a.Do, .int .u64 a.V, .int .u64 a.X, .int .i64 a.I, .slice p1 a.B.length c1, .slice p2 a.L.length c2, .slice p3 a.K.length c3, .string a.Key, .int .u64 a.Re, .int .u64 a.Im] 43)).alloc (.cells #[.int .i64 0, .slice none 0 0] 31))
  have B1 := hid (show Blk (((w.alloc (.cells #[.int .i64 H.1, .slice ah H.2.length ch] 31)).alloc (.cells #[.int .i64 a.Do, .int .u64 a.V, .int .u64 a.X, .int .i64 a.I, .slice p1 a.B.length c1, .slice p2 a.L.length c2, .slice p3 a.K.length c3, .string a.Key, .int .u64 a.Re, .int .u64 a.Im] 43)).alloc (.cells #[.int .i64 0, .slice none 0 0] 31)) (w.heap.size + 1) #[.int .i64 a.Do, .int .u64 a.V, .int .u64 a.X, .int .i64 a.I, .slice p1 a.B.length c1, .slice p2 a.L.length c2, .slice p3 a.K.length c3, .string a.Key, .int .u64 a.Re, .int .u64 a.Im] 43 by simpa using ((Blk.new (w.alloc (.cells #[.int .i64 H.1, .slice ah H.2.length ch] 31)) #[.int .i64 a.Do, .int .u64 a.V, .int .u64 a.X, .int .i64 a.I, .slice p1 a.B.length c1, .slice p2 a.L.length c2, .slice p3 a.K.length c3, .string a.Key, .int .u64 a.Re, .int .u64 a.Im] 43).alloc (.cells #[.int .i64 0, .slice none 0 0] 31)))
  have B2 := hid (show Blk (((w.alloc (.cells #[.int .i64 H.1, .slice ah H.2.length ch] 31)).alloc (.cells #[.int .i64 a.Do, .int .u64 a.V, .int .u64 a.X, .int .i64 a.I, .slice p1 a.B.length c1, .slice p2 a.L.length c2, .slice p3 a.K.length c3, .string a.Key, .int .u64 a.Re, .int .u64 a.Im] 43)).alloc (.cells #[.int .i64 0, .slice none 0 0] 31)) (w.heap.size + 1 + 1) #[.int .i64 0, .slice none 0 0] 31 by simpa using Blk.new ((w.alloc (.cells #[.int .i64 H.1, .slice ah H.2.length ch] 31)).alloc (.cells #[.int .i64 a.Do, .int .u64 a.V, .int .u64 a.X, .int .i64 a.I, .slice p1 a.B.length c1, .slice p2 a.L.length c2, .slice p3 a.K.length c3, .string a.Key, .int .u64 a.Re, .int .u64 a.Im] 43)) #[.int .i64 0, .slice none 0 0] 31)
  have BW := hid (show Bw w (((w.alloc (.cells #[.int .i64 H.1, .slice ah H.2.length ch] 31)).alloc (.cells #[.int .i64 a.Do, .int .u64 a.V, .int .u64 a.X, .int .i64 a.I, .slice p1 a.B.length c1, .slice p2 a.L.length c2, .slice p3 a.K.length c3, .string a.Key, .int .u64 a.Re, .int .u64 a.Im] 43)).alloc (.cells #[.int .i64 0, .slice none 0 0] 31)) from (((Bw.refl w).alloc _).alloc _).alloc _)
  have HS3 := hid (HSS.out.bw BW.out)
  have HLT := hid (fun b (hb : b ∈ bs) => hS.lt hb)
  have HQ0 := hid hq0
  clear hS ht hs ho ha hN hC hq0
  have DD := hid (show (a.Do == 7) = false ∧ (a.Do == 8) = false ∧ (a.Do == 9) = false ∧ (a.Do == 10) = false by simp only [beq_eq_false_iff_ne]; omega)
  have d0 : decide ((0 : Int) ≤ a.Do) = false := decide_eq_false (by omega)
  clear hd
  have d7 : (a.Do == 7) = false := DD.out.1
  have d8 : (a.Do == 8) = false := DD.out.2.1
  have d9 : (a.Do == 9) = false := DD.out.2.2.1
  have d10 : (a.Do == 10) = false := DD.out.2.2.2
  go_enter Try.func14, Try.ntmps14
  go_wp2_with fail
  go_region_held3 (fun w' => w'.cell? ⟨w.heap.size, 0, none⟩ = some (.int .i64 H.1) ∧ w'.cell? ⟨w.heap.size, 1, none⟩ = some (.slice ah H.2.length ch) ∧ w'.cell? ⟨w.heap.size + 1, 0, none⟩ = some (.int .i64 a.Do) ∧ w'.cell? ⟨w.heap.size + 1, 1, none⟩ = some (.int .u64 a.V) ∧ w'.cell? ⟨w.heap.size + 1, 2, none⟩ = some (.int .u64 a.X) ∧ w'.cell? ⟨w.heap.size + 1, 3, none⟩ = some (.int .i64 a.I) ∧ w'.cell? ⟨w.heap.size + 1, 4, none⟩ = some (.slice p1 a.B.length c1) ∧ w'.cell? ⟨w.heap.size + 1, 5, none⟩ = some (.slice p2 a.L.length c2) ∧ w'.cell? ⟨w.heap.size + 1, 6, none⟩ = some (.slice p3 a.K.length c3) ∧ w'.cell? ⟨w.heap.size + 1, 7, none⟩ = some (.string a.Key) ∧ w'.cell? ⟨w.heap.size + 1, 8, none⟩ = some (.int .u64 a.Re) ∧ w'.cell? ⟨w.heap.size + 1, 9, none⟩ = some (.int .u64 a.Im)) (first | (simp [go_sem]; done) | (simp [go_sem, *]; done))
    (first
      | (go_at_call 44; refine (asks_any (fun b => b ∉ qs ++ bs) (fun b => b ∉ bs) _ a (.slice p1 a.B.length c1, .slice p2 a.L.length c2, .slice p3 a.K.length c3) _ (HSS.out.bw (Ly.bw (by repeat (first | exact Ly.refl _ | apply Ly.lay | apply Ly.alloc | apply Ly.drewN | apply Ly.drew)))) (RdH.below HR.out (Ly.bw (by repeat (first | exact Ly.refl _ | apply Ly.lay | apply Ly.alloc | apply Ly.drewN | apply Ly.drew)))) (AOK.bw HA.out (Ly.bw (by repeat (first | exact Ly.refl _ | apply Ly.lay | apply Ly.alloc | apply Ly.drewN | apply Ly.drew)))) HN.out (by omega)).mono ?_; rintro e w6 ⟨rfl, hb6⟩; have BB := hid (Bw.trans (show Bw w _ from Ly.bw (by repeat (first | exact Ly.refl _ | apply Ly.lay | apply Ly.alloc | apply Ly.drewN | apply Ly.drew))) hb6); have B26 := hid ((show Blk _ (w.heap.size + 1 + 1) #[.int .i64 0, .slice none 0 0] 31 from by repeat (first | exact B2.out | apply Blk.drew)).bw hb6); have B06 := hid ((show Blk _ w.heap.size #[.int .i64 H.1, .slice ah H.2.length ch] 31 from by repeat (first | exact B0.out | apply Blk.drew)).bw hb6); have B16 := hid ((show Blk _ (w.heap.size + 1) #[.int .i64 a.Do, .int .u64 a.V, .int .u64 a.X, .int .i64 a.I, .slice p1 a.B.length c1, .slice p2 a.L.length c2, .slice p3 a.K.length c3, .string a.Key, .int .u64 a.Re, .int .u64 a.Im] 43 from by repeat (first | exact B1.out | apply Blk.drew)).bw hb6); have z26 := B26.out.cell; have z26f := B26.out.free; have z06 := B06.out.cell; have z16 := B16.out.cell; have hq4 : w.heap.size + 1 + 1 < w6.heap.size := B26.out.lt; clear hb6)
      | fail)
  all_goals go_wp2
  all_goals
    have bf := (B26.out.set 0 (.int .i64 H.1)).set 1 (.slice ah H.2.length ch)
    have bfc := bf.cell
    refine bodyPost_ret (v := .tuple #[.agg #[.int .i64 H.1, .slice ah H.2.length ch], .bool true]) (by simp [results, Try.results14, go_sem, bfc]) rfl ?_
    have hf := fin_step (wf := (w6.setCell ⟨w.heap.size + 1 + 1, 0, none⟩ (.int .i64 H.1)).setCell ⟨w.heap.size + 1 + 1, 1, none⟩ (.slice ah H.2.length ch)) (q := w.heap.size + 1 + 1) ((Bw.refl w).nx bs) BB.out HSS.out (fun hmm => by have := HLT.out _ hmm; omega) (by omega) (HR.out.nxq (BB.out.nx bs) (w.heap.size + 1 + 1) (by omega)) (by simp [World.setCell]) ⟨rfl, rfl, rfl⟩ (fun b hb hne => (Below.heap_setCell _ ⟨w.heap.size + 1 + 1, 1, none⟩ (.slice ah H.2.length ch) b hne).trans (Below.heap_setCell _ ⟨w.heap.size + 1 + 1, 0, none⟩ (.int .i64 H.1) b hne))
    exact ⟨_, _, _, rfl, hf.1, hf.2.1, HN.out, HC.out, rfl, hf.2.2⟩

set_option maxRecDepth 100000 in
set_option maxHeartbeats 16000000 in
theorem step_beyond (rv : Value) {b0 : Nat} {H : AHeap} {bs : List Nat} (a : AAct) (x : Value × Value × Value) (w : World) (hS : HS w b0 H bs) (qs : List Nat) (hq0 : ∀ q ∈ qs, q < w.heap.size) (h : RdH w (fun b => b ∉ qs ++ bs) rv H) (ha : AOK w (fun b => b ∉ bs) a x) (hN : NeatH H) (hC : Capped H) (hm : H.2.length ≤ 65536) (m1 : a.B.length ≤ 300) (m2 : a.L.length ≤ 300) (m3 : a.K.length ≤ 300) (hd : 10 < a.Do) :
    Calls Try.prog 14 #[.pointer (some ⟨b0, 0, none⟩), rv, actV a x] w fun e w' => ∃ rv' H' bs', e = .returned (.tuple #[rv', .bool true]) ∧ HS w' b0 H' bs' ∧ RdH w' (fun b => b ∉ qs ++ bs') rv' H' ∧ NeatH H' ∧ Capped H' ∧ H'.1 = H.1 ∧ Nx bs w w' bs' := by
  have HSS := hid hS
  have HR := hid h
  have HA := hid ha
  have HN := hid hN
  have HC := hid hC
  have HOKH := hid hS.ok
  obtain ⟨va, t, rfl, ht, hs, ho⟩ := h
  obtain ⟨ah, ch, rfl⟩ := hs.form
  obtain ⟨vb0, vl0, vk0⟩ := x
  obtain ⟨p1, c1, e1⟩ := ha.b.form
  obtain ⟨p2, c2, e2⟩ := ha.l.form
  obtain ⟨p3, c3, e3⟩ := ha.k.form
  simp only at e1 e2 e3
  subst e1 e2 e3
  have HUV := hid ha.v
  have HUX := hid ha.x
  have B0 := hid (((Blk.new w #[.int .i64 H.1, .slice ah H.2.length ch] 31).alloc (.cells #[.int .i64 a.Do, .int .u64 a.V, .int .u64 a.X, .int .i64 a.I, .slice p1 a.B.length c1, .slice p2 a.L.length c2, .slice p3 a.K.length c3, .string a.Key, .int .u64 a.Re, .int .u64 a.Im] 43)).alloc (.cells #[.int .i64 0, .slice none 0 0] 31))
  have B1 := hid (show Blk (((w.alloc (.cells #[.int .i64 H.1, .slice ah H.2.length ch] 31)).alloc (.cells #[.int .i64 a.Do, .int .u64 a.V, .int .u64 a.X, .int .i64 a.I, .slice p1 a.B.length c1, .slice p2 a.L.length c2, .slice p3 a.K.length c3, .string a.Key, .int .u64 a.Re, .int .u64 a.Im] 43)).alloc (.cells #[.int .i64 0, .slice none 0 0] 31)) (w.heap.size + 1) #[.int .i64 a.Do, .int .u64 a.V, .int .u64 a.X, .int .i64 a.I, .slice p1 a.B.length c1, .slice p2 a.L.length c2, .slice p3 a.K.length c3, .string a.Key, .int .u64 a.Re, .int .u64 a.Im] 43 by simpa using ((Blk.new (w.alloc (.cells #[.int .i64 H.1, .slice ah H.2.length ch] 31)) #[.int .i64 a.Do, .int .u64 a.V, .int .u64 a.X, .int .i64 a.I, .slice p1 a.B.length c1, .slice p2 a.L.length c2, .slice p3 a.K.length c3, .string a.Key, .int .u64 a.Re, .int .u64 a.Im] 43).alloc (.cells #[.int .i64 0, .slice none 0 0] 31)))
  have B2 := hid (show Blk (((w.alloc (.cells #[.int .i64 H.1, .slice ah H.2.length ch] 31)).alloc (.cells #[.int .i64 a.Do, .int .u64 a.V, .int .u64 a.X, .int .i64 a.I, .slice p1 a.B.length c1, .slice p2 a.L.length c2, .slice p3 a.K.length c3, .string a.Key, .int .u64 a.Re, .int .u64 a.Im] 43)).alloc (.cells #[.int .i64 0, .slice none 0 0] 31)) (w.heap.size + 1 + 1) #[.int .i64 0, .slice none 0 0] 31 by simpa using Blk.new ((w.alloc (.cells #[.int .i64 H.1, .slice ah H.2.length ch] 31)).alloc (.cells #[.int .i64 a.Do, .int .u64 a.V, .int .u64 a.X, .int .i64 a.I, .slice p1 a.B.length c1, .slice p2 a.L.length c2, .slice p3 a.K.length c3, .string a.Key, .int .u64 a.Re, .int .u64 a.Im] 43)) #[.int .i64 0, .slice none 0 0] 31)
  have BW := hid (show Bw w (((w.alloc (.cells #[.int .i64 H.1, .slice ah H.2.length ch] 31)).alloc (.cells #[.int .i64 a.Do, .int .u64 a.V, .int .u64 a.X, .int .i64 a.I, .slice p1 a.B.length c1, .slice p2 a.L.length c2, .slice p3 a.K.length c3, .string a.Key, .int .u64 a.Re, .int .u64 a.Im] 43)).alloc (.cells #[.int .i64 0, .slice none 0 0] 31)) from (((Bw.refl w).alloc _).alloc _).alloc _)
  have HS3 := hid (HSS.out.bw BW.out)
  have HLT := hid (fun b (hb : b ∈ bs) => hS.lt hb)
  have HQ0 := hid hq0
  clear hS ht hs ho ha hN hC hq0
  have DD := hid (show (a.Do == 7) = false ∧ (a.Do == 8) = false ∧ (a.Do == 9) = false ∧ (a.Do == 10) = false by simp only [beq_eq_false_iff_ne]; omega)
  have d0 : decide ((0 : Int) ≤ a.Do) = true := decide_eq_true (by omega)
  have d6 : decide (a.Do ≤ 6) = false := decide_eq_false (by omega)
  clear hd
  have d7 : (a.Do == 7) = false := DD.out.1
  have d8 : (a.Do == 8) = false := DD.out.2.1
  have d9 : (a.Do == 9) = false := DD.out.2.2.1
  have d10 : (a.Do == 10) = false := DD.out.2.2.2
  go_enter Try.func14, Try.ntmps14
  go_wp2_with fail
  go_region_held3 (fun w' => w'.cell? ⟨w.heap.size, 0, none⟩ = some (.int .i64 H.1) ∧ w'.cell? ⟨w.heap.size, 1, none⟩ = some (.slice ah H.2.length ch) ∧ w'.cell? ⟨w.heap.size + 1, 0, none⟩ = some (.int .i64 a.Do) ∧ w'.cell? ⟨w.heap.size + 1, 1, none⟩ = some (.int .u64 a.V) ∧ w'.cell? ⟨w.heap.size + 1, 2, none⟩ = some (.int .u64 a.X) ∧ w'.cell? ⟨w.heap.size + 1, 3, none⟩ = some (.int .i64 a.I) ∧ w'.cell? ⟨w.heap.size + 1, 4, none⟩ = some (.slice p1 a.B.length c1) ∧ w'.cell? ⟨w.heap.size + 1, 5, none⟩ = some (.slice p2 a.L.length c2) ∧ w'.cell? ⟨w.heap.size + 1, 6, none⟩ = some (.slice p3 a.K.length c3) ∧ w'.cell? ⟨w.heap.size + 1, 7, none⟩ = some (.string a.Key) ∧ w'.cell? ⟨w.heap.size + 1, 8, none⟩ = some (.int .u64 a.Re) ∧ w'.cell? ⟨w.heap.size + 1, 9, none⟩ = some (.int .u64 a.Im)) (first | (simp [go_sem]; done) | (simp [go_sem, *]; done))
    (first
      | (go_at_call 44; refine (asks_any (fun b => b ∉ qs ++ bs) (fun b => b ∉ bs) _ a (.slice p1 a.B.length c1, .slice p2 a.L.length c2, .slice p3 a.K.length c3) _ (HSS.out.bw (Ly.bw (by repeat (first | exact Ly.refl _ | apply Ly.lay | apply Ly.alloc | apply Ly.drewN | apply Ly.drew)))) (RdH.below HR.out (Ly.bw (by repeat (first | exact Ly.refl _ | apply Ly.lay | apply Ly.alloc | apply Ly.drewN | apply Ly.drew)))) (AOK.bw HA.out (Ly.bw (by repeat (first | exact Ly.refl _ | apply Ly.lay | apply Ly.alloc | apply Ly.drewN | apply Ly.drew)))) HN.out (by omega)).mono ?_; rintro e w6 ⟨rfl, hb6⟩; have BB := hid (Bw.trans (show Bw w _ from Ly.bw (by repeat (first | exact Ly.refl _ | apply Ly.lay | apply Ly.alloc | apply Ly.drewN | apply Ly.drew))) hb6); have B26 := hid ((show Blk _ (w.heap.size + 1 + 1) #[.int .i64 0, .slice none 0 0] 31 from by repeat (first | exact B2.out | apply Blk.drew)).bw hb6); have B06 := hid ((show Blk _ w.heap.size #[.int .i64 H.1, .slice ah H.2.length ch] 31 from by repeat (first | exact B0.out | apply Blk.drew)).bw hb6); have B16 := hid ((show Blk _ (w.heap.size + 1) #[.int .i64 a.Do, .int .u64 a.V, .int .u64 a.X, .int .i64 a.I, .slice p1 a.B.length c1, .slice p2 a.L.length c2, .slice p3 a.K.length c3, .string a.Key, .int .u64 a.Re, .int .u64 a.Im] 43 from by repeat (first | exact B1.out | apply Blk.drew)).bw hb6); have z26 := B26.out.cell; have z26f := B26.out.free; have z06 := B06.out.cell; have z16 := B16.out.cell; have hq4 : w.heap.size + 1 + 1 < w6.heap.size := B26.out.lt; clear hb6)
      | fail)
  all_goals go_wp2
  all_goals
    have bf := (B26.out.set 0 (.int .i64 H.1)).set 1 (.slice ah H.2.length ch)
    have bfc := bf.cell
    refine bodyPost_ret (v := .tuple #[.agg #[.int .i64 H.1, .slice ah H.2.length ch], .bool true]) (by simp [results, Try.results14, go_sem, bfc]) rfl ?_
    have hf := fin_step (wf := (w6.setCell ⟨w.heap.size + 1 + 1, 0, none⟩ (.int .i64 H.1)).setCell ⟨w.heap.size + 1 + 1, 1, none⟩ (.slice ah H.2.length ch)) (q := w.heap.size + 1 + 1) ((Bw.refl w).nx bs) BB.out HSS.out (fun hmm => by have := HLT.out _ hmm; omega) (by omega) (HR.out.nxq (BB.out.nx bs) (w.heap.size + 1 + 1) (by omega)) (by simp [World.setCell]) ⟨rfl, rfl, rfl⟩ (fun b hb hne => (Below.heap_setCell _ ⟨w.heap.size + 1 + 1, 1, none⟩ (.slice ah H.2.length ch) b hne).trans (Below.heap_setCell _ ⟨w.heap.size + 1 + 1, 0, none⟩ (.int .i64 H.1) b hne))
    exact ⟨_, _, _, rfl, hf.1, hf.2.1, HN.out, HC.out, rfl, hf.2.2⟩

theorem step_any (rv : Value) {b0 : Nat} {H : AHeap} {bs : List Nat} (a : AAct) (x : Value × Value × Value) (w : World) (hS : HS w b0 H bs) (qs : List Nat) (hq0 : ∀ q ∈ qs, q < w.heap.size) (h : RdH w (fun b => b ∉ qs ++ bs) rv H) (ha : AOK w (fun b => b ∉ bs) a x) (hN : NeatH H) (hC : Capped H) (hm : H.2.length ≤ 65536) (m1 : a.B.length ≤ 300) (m2 : a.L.length ≤ 300) (m3 : a.K.length ≤ 300) :
    Calls Try.prog 14 #[.pointer (some ⟨b0, 0, none⟩), rv, actV a x] w fun e w' => ∃ rv' H' bs', e = .returned (.tuple #[rv', .bool true]) ∧ HS w' b0 H' bs' ∧ RdH w' (fun b => b ∉ qs ++ bs') rv' H' ∧ NeatH H' ∧ Capped H' ∧ H'.1 = H.1 ∧ Nx bs w w' bs' := by
  by_cases h0 : a.Do < 0
  · exact step_below rv a x w hS qs hq0 h ha hN hC hm m1 m2 m3 h0
  by_cases h6 : a.Do ≤ 6
  · exact step_make rv a x w hS qs hq0 h ha hN hC hm m1 m2 m3 ⟨by omega, h6⟩
  by_cases h7 : a.Do = 7
  · exact step_set rv a x w hS qs hq0 h ha hN hC hm m1 m2 m3 h7
  by_cases h8 : a.Do = 8
  · exact step_push rv a x w hS qs hq0 h ha hN hC hm m1 m2 m3 h8
  by_cases h9 : a.Do = 9
  · exact step_pop rv a x w hS qs hq0 h ha hN hC hm m1 m2 m3 h9
  by_cases h10 : a.Do = 10
  · exact step_put rv a x w hS qs hq0 h ha hN hC hm m1 m2 m3 h10
  · exact step_beyond rv a x w hS qs hq0 h ha hN hC hm m1 m2 m3 (by omega)

end Go.Proofs.Ytolfgkpmcfneiaa
