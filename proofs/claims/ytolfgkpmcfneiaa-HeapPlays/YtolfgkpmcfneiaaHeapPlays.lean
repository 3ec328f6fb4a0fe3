/- For every bound and every list of calls as the statement draws them, the statement HeapPlays of layer 3 answers true: the program answers each call as the document does, and in the end all objects are the document's; no condition. -/
import Derived.Test.YtolfgkpmcfneiaaQS
import Derived.Test.YtolfgkpmcfneiaaFb
set_option linter.unusedVariables false
set_option linter.unusedSimpArgs false
namespace Go.Proofs.Ytolfgkpmcfneiaa.heapPlays
open Go.ChangeShapes Go.WideShapes Go.ChangeAt Go.RowKit

theorem fin_plays {w w5 wf : World} {bo q : Nat} {H : AHeap} {bs qs : List Nat} {rv : Value} (hq : q ∈ qs) (hS : HS w5 bo H bs) (hbs : ∀ x ∈ qs, x ∉ bs) (hR : RdH w5 (fun b => b ∉ qs ++ bs) rv H) (hbw : Bw w w5) (hlo : ∀ x ∈ qs, w.heap.size ≤ x)
    (hz : w5.heap.size ≤ wf.heap.size) (ho : wf.os = w5.os ∧ wf.tape = w5.tape ∧ wf.output = w5.output) (hk : ∀ b, b < w5.heap.size → b ∉ qs → wf.heap[b]? = w5.heap[b]?) : HS wf bo H bs ∧ Bw w wf ∧ RdH wf (fun b => b ∉ [q] ++ bs) rv H := by
  have hlt : ∀ b ∈ bs, b < w5.heap.size := fun b hb => hS.lt hb
  refine ⟨?_, ⟨ho.1.trans hbw.os, ho.2.1.trans hbw.tape, ho.2.2.trans hbw.output, Nat.le_trans hbw.size hz, fun b hb => ?_⟩, hR.keep hz (fun b hb hg => hk b hb (fun hm => hg (List.mem_append_left _ hm))) (fun b hb hg hm => (List.mem_append.1 hm).elim (fun e => by rw [List.mem_singleton] at e; subst e; exact hg (List.mem_append_left _ hq)) (fun e => hg (List.mem_append_right _ e)))⟩
  · obtain ⟨vo, t, h3, rfl⟩ := hS
    exact ⟨vo, t, h3.same (fun k hk' => hk k (hlt k hk') (fun hm => hbs k hm hk')), rfl⟩
  · rw [hk b (Nat.lt_of_lt_of_le hb hbw.size) (fun hm => by have := hlo b hm; omega), hbw.block b hb]

set_option maxHeartbeats 32000000 in
set_option maxRecDepth 100000 in
theorem core (w : World) (a0 : Int) (w0 : -9223372036854775808 ≤ a0 ∧ a0 ≤ 9223372036854775807) (v1 : Value) (l1 : List AAct) (w1 : Acts w (fun _ => True) v1 l1) :
    Calls Try.prog 3 #[.int .i64 a0, v1] w fun e w' => e = .returned (.bool true) ∧ Bw w w' := by
  have hm1 := w1.len
  unfold maxLen at hm1
  obtain ⟨p1, c1, rfl⟩ := w1.form
  have W1 := hid w1
  clear w1
  cases hmu : aMuch l1
  · have HMU := hid (much_no hmu)
    by_cases hr : 1 ≤ a0 ∧ a0 ≤ 65536
    · have HNR := hid (show (if 1 ≤ a0 ∧ a0 ≤ 65536 then (0 : Int) else 1) = 0 ∧ (if 1 ≤ a0 ∧ a0 ≤ 65536 then ((a0, []) : AHeap) else (0, [])) = (a0, []) from ⟨if_pos hr, if_pos hr⟩)
      have HRG := hid hr
      clear hr
      go_enter Try.func3, Try.ntmps3
      go_wp2_with (first
        | (go_at_call 9; refine (much_any _ _ l1 _ W1.out).mono ?_; rw [hmu]; rintro e wq ⟨rfl, hwq⟩; subst wq)
        | (go_at_call 11; refine (new_ok a0 _ HRG.out.1 HRG.out.2).mono ?_; rintro e wn ⟨rfl, hs1, hb1, hl1⟩; have S1 := hid hs1; have N1 := hid hb1; clear hs1 hb1 hl1)
        | (go_at_call 12; refine (rnew_any (fun b => b ∉ [w.heap.size]) a0 _).mono ?_; rw [HNR.out.1, HNR.out.2]; rintro e wr0 ⟨rv0, rfl, hr0, hb0⟩; obtain ⟨va0, t0, rfl, ht0, hs0, ho0⟩ := (show RdH wr0 _ rv0 _ from hr0); obtain ⟨ar0, kr0, rfl⟩ := hs0.form; have R0 := hid hr0; have M0 := hid hb0; clear hr0 hb0 ht0 hs0 ho0)
        | (go_at_call 13; refine (num_any _ _).mono ?_; rintro e wq ⟨rfl, hwq⟩; subst wq))
      go_loopw [9] (fun j wr => ∃ (k : Nat) (H : AHeap) (bs : List Nat) (ah : Option Addr) (ch : Nat), k ≤ l1.length ∧ j = .int .i64 k ∧ HS wr w.heap.size H bs ∧ (Bw w wr ∧ ∀ b ∈ bs, w.heap.size ≤ b) ∧ NeatH H ∧ Capped H ∧ H.1 = a0 ∧ wr0.heap.size ∉ bs ∧ w.heap.size ≤ wr0.heap.size ∧
        Blk wr wr0.heap.size #[.int .i64 H.1, .slice ah H.2.length ch] 31 ∧ RdH wr (fun b => b ∉ [wr0.heap.size] ++ bs) (.agg #[.int .i64 H.1, .slice ah H.2.length ch]) H) (fun j _ => l1.length - (intOf j).toNat)
      case atStart =>
        have hsz : wn.heap.size ≤ wr0.heap.size := M0.out.size
        have hlt : w.heap.size < wn.heap.size := S1.out.lt (List.mem_singleton.2 rfl)
        exact ⟨0, _, _, _, _, Nat.zero_le _, rfl, S1.out.bw (Bw.alloc M0.out _), ⟨Bw.alloc (Bw.trans N1.out M0.out) _, by simp⟩, fun o ho => by simp at ho, Capped.nil _, rfl, by simp; omega, by omega, Blk.new _ _ _, RdH.keep R0.out (Bw.alloc (Bw.refl wr0) _).size (fun b hb _ => (Bw.alloc (Bw.refl wr0) _).block b hb) (fun b hb hg hmm => (List.mem_append.1 hmm).elim (fun e => by rw [List.mem_singleton] at e; omega) hg)⟩
      case round =>
        clear R0
        obtain ⟨k, H, bs, ah, ch, hk, rfl, hS, hB, hN, hC, hM, hq, hwq, hBk, hR⟩ := hrel
        have HSr := hid hS
        have HBr := hid hB
        have HN := hid hN
        have HC := hid hC
        have HM := hid hM
        have HQ := hid hq
        have HWQ := hid hwq
        have BK := hid hBk
        have HR := hid hR
        have zk := hBk.cell
        have zkf := hBk.free
        have hzk : wr0.heap.size < wr.heap.size := hBk.lt
        have HL6 := hid (show H.2.length ≤ 65536 by have := hS.most; omega)
        clear hS hB hN hC hM hq hwq hBk hR
        by_cases hlt : k < l1.length
        · have hlt2 : (k : Int) < (l1.length : Int) := by omega
          have hk0 : (0 : Int) ≤ (k : Int) := by omega
          obtain ⟨b, off, ⟨xb, xl, xk⟩, rfl, hb, _, hc, hok⟩ := W1.out.at hlt
          have HMK := hid (HMU.out.2 _ (List.getElem_mem hlt))
          have hbr : b < wr.heap.size := Nat.lt_of_lt_of_le hb HBr.out.1.size
          have hbq : b ≠ wr0.heap.size := by have := HWQ.out; omega
          have hbq' : wr0.heap.size ≠ b := Ne.symm hbq
          have hcr : ∀ j, j < 10 → wr.cell? ⟨b, off + (k * 10 + j), none⟩ = (acells l1[k] (xb, xl, xk))[j]? := fun j hj => (cell_bw HBr.out.1 hb).trans (hc j hj)
          have HA := hid (hok.since HBr.out.1 HBr.out.2)
          have HCW := hid hc
          clear hc hok
          generalize l1[k] = A at hcr HA HMK HCW
          have q0 : wr.cell? ⟨b, off + k * 10, none⟩ = some (.int .i64 A.Do) := hcr 0 (by omega)
          have q1 : wr.cell? ⟨b, off + k * 10 + 1, none⟩ = some (.int .u64 A.V) := hcr 1 (by omega)
          have q2 : wr.cell? ⟨b, off + k * 10 + 2, none⟩ = some (.int .u64 A.X) := hcr 2 (by omega)
          have q3 : wr.cell? ⟨b, off + k * 10 + 3, none⟩ = some (.int .i64 A.I) := hcr 3 (by omega)
          have q4 : wr.cell? ⟨b, off + k * 10 + 4, none⟩ = some xb := hcr 4 (by omega)
          have q5 : wr.cell? ⟨b, off + k * 10 + 5, none⟩ = some xl := hcr 5 (by omega)
          have q6 : wr.cell? ⟨b, off + k * 10 + 6, none⟩ = some xk := hcr 6 (by omega)
          have q7 : wr.cell? ⟨b, off + k * 10 + 7, none⟩ = some (.string A.Key) := hcr 7 (by omega)
          have q8 : wr.cell? ⟨b, off + k * 10 + 8, none⟩ = some (.int .u64 A.Re) := hcr 8 (by omega)
          have q9 : wr.cell? ⟨b, off + k * 10 + 9, none⟩ = some (.int .u64 A.Im) := hcr 9 (by omega)
          clear hcr
          go_wp2
          go_region_held3 (fun w' => w'.cell? ⟨wr0.heap.size, 0, none⟩ = some (.int .i64 H.1) ∧ w'.cell? ⟨wr0.heap.size, 1, none⟩ = some (.slice ah H.2.length ch) ∧ w'.cell? ⟨b, off + k * 10, none⟩ = some (.int .i64 A.Do) ∧ w'.cell? ⟨b, off + k * 10 + 1, none⟩ = some (.int .u64 A.V) ∧ w'.cell? ⟨b, off + k * 10 + 2, none⟩ = some (.int .u64 A.X) ∧ w'.cell? ⟨b, off + k * 10 + 3, none⟩ = some (.int .i64 A.I) ∧ w'.cell? ⟨b, off + k * 10 + 4, none⟩ = some (xb) ∧ w'.cell? ⟨b, off + k * 10 + 5, none⟩ = some (xl) ∧ w'.cell? ⟨b, off + k * 10 + 6, none⟩ = some (xk) ∧ w'.cell? ⟨b, off + k * 10 + 7, none⟩ = some (.string A.Key) ∧ w'.cell? ⟨b, off + k * 10 + 8, none⟩ = some (.int .u64 A.Re) ∧ w'.cell? ⟨b, off + k * 10 + 9, none⟩ = some (.int .u64 A.Im)) (first | (simp [go_sem]; done) | (simp [go_sem, *]; done))
            (first
              | (go_at_call 14; refine (step_any _ A (xb, xl, xk) wr.drew (HSr.out.bw (Bw.drew (Bw.refl _))) [wr0.heap.size] (fun q hq => by rw [List.mem_singleton] at hq; subst hq; exact hzk) (RdH.below HR.out (Bw.drew (Bw.refl _))) (AOK.bw HA.out (Bw.drew (Bw.refl _))) HN.out HC.out HL6.out HMK.out.1 HMK.out.2.1 HMK.out.2.2).mono ?_; rintro e w5 ⟨rv5, H5, bs5, rfl, hs5, hr5, hn5, hc5, hm5, hx5⟩; have hx6 := Bw.nxBefore (Bw.drew (Bw.refl wr)) hx5; obtain ⟨va5, t5, rfl, ht5, hsl5, ho5⟩ := (show RdH w5 _ rv5 _ from hr5); obtain ⟨a5, k5, rfl⟩ := hsl5.form; have hbw5 := hx6.bw HBr.out.1 HBr.out.2; have bk5 := BK.out.nx hx6 HQ.out; have y5 := bk5.cell; have y5f := bk5.free; have r0 : w5.cell? ⟨b, off + k * 10, none⟩ = some (.int .i64 A.Do) := (cell_bw hbw5.1 hb).trans (HCW.out 0 (by omega)); have r1 : w5.cell? ⟨b, off + k * 10 + 1, none⟩ = some (.int .u64 A.V) := (cell_bw hbw5.1 hb).trans (HCW.out 1 (by omega)); have r2 : w5.cell? ⟨b, off + k * 10 + 2, none⟩ = some (.int .u64 A.X) := (cell_bw hbw5.1 hb).trans (HCW.out 2 (by omega)); have r3 : w5.cell? ⟨b, off + k * 10 + 3, none⟩ = some (.int .i64 A.I) := (cell_bw hbw5.1 hb).trans (HCW.out 3 (by omega)); have r4 : w5.cell? ⟨b, off + k * 10 + 4, none⟩ = some (xb) := (cell_bw hbw5.1 hb).trans (HCW.out 4 (by omega)); have r5 : w5.cell? ⟨b, off + k * 10 + 5, none⟩ = some (xl) := (cell_bw hbw5.1 hb).trans (HCW.out 5 (by omega)); have r6 : w5.cell? ⟨b, off + k * 10 + 6, none⟩ = some (xk) := (cell_bw hbw5.1 hb).trans (HCW.out 6 (by omega)); have r7 : w5.cell? ⟨b, off + k * 10 + 7, none⟩ = some (.string A.Key) := (cell_bw hbw5.1 hb).trans (HCW.out 7 (by omega)); have r8 : w5.cell? ⟨b, off + k * 10 + 8, none⟩ = some (.int .u64 A.Re) := (cell_bw hbw5.1 hb).trans (HCW.out 8 (by omega)); have r9 : w5.cell? ⟨b, off + k * 10 + 9, none⟩ = some (.int .u64 A.Im) := (cell_bw hbw5.1 hb).trans (HCW.out 9 (by omega)); have hz5 : wr0.heap.size < w5.heap.size := bk5.lt; have hb5 : b < w5.heap.size := Nat.lt_of_lt_of_le hb hbw5.1.size; have Q5 := hid (show wr0.heap.size ∉ bs5 from fun hmm => (hx6.2 _ hmm).elim HQ.out (fun hh => by omega)); have BK5 := hid bk5; have K5 := hid hs5; have R5 := hid hr5; have NN5 := hid hn5; have CC5 := hid hc5; have MM5 := hid hm5; have BW5 := hid hbw5; clear hs5 hr5 hn5 hc5 hm5 hx5 hx6 hbw5 bk5 ht5 hsl5 ho5)
              | (go_at_call 14; refine (step_any _ A (xb, xl, xk) (wr.alloc (.cells #[.int .i64 0, .slice none 0 0] 31)).drew (HSr.out.bw (Bw.drew (Bw.alloc (Bw.refl _) _))) [wr0.heap.size, wr.heap.size] (fun q hq => by simp only [List.mem_cons, List.not_mem_nil, or_false] at hq; show q < (wr.alloc (.cells #[.int .i64 0, .slice none 0 0] 31)).heap.size; rw [World.size_alloc]; omega) (RdH.keep HR.out (Bw.drew (Bw.alloc (Bw.refl wr) _)).size (fun b hb _ => (Bw.drew (Bw.alloc (Bw.refl wr) _)).block b hb) (fun b hb hg hmm => (List.mem_append.1 hmm).elim (fun e => (List.mem_cons.1 e).elim (fun e => hg (List.mem_append_left _ (List.mem_singleton.2 e))) (fun e => by rw [List.mem_singleton] at e; omega)) (fun e => hg (List.mem_append_right _ e)))) (AOK.bw HA.out (Bw.drew (Bw.alloc (Bw.refl _) _))) HN.out HC.out HL6.out HMK.out.1 HMK.out.2.1 HMK.out.2.2).mono ?_; rintro e w5 ⟨rv5, H5, bs5, rfl, hs5, hr5, hn5, hc5, hm5, hx5⟩; have hx6 := Bw.nxBefore (Bw.drew (Bw.alloc (Bw.refl wr) (.cells #[.int .i64 0, .slice none 0 0] 31))) hx5; obtain ⟨va5, t5, rfl, ht5, hsl5, ho5⟩ := (show RdH w5 _ rv5 _ from hr5); obtain ⟨a5, k5, rfl⟩ := hsl5.form; have hbw5 := hx6.bw HBr.out.1 HBr.out.2; have bk5 := BK.out.nx hx6 HQ.out; have y5 := bk5.cell; have y5f := bk5.free; have r0 : w5.cell? ⟨b, off + k * 10, none⟩ = some (.int .i64 A.Do) := (cell_bw hbw5.1 hb).trans (HCW.out 0 (by omega)); have r1 : w5.cell? ⟨b, off + k * 10 + 1, none⟩ = some (.int .u64 A.V) := (cell_bw hbw5.1 hb).trans (HCW.out 1 (by omega)); have r2 : w5.cell? ⟨b, off + k * 10 + 2, none⟩ = some (.int .u64 A.X) := (cell_bw hbw5.1 hb).trans (HCW.out 2 (by omega)); have r3 : w5.cell? ⟨b, off + k * 10 + 3, none⟩ = some (.int .i64 A.I) := (cell_bw hbw5.1 hb).trans (HCW.out 3 (by omega)); have r4 : w5.cell? ⟨b, off + k * 10 + 4, none⟩ = some (xb) := (cell_bw hbw5.1 hb).trans (HCW.out 4 (by omega)); have r5 : w5.cell? ⟨b, off + k * 10 + 5, none⟩ = some (xl) := (cell_bw hbw5.1 hb).trans (HCW.out 5 (by omega)); have r6 : w5.cell? ⟨b, off + k * 10 + 6, none⟩ = some (xk) := (cell_bw hbw5.1 hb).trans (HCW.out 6 (by omega)); have r7 : w5.cell? ⟨b, off + k * 10 + 7, none⟩ = some (.string A.Key) := (cell_bw hbw5.1 hb).trans (HCW.out 7 (by omega)); have r8 : w5.cell? ⟨b, off + k * 10 + 8, none⟩ = some (.int .u64 A.Re) := (cell_bw hbw5.1 hb).trans (HCW.out 8 (by omega)); have r9 : w5.cell? ⟨b, off + k * 10 + 9, none⟩ = some (.int .u64 A.Im) := (cell_bw hbw5.1 hb).trans (HCW.out 9 (by omega)); have hz5 : wr0.heap.size < w5.heap.size := bk5.lt; have hb5 : b < w5.heap.size := Nat.lt_of_lt_of_le hb hbw5.1.size; have Q5 := hid (show wr0.heap.size ∉ bs5 from fun hmm => (hx6.2 _ hmm).elim HQ.out (fun hh => by omega)); have BK5 := hid bk5; have K5 := hid hs5; have R5 := hid hr5; have NN5 := hid hn5; have CC5 := hid hc5; have MM5 := hid hm5; have BW5 := hid hbw5; have bp5 := ((Blk.new wr #[.int .i64 0, .slice none 0 0] 31).drew).nx hx5 (fun hmm => by have := HSr.out.lt hmm; omega); have P5 := hid (show wr.heap.size ∉ bs5 from fun hmm => (hx5.2 _ hmm).elim (fun hh => by have := HSr.out.lt hh; omega) (fun hh => by have h2 : wr.heap.size + 1 ≤ wr.heap.size := (by have h3 := hh; rw [show (wr.alloc (.cells #[.int .i64 0, .slice none 0 0] 31)).drew.heap.size = wr.heap.size + 1 from World.size_alloc _ _] at h3; exact h3); omega)); have yp := bp5.cell; have ypf := bp5.free; have hzp : wr.heap.size < w5.heap.size := bp5.lt; have BP5 := hid bp5; clear bp5; clear hs5 hr5 hn5 hc5 hm5 hx5 hx6 hbw5 bk5 ht5 hsl5 ho5)
              | fail)
          all_goals go_wp2
          · go_roundw
            case rel =>
              have hf := fin_plays (wf := ((w5.setCell ⟨wr0.heap.size, 0, none⟩ (.int .i64 H5.1)).setCell ⟨wr0.heap.size, 1, none⟩ (.slice a5 H5.2.length k5)).alloc (.cells #[.int .i64 H5.1, .slice a5 H5.2.length k5] 31)) (q := wr0.heap.size) (qs := [wr0.heap.size]) (List.mem_singleton.2 rfl) K5.out (fun x hx => by rw [List.mem_singleton] at hx; subst hx; exact Q5.out) R5.out BW5.out.1 (fun x hx => by rw [List.mem_singleton] at hx; subst hx; exact HWQ.out) (by simp [World.setCell]) ⟨rfl, rfl, rfl⟩
                (fun b hb hne => by
                  have hn : b ≠ wr0.heap.size := fun e => hne (List.mem_singleton.2 e)
                  exact (Below.heap_alloc _ _ b (by simpa [World.setCell] using hb)).trans ((Below.heap_setCell _ ⟨wr0.heap.size, 1, none⟩ _ b hn).trans (Below.heap_setCell _ ⟨wr0.heap.size, 0, none⟩ _ b hn)))
              have hbk := ((BK5.out.set 0 (.int .i64 H5.1)).set 1 (.slice a5 H5.2.length k5)).alloc (.cells #[.int .i64 H5.1, .slice a5 H5.2.length k5] 31)
              exact ⟨k + 1, H5, bs5, a5, k5, by omega, by go_num, hf.1, ⟨hf.2.1, BW5.out.2⟩, NN5.out, CC5.out, MM5.out.trans HM.out, Q5.out, HWQ.out, by simpa using hbk, hf.2.2⟩
            case measure => simp [intOf]; omega
          · go_roundw
            case rel =>
              have hf := fin_plays (wf := ((((w5.setCell ⟨wr.heap.size, 0, none⟩ (.int .i64 H5.1)).setCell ⟨wr.heap.size, 1, none⟩ (.slice a5 H5.2.length k5)).setCell ⟨wr0.heap.size, 0, none⟩ (.int .i64 H5.1)).setCell ⟨wr0.heap.size, 1, none⟩ (.slice a5 H5.2.length k5))) (q := wr0.heap.size) (qs := [wr0.heap.size, wr.heap.size]) List.mem_cons_self K5.out (fun x hx => (List.mem_cons.1 hx).elim (fun e => by subst e; exact Q5.out) (fun e => by rw [List.mem_singleton] at e; subst e; exact P5.out)) R5.out BW5.out.1 (fun x hx => (List.mem_cons.1 hx).elim (fun e => by subst e; exact HWQ.out) (fun e => by rw [List.mem_singleton] at e; subst e; exact HBr.out.1.size)) (by simp [World.setCell]) ⟨rfl, rfl, rfl⟩
                (fun b hb hne => by
                  have hn : b ≠ wr0.heap.size := fun e => hne (by rw [e]; exact List.mem_cons_self)
                  have hp : b ≠ wr.heap.size := fun e => hne (by rw [e]; exact List.mem_cons_of_mem _ (List.mem_singleton.2 rfl))
                  exact (Below.heap_setCell _ ⟨wr0.heap.size, 1, none⟩ _ b hn).trans ((Below.heap_setCell _ ⟨wr0.heap.size, 0, none⟩ _ b hn).trans ((Below.heap_setCell _ ⟨wr.heap.size, 1, none⟩ _ b hp).trans (Below.heap_setCell _ ⟨wr.heap.size, 0, none⟩ _ b hp))))
              have hpq : wr.heap.size ≠ wr0.heap.size := by omega
              have hbk := (((BK5.out.other (p := ⟨wr.heap.size, 0, none⟩) hpq (.int .i64 H5.1)).other (p := ⟨wr.heap.size, 1, none⟩) hpq (.slice a5 H5.2.length k5)).set 0 (.int .i64 H5.1)).set 1 (.slice a5 H5.2.length k5)
              exact ⟨k + 1, H5, bs5, a5, k5, by omega, by go_num, hf.1, ⟨hf.2.1, BW5.out.2⟩, NN5.out, CC5.out, MM5.out.trans HM.out, Q5.out, HWQ.out, by simpa using hbk, hf.2.2⟩
            case measure => simp [intOf]; omega
        · have hlt2 : ¬ (k : Int) < (l1.length : Int) := by omega
          go_wp2_with (first
            | (go_at_call 15; refine (all_any (fun b => b ∉ [wr0.heap.size] ++ bs) _ _ HSr.out HR.out HN.out HL6.out).mono ?_; rintro e w8 ⟨rfl, hb8⟩; have HB8 := hid (Bw.trans HBr.out.1 hb8); clear hb8)
            | (go_at_call 10; refine (live_any _).mono ?_; rintro e wl ⟨rfl, hbl⟩; have BL := hid hbl; clear hbl))
          all_goals go_ret
          all_goals exact ⟨rfl, Bw.trans HB8.out BL.out⟩
    · have HNR := hid (show (if 1 ≤ a0 ∧ a0 ≤ 65536 then (0 : Int) else 1) = 1 from if_neg hr)
      have HRG := hid hr
      clear hr
      go_enter Try.func3, Try.ntmps3
      go_wp2_with (first
        | (go_at_call 9; refine (much_any _ _ l1 _ W1.out).mono ?_; rw [hmu]; rintro e wq ⟨rfl, hwq⟩; subst wq)
        | (go_at_call 11; refine (new_no a0 _ HRG.out).mono ?_; rintro e wq ⟨rfl, hwq⟩; subst wq)
        | (go_at_call 12; refine (rnew_any (fun b => True) a0 _).mono ?_; rw [HNR.out]; rintro e wr0 ⟨rv0, rfl, hr0, hb0⟩; obtain ⟨va0, t0, rfl, ht0, hs0, ho0⟩ := (show RdH wr0 _ rv0 _ from hr0); obtain ⟨ar0, kr0, rfl⟩ := hs0.form; have M0 := hid hb0; clear hr0 hb0 ht0 hs0 ho0)
        | (go_at_call 13; refine (num_any _ _).mono ?_; rintro e wq ⟨rfl, hwq⟩; subst wq)
        | (go_at_call 10; refine (live_any _).mono ?_; rintro e wl ⟨rfl, hbl⟩; have BL := hid hbl; clear hbl))
      all_goals go_ret
      all_goals exact ⟨rfl, Bw.trans (Bw.alloc M0.out _) BL.out⟩
  · go_enter Try.func3, Try.ntmps3
    go_wp2_with (first
      | (go_at_call 9; refine (much_any _ _ l1 _ W1.out).mono ?_; rw [hmu]; rintro e wq ⟨rfl, hwq⟩; subst wq)
      | (go_at_call 10; refine (live_any _).mono ?_; rintro e wl ⟨rfl, hbl⟩; have BL := hid hbl; clear hbl))
    all_goals go_ret
    all_goals exact ⟨rfl, BL.out⟩

theorem walk (a0 : Int) (w0 : -9223372036854775808 ≤ a0 ∧ a0 ≤ 9223372036854775807) (w : World) (v1 : Value) (l1 : List AAct) (w1 : Acts w (fun _ => True) v1 l1) :
    Calls Try.prog 3 #[.int .i64 a0, v1] w fun e w' => e = .returned (.bool true) ∧ Bw w w' := by
  exact core w a0 w0 v1 l1 w1

set_option maxRecDepth 100000 in
theorem lifted (os : Os) (started : os.Started) (H : Type) (enc : TypeId × Value → H) :
    ReturnsInHanded {} Try.checked os 3 .any (Rows.heapPlaysSpec.pre6 enc Try.prog Try.f3 Rows.heapPlaysRow.domain false) (Rows.heapPlaysSpec.post enc Try.prog Try.f3 false true false false) := by
  refine returnsInHanded_of_change (C := Try.checked) ownK started (by kernel_rfl) Try.func3
    (ChangeSpec.witness6 (enc := enc) (C := Try.checked) false ⟨#[], #[.int .i64 0, .slice none 0 0], []⟩ 8 (by kernel_rfl) (by kernel_rfl) (by kernel_rfl) (by kernel_rfl)) ?_
  intro W base args ds gs before hval0 hW hcnd _
  have hval : ∀ (j : Nat) t v, Try.f3.params[j]? = some t → args[j]? = some v → Value.okWide Try.prog W .any base t v := hval0
  have hW' := hW
  obtain ⟨p, q, hA0, hV, rfl, hfz, hnd⟩ := hW
  have hA : DataW.TrodAll enc Try.prog W 0 (fun _ => true) true Try.f3.params.toList args.toList ds p := hA0
  rw [Try.params3] at hA hval
  obtain ⟨v0, vs0, d0, ds0, p0, q0, hargs, rfl, rfl, h0, r0⟩ := trodAll_cons hA
  obtain ⟨v1, vs1, d1, ds1, p1, q1, rfl, rfl, rfl, h1, r1⟩ := trodAll_cons r0
  obtain ⟨rfl, rfl, rfl⟩ := trodAll_nil r1
  obtain rfl : args = #[v0, v1] := by cases args; simp_all
  obtain ⟨rfl, rfl⟩ := trodVars_none hV
  have k0 := h0
  have lt0 : ∀ x ∈ p0, x.block < W.heap.size := by obtain ⟨m, hm⟩ := k0; exact DataW.trod_lt m _ _ _ hm
  have k1 := h1
  have lt1 : ∀ x ∈ p1, x.block < W.heap.size := by obtain ⟨m, hm⟩ := k1; exact DataW.trod_lt m _ _ _ hm
  obtain ⟨a0, rfl, rfl, rfl, w00⟩ := open_int Try.underlying3 (hval 0 3 v0 rfl rfl) h0
  have w0 := bounds_i64 w00
  obtain ⟨l1, w1⟩ := open_acts (hval 1 22 v1 rfl rfl) h1
  clear hA0 hval0
  refine (walk a0 w0 W v1 l1 w1).mono fun e W' ⟨he, bel⟩ => ?_
  subst he
  exact ⟨_, rfl, _, _, _, [], _, [], hW', trodAll_mk1 (shut_bool Try.underlying4 _), (trodAll_cons_mk (Below.trod laidOut (by kernel_rfl) (of_decide_eq_true (by kernel_rfl)) k0 bel lt0) (trodAll_cons_mk (Below.trod laidOut (by kernel_rfl) (of_decide_eq_true (by kernel_rfl)) k1 bel lt1) trodAll_mk0)), rfl, Below.frame bel _, fun h => by cases h⟩

theorem over : Rows.heapPlaysRow.holds Try.pinned (OpenSpec.ofChange Rows.heapPlaysSpec) :=
  OpenClaim.holds_of_wide 3 Try.f3 rfl rfl rfl rfl rfl rfl rfl ⟨rfl, rfl, rfl, rfl, rfl⟩ rfl rfl rfl rfl rfl (by kernel_rfl) Try.func3 (by kernel_rfl)
    (of_decide_eq_true (by kernel_rfl)) (by unfold Func.isWrapper; first | (rw [if_pos (by decide +kernel)]; kernel_rfl) | (rw [if_neg (by decide +kernel)]; exact ⟨rfl, rfl⟩))
    (fun os started H enc _ => lifted os started H enc)

theorem proved : Rows.HeapPlaysSaid := over
end Go.Proofs.Ytolfgkpmcfneiaa.heapPlays
namespace Go.Proofs.Ytolfgkpmcfneiaa
theorem heapPlays_holds : Rows.HeapPlaysSaid := heapPlays.proved
#print axioms heapPlays_holds
end Go.Proofs.Ytolfgkpmcfneiaa
