/- The reader's small steps: contracts. · Parts in memory; what a function of the reader carries along. -/
import Derived.Test.YtlcieebneclmpaaDoorK6
set_option linter.unusedSimpArgs false
set_option linter.unusedVariables false
namespace Go.Proofs.YtlcieebneclmpaaDoor
open Go Go.RowKit

@[go_sem] theorem run_field_tok0 (a b c : Int) (x : ByteArray) (w : World) : (Instr.field 72 (.agg #[.int .i64 a, .string x, .int .i64 b, .int .i64 c]) 0).run Tryd.prog w = .ok (.int .i64 a) w := by kernel_rfl
@[go_sem] theorem run_field_tok1 (a b c : Int) (x : ByteArray) (w : World) : (Instr.field 72 (.agg #[.int .i64 a, .string x, .int .i64 b, .int .i64 c]) 1).run Tryd.prog w = .ok (.string x) w := by kernel_rfl
@[go_sem] theorem run_field_tok3 (a b c : Int) (x : ByteArray) (w : World) : (Instr.field 72 (.agg #[.int .i64 a, .string x, .int .i64 b, .int .i64 c]) 3).run Tryd.prog w = .ok (.int .i64 c) w := by kernel_rfl

theorem str_eq_dec (a b : ByteArray) : (a.toList == b.toList) = decide (a = b) := by
  by_cases h : a = b
  · subst h; simp
  · rw [str_ne h, decide_eq_false h]

section
variable {B w : World} {r g cap : Nat} {T : List ATok} {ex : Nat → Value} {i o : Nat}

set_option maxRecDepth 100000 in
set_option maxHeartbeats 4000000 in
theorem token_any (h : RI B w r g cap T ex i o) :
    Calls Tryd.prog 57 #[.pointer (some ⟨r, 0, none⟩)] w fun e w' => e = .returned (tokV (tk T i)) ∧ Bw w w' := by
  obtain ⟨c0, c1, c2, c3⟩ := h.tok
  have z := h.k.cell
  have zl := h.k.lt
  have gl := h.glt
  have hB := h.kb.size
  have hi1 : (0 : Int) ≤ (i : Int) := by omega
  have hi2 : (i : Int) < (T.length : Int) := by have := h.lt; omega
  clear h
  generalize tk T i = t at c0 c1 c2 c3 ⊢
  go_enter Tryd.func57, Tryd.ntmps57
  go_upto_region 1 with fail
  go_region
  all_goals go_wp2
  all_goals refine bodyPost_ret (v := tokV t) (by simp [results, Tryd.results57, go_sem, tokV]) rfl ?_
  all_goals exact ⟨rfl, by repeat (first | exact Bw.refl _ | apply Bw.alloc | apply Bw.drewN | apply Bw.drew)⟩

set_option maxRecDepth 100000 in
set_option maxHeartbeats 4000000 in
theorem is_any (s : ByteArray) (h : RI B w r g cap T ex i o) :
    Calls Tryd.prog 58 #[.pointer (some ⟨r, 0, none⟩), .string s] w fun e w' => e = .returned (.bool (isT T i s)) ∧ Bw w w' := by
  have HT := hid (fun w1 (hb : Bw w w1) => token_any (h.bw hb))
  unfold isT
  clear h
  generalize tk T i = t at HT ⊢
  unfold tokV at HT
  go_enter Tryd.func58, Tryd.ntmps58
  go_wp2_with (first
    | (go_at_call 57; refine (HT.out _ (by repeat (first | exact Bw.refl _ | apply Bw.alloc | apply Bw.drewN | apply Bw.drew))).mono ?_; rintro e w1 ⟨rfl, hb1⟩; have B1 := hid hb1; clear hb1)
    | fail)
  all_goals go_ret
  all_goals refine ⟨ret_bool ?_, Bw.alloc B1.out _⟩
  all_goals simp [str_eq_dec, *]

set_option maxRecDepth 100000 in
set_option maxHeartbeats 4000000 in
theorem isKind_any (k : Int) (h : RI B w r g cap T ex i o) :
    Calls Tryd.prog 44 #[.pointer (some ⟨r, 0, none⟩), .int .i64 k] w fun e w' => e = .returned (.bool ((tk T i).1 == k)) ∧ Bw w w' := by
  have HT := hid (fun w1 (hb : Bw w w1) => token_any (h.bw hb))
  clear h
  generalize tk T i = t at HT ⊢
  unfold tokV at HT
  go_enter Tryd.func44, Tryd.ntmps44
  go_wp2_with (first
    | (go_at_call 57; refine (HT.out _ (by repeat (first | exact Bw.refl _ | apply Bw.alloc | apply Bw.drewN | apply Bw.drew))).mono ?_; rintro e w1 ⟨rfl, hb1⟩; have B1 := hid hb1; clear hb1)
    | fail)
  all_goals go_ret
  all_goals exact ⟨rfl, B1.out⟩

set_option maxRecDepth 100000 in
set_option maxHeartbeats 4000000 in
theorem fail_any (n : Int) (h : RI B w r g cap T ex i o) :
    Calls Tryd.prog 82 #[.pointer (some ⟨r, 0, none⟩), .int .i64 n] w fun e w' => e = .panicked (fltV n (tk T i).2.2.2) ∧ Bw w w' := by
  have HT := hid (fun w1 (hb : Bw w w1) => token_any (h.bw hb))
  clear h
  generalize tk T i = t at HT ⊢
  unfold tokV at HT
  go_enter Tryd.func82, Tryd.ntmps82
  go_wp2_with (first
    | (go_at_call 57; refine (HT.out _ (by repeat (first | exact Bw.refl _ | apply Bw.alloc | apply Bw.drewN | apply Bw.drew))).mono ?_; rintro e w1 ⟨rfl, hb1⟩; have B1 := hid hb1; clear hb1)
    | fail)
  all_goals exact ⟨rfl, rfl, B1.out⟩

set_option maxRecDepth 100000 in
set_option maxHeartbeats 4000000 in
theorem take_any (h : RI B w r g cap T ex i o) (hn : (tk T i).1 ≠ 0) :
    Calls Tryd.prog 81 #[.pointer (some ⟨r, 0, none⟩)] w fun e w' => e = .returned (tokV (tk T i)) ∧ RI B w' r g cap T ex (i + 1) o ∧ Kp r w w' := by
  have HT := hid (fun w1 (hb : Bw w w1) => token_any (h.bw hb))
  have HR := hid (fun w1 (hb : Bw w w1) => h.bw hb)
  have HN := hid hn
  have zl := h.k.lt
  have gl := h.glt
  have hB := h.kb.size
  have hi := h.lt
  have hl := h.len
  have HQ := hid (fun w1 (hb : Bw w w1) => (h.bw hb).next hn)
  clear h hn
  generalize tk T i = t at HT HN ⊢
  unfold tokV at HT
  go_enter Tryd.func81, Tryd.ntmps81
  go_wp2_with (first
    | (go_at_call 57; refine (HT.out _ (by repeat (first | exact Bw.refl _ | apply Bw.alloc | apply Bw.drewN | apply Bw.drew))).mono ?_; rintro e w1 ⟨rfl, hb1⟩; have B1 := hid (Bw.trans (a := w) (by repeat (first | exact Bw.refl _ | apply Bw.alloc | apply Bw.drewN | apply Bw.drew)) hb1); have zz := (HR.out _ B1.out).k.cell; have zf := (HR.out _ B1.out).k.free; have zl1 := (HR.out _ B1.out).k.lt; have kk := (Blk.new w _ _).bw hb1; have k0 := kk.cell; have kf := kk.free; have kl := kk.lt; have KK := hid kk; clear hb1 kk)
    | fail)
  all_goals refine bodyPost_ret (v := tokV t) (by simp [results, Tryd.results81, go_sem, tokV, *]) rfl ⟨rfl, ?_, ?_⟩
  · exact ((((((HQ.out _ B1.out).other (b := w.heap.size) (j := 0) (by omega) hB _).other (b := w.heap.size) (j := 1) (by omega) hB _).other (b := w.heap.size) (j := 2) (by omega) hB _).other (b := w.heap.size) (j := 3) (by omega) hB _).bw (Bw.alloc (Bw.refl _) _))
  · exact (((((Kp.of_bw B1.out).set 1 _).setNew (Nat.le_refl _) 0 _).setNew (Nat.le_refl _) 1 _).setNew (Nat.le_refl _) 2 _).setNew (Nat.le_refl _) 3 _ |>.alloc _

theorem isT_ne {s : ByteArray} (h : isT T i s = true) : (tk T i).1 ≠ 0 := by
  intro h0
  unfold isT at h
  rw [h0] at h
  simp at h

set_option maxRecDepth 100000 in
set_option maxHeartbeats 4000000 in
theorem want_yes (s : ByteArray) (h : RI B w r g cap T ex i o) (hs : isT T i s = true) :
    Calls Tryd.prog 62 #[.pointer (some ⟨r, 0, none⟩), .string s] w fun e w' => e = .returned (.int .i64 (tk T i).2.2.2) ∧ RI B w' r g cap T ex (i + 1) o ∧ Kp r w w' := by
  have HR := hid h
  have HK := hid (Kp.refl r w)
  have HN := hid (isT_ne hs)
  clear h
  go_enter Tryd.func62, Tryd.ntmps62
  go_wp2_with (first
    | (go_at_call 58; refine (is_any _ (HR.out.bw (by repeat (first | exact Bw.refl _ | apply Bw.alloc | apply Bw.drewN | apply Bw.drew)))).mono ?_; rintro e w1 ⟨rfl, hb1⟩; have HK := hid (HK.out.bw (Bw.trans (by repeat (first | exact Bw.refl _ | apply Bw.alloc | apply Bw.drewN | apply Bw.drew)) hb1)); have HR := hid (HR.out.bw (Bw.trans (by repeat (first | exact Bw.refl _ | apply Bw.alloc | apply Bw.drewN | apply Bw.drew)) hb1)); clear hb1)
    | (go_at_call 81; refine (take_any (HR.out.bw (by repeat (first | exact Bw.refl _ | apply Bw.alloc | apply Bw.drewN | apply Bw.drew))) HN.out).mono ?_; unfold tokV; rintro e w1 ⟨rfl, hr1, hk1⟩; have HK := hid ((HK.out.bw (by repeat (first | exact Bw.refl _ | apply Bw.alloc | apply Bw.drewN | apply Bw.drew))).trans hk1); have HR := hid hr1; clear hr1 hk1)
    | fail)
  all_goals go_ret
  all_goals exact ⟨rfl, HR.out, HK.out⟩

set_option maxRecDepth 100000 in
set_option maxHeartbeats 4000000 in
theorem want_no (s : ByteArray) (h : RI B w r g cap T ex i o) (hs : isT T i s = false) :
    Calls Tryd.prog 62 #[.pointer (some ⟨r, 0, none⟩), .string s] w fun e w' => e = .panicked (fltV 6 (tk T i).2.2.2) ∧ Kp r w w' := by
  have HR := hid h
  have HK := hid (Kp.refl r w)
  clear h
  go_enter Tryd.func62, Tryd.ntmps62
  go_wp2_with (first
    | (go_at_call 58; refine (is_any _ (HR.out.bw (by repeat (first | exact Bw.refl _ | apply Bw.alloc | apply Bw.drewN | apply Bw.drew)))).mono ?_; rintro e w1 ⟨rfl, hb1⟩; have HK := hid (HK.out.bw (Bw.trans (by repeat (first | exact Bw.refl _ | apply Bw.alloc | apply Bw.drewN | apply Bw.drew)) hb1)); have HR := hid (HR.out.bw (Bw.trans (by repeat (first | exact Bw.refl _ | apply Bw.alloc | apply Bw.drewN | apply Bw.drew)) hb1)); clear hb1)
    | (go_at_call 82; refine (fail_any _ (HR.out.bw (by repeat (first | exact Bw.refl _ | apply Bw.alloc | apply Bw.drewN | apply Bw.drew)))).mono ?_; rintro e w1 ⟨rfl, hb1⟩; have HK := hid (HK.out.bw (Bw.trans (by repeat (first | exact Bw.refl _ | apply Bw.alloc | apply Bw.drewN | apply Bw.drew)) hb1)); clear hb1)
    | fail)
  all_goals exact ⟨rfl, rfl, HK.out⟩

set_option maxRecDepth 100000 in
set_option maxHeartbeats 4000000 in
theorem wantName_yes (h : RI B w r g cap T ex i o) (hs : (tk T i).1 = 1) :
    Calls Tryd.prog 79 #[.pointer (some ⟨r, 0, none⟩)] w fun e w' => e = .returned (tokV (tk T i)) ∧ RI B w' r g cap T ex (i + 1) o ∧ Kp r w w' := by
  have HR := hid h
  have HK := hid (Kp.refl r w)
  have HN := hid (show (tk T i).1 ≠ 0 by omega)
  have hs' : ((tk T i).1 == 1) = true := by simp [hs]
  have zl := h.k.lt
  have gl := h.glt
  have hB := h.kb.size
  clear h hs
  go_enter Tryd.func79, Tryd.ntmps79
  go_wp2_with (first
    | (go_at_call 44; refine (isKind_any _ (HR.out.bw (by repeat (first | exact Bw.refl _ | apply Bw.alloc | apply Bw.drewN | apply Bw.drew)))).mono ?_; rintro e w1 ⟨rfl, hb1⟩; have HK := hid (HK.out.bw (Bw.trans (by repeat (first | exact Bw.refl _ | apply Bw.alloc | apply Bw.drewN | apply Bw.drew)) hb1)); have HR := hid (HR.out.bw (Bw.trans (by repeat (first | exact Bw.refl _ | apply Bw.alloc | apply Bw.drewN | apply Bw.drew)) hb1)); have HB := hid ((Blk.new w _ _).bw hb1); clear hb1)
    | (go_at_call 81; refine (take_any (HR.out.bw (by repeat (first | exact Bw.refl _ | apply Bw.alloc | apply Bw.drewN | apply Bw.drew))) HN.out).mono ?_; unfold tokV; rintro e w2 ⟨rfl, hr1, hk1⟩; have HK := hid ((HK.out.bw (by repeat (first | exact Bw.refl _ | apply Bw.alloc | apply Bw.drewN | apply Bw.drew))).trans hk1); have HR := hid hr1; have hb2 := HB.out.kp hk1 (by omega); have k0 := hb2.cell; have kf := hb2.free; have kl := hb2.lt; clear hr1 hk1 hb2)
    | fail)
  all_goals refine bodyPost_ret (v := tokV (tk T i)) (by simp [results, Tryd.results79, go_sem, tokV, *]) rfl ⟨rfl, ?_, ?_⟩
  · exact (((((HR.out).other (b := w.heap.size) (j := 0) (by omega) hB _).other (b := w.heap.size) (j := 1) (by omega) hB _).other (b := w.heap.size) (j := 2) (by omega) hB _).other (b := w.heap.size) (j := 3) (by omega) hB _)
  · exact (((HK.out.setNew (Nat.le_refl _) 0 _).setNew (Nat.le_refl _) 1 _).setNew (Nat.le_refl _) 2 _).setNew (Nat.le_refl _) 3 _

set_option maxRecDepth 100000 in
set_option maxHeartbeats 4000000 in
theorem wantName_no (h : RI B w r g cap T ex i o) (hs : ¬ (tk T i).1 = 1) :
    Calls Tryd.prog 79 #[.pointer (some ⟨r, 0, none⟩)] w fun e w' => e = .panicked (fltV 6 (tk T i).2.2.2) ∧ Kp r w w' := by
  have HR := hid h
  have HK := hid (Kp.refl r w)
  have hs' : ((tk T i).1 == 1) = false := by simp [hs]
  clear h hs
  go_enter Tryd.func79, Tryd.ntmps79
  go_wp2_with (first
    | (go_at_call 44; refine (isKind_any _ (HR.out.bw (by repeat (first | exact Bw.refl _ | apply Bw.alloc | apply Bw.drewN | apply Bw.drew)))).mono ?_; rintro e w1 ⟨rfl, hb1⟩; have HK := hid (HK.out.bw (Bw.trans (by repeat (first | exact Bw.refl _ | apply Bw.alloc | apply Bw.drewN | apply Bw.drew)) hb1)); have HR := hid (HR.out.bw (Bw.trans (by repeat (first | exact Bw.refl _ | apply Bw.alloc | apply Bw.drewN | apply Bw.drew)) hb1)); clear hb1)
    | (go_at_call 82; refine (fail_any _ (HR.out.bw (by repeat (first | exact Bw.refl _ | apply Bw.alloc | apply Bw.drewN | apply Bw.drew)))).mono ?_; rintro e w1 ⟨rfl, hb1⟩; have HK := hid (HK.out.bw (Bw.trans (by repeat (first | exact Bw.refl _ | apply Bw.alloc | apply Bw.drewN | apply Bw.drew)) hb1)); clear hb1)
    | fail)
  all_goals exact ⟨rfl, rfl, HK.out⟩

set_option maxRecDepth 100000 in
set_option maxHeartbeats 4000000 in
theorem enter_yes (s : ByteArray) (h : RI B w r g cap T ex i o) (hs : isT T i s = true) (ho : o < 64) :
    Calls Tryd.prog 77 #[.pointer (some ⟨r, 0, none⟩), .string s] w fun e w' => e = .returned (.int .i64 (tk T i).2.2.2) ∧ RI B w' r g cap T ex (i + 1) (o + 1) ∧ Kp r w w' := by
  have HR := hid h
  have HK := hid (Kp.refl r w)
  have HS := hid hs
  have ho1 : ((o : Int) == 64) = false := by simp; omega
  have ho2 : (o : Int) + 1 ≤ 100 := by omega
  clear h
  go_enter Tryd.func77, Tryd.ntmps77
  go_wp2_with (first
    | (go_at_call 58; refine (is_any _ (HR.out.bw (by repeat (first | exact Bw.refl _ | apply Bw.alloc | apply Bw.drewN | apply Bw.drew)))).mono ?_; rintro e w1 ⟨rfl, hb1⟩; have HK := hid (HK.out.bw (Bw.trans (by repeat (first | exact Bw.refl _ | apply Bw.alloc | apply Bw.drewN | apply Bw.drew)) hb1)); have HR := hid (HR.out.bw (Bw.trans (by repeat (first | exact Bw.refl _ | apply Bw.alloc | apply Bw.drewN | apply Bw.drew)) hb1)); clear hb1; have zz := HR.out.k.cell; have zf := HR.out.k.free; have zl := HR.out.k.lt)
    | (go_at_call 62; refine (want_yes _ ((HR.out.opn (o + 1) (by omega)).bw (by repeat (first | exact Bw.refl _ | apply Bw.alloc | apply Bw.drewN | apply Bw.drew))) HS.out).mono ?_; rintro e w2 ⟨rfl, hr1, hk1⟩; have HK := hid ((HK.out.set 2 _).trans hk1); have HR := hid hr1; clear hr1 hk1)
    | fail)
  all_goals go_ret
  all_goals exact ⟨rfl, HR.out, HK.out⟩

set_option maxRecDepth 100000 in
set_option maxHeartbeats 4000000 in
theorem enter_many (s : ByteArray) (h : RI B w r g cap T ex i o) (hs : isT T i s = true) (ho : o = 64) :
    Calls Tryd.prog 77 #[.pointer (some ⟨r, 0, none⟩), .string s] w fun e w' => e = .panicked (fltV 3 (tk T i).2.2.2) ∧ Kp r w w' := by
  have HR := hid h
  have HK := hid (Kp.refl r w)
  have ho1 : ((o : Int) == 64) = true := by simp; omega
  have ho2 : (o : Int) + 1 ≤ 100 := by omega
  clear h ho
  go_enter Tryd.func77, Tryd.ntmps77
  go_wp2_with (first
    | (go_at_call 58; refine (is_any _ (HR.out.bw (by repeat (first | exact Bw.refl _ | apply Bw.alloc | apply Bw.drewN | apply Bw.drew)))).mono ?_; rintro e w1 ⟨rfl, hb1⟩; have HK := hid (HK.out.bw (Bw.trans (by repeat (first | exact Bw.refl _ | apply Bw.alloc | apply Bw.drewN | apply Bw.drew)) hb1)); have HR := hid (HR.out.bw (Bw.trans (by repeat (first | exact Bw.refl _ | apply Bw.alloc | apply Bw.drewN | apply Bw.drew)) hb1)); clear hb1; have zz := HR.out.k.cell; have zf := HR.out.k.free; have zl := HR.out.k.lt)
    | (go_at_call 82; refine (fail_any _ (HR.out.bw (by repeat (first | exact Bw.refl _ | apply Bw.alloc | apply Bw.drewN | apply Bw.drew)))).mono ?_; rintro e w1 ⟨rfl, hb1⟩; have HK := hid (HK.out.bw (Bw.trans (by repeat (first | exact Bw.refl _ | apply Bw.alloc | apply Bw.drewN | apply Bw.drew)) hb1)); clear hb1)
    | fail)
  all_goals exact ⟨rfl, rfl, HK.out⟩

set_option maxRecDepth 100000 in
set_option maxHeartbeats 4000000 in
theorem enter_no (s : ByteArray) (h : RI B w r g cap T ex i o) (hs : isT T i s = false) (ho : o ≤ 64) :
    Calls Tryd.prog 77 #[.pointer (some ⟨r, 0, none⟩), .string s] w fun e w' => e = .panicked (fltV 6 (tk T i).2.2.2) ∧ Kp r w w' := by
  have HR := hid h
  have HK := hid (Kp.refl r w)
  have HS := hid hs
  have ho2 : (o : Int) + 1 ≤ 100 := by omega
  clear h
  go_enter Tryd.func77, Tryd.ntmps77
  go_wp2_with (first
    | (go_at_call 58; refine (is_any _ (HR.out.bw (by repeat (first | exact Bw.refl _ | apply Bw.alloc | apply Bw.drewN | apply Bw.drew)))).mono ?_; rintro e w1 ⟨rfl, hb1⟩; have HK := hid (HK.out.bw (Bw.trans (by repeat (first | exact Bw.refl _ | apply Bw.alloc | apply Bw.drewN | apply Bw.drew)) hb1)); have HR := hid (HR.out.bw (Bw.trans (by repeat (first | exact Bw.refl _ | apply Bw.alloc | apply Bw.drewN | apply Bw.drew)) hb1)); clear hb1; have zz := HR.out.k.cell; have zf := HR.out.k.free; have zl := HR.out.k.lt)
    | (go_at_call 62; refine (want_no _ ((HR.out.opn (o + 1) (by omega)).bw (by repeat (first | exact Bw.refl _ | apply Bw.alloc | apply Bw.drewN | apply Bw.drew))) HS.out).mono ?_; rintro e w2 ⟨rfl, hk1⟩; have HK := hid ((HK.out.set 2 _).trans hk1); clear hk1)
    | fail)
  all_goals exact ⟨rfl, rfl, HK.out⟩

set_option maxRecDepth 100000 in
set_option maxHeartbeats 4000000 in
theorem leave_yes (s : ByteArray) (h : RI B w r g cap T ex i (o + 1)) (hs : isT T i s = true) :
    Calls Tryd.prog 78 #[.pointer (some ⟨r, 0, none⟩), .string s] w fun e w' => e = .returned (.tuple #[]) ∧ RI B w' r g cap T ex (i + 1) o ∧ Kp r w w' := by
  have HR := hid h
  have HK := hid (Kp.refl r w)
  have HS := hid hs
  have ho := h.ho
  have ho2 : (o : Int) + 1 ≤ 100 := by omega
  clear h
  go_enter Tryd.func78, Tryd.ntmps78
  go_wp2_with (first
    | (go_at_call 62; refine (want_yes _ (HR.out.bw (by repeat (first | exact Bw.refl _ | apply Bw.alloc | apply Bw.drewN | apply Bw.drew))) HS.out).mono ?_; rintro e w2 ⟨rfl, hr1, hk1⟩; have HK := hid ((HK.out.bw (by repeat (first | exact Bw.refl _ | apply Bw.alloc | apply Bw.drewN | apply Bw.drew))).trans hk1); have HR := hid hr1; clear hr1 hk1; have zz := HR.out.k.cell; have zf := HR.out.k.free; have zl := HR.out.k.lt)
    | fail)
  all_goals go_end0
  all_goals exact ⟨rfl, HR.out.opn o (by omega), HK.out.set 2 _⟩

set_option maxRecDepth 100000 in
set_option maxHeartbeats 4000000 in
theorem leave_no (s : ByteArray) (h : RI B w r g cap T ex i o) (hs : isT T i s = false) :
    Calls Tryd.prog 78 #[.pointer (some ⟨r, 0, none⟩), .string s] w fun e w' => e = .panicked (fltV 6 (tk T i).2.2.2) ∧ Kp r w w' := by
  have HR := hid h
  have HK := hid (Kp.refl r w)
  have HS := hid hs
  clear h
  go_enter Tryd.func78, Tryd.ntmps78
  go_wp2_with (first
    | (go_at_call 62; refine (want_no _ (HR.out.bw (by repeat (first | exact Bw.refl _ | apply Bw.alloc | apply Bw.drewN | apply Bw.drew))) HS.out).mono ?_; rintro e w2 ⟨rfl, hk1⟩; have HK := hid ((HK.out.bw (by repeat (first | exact Bw.refl _ | apply Bw.alloc | apply Bw.drewN | apply Bw.drew))).trans hk1); clear hk1)
    | fail)
  all_goals exact ⟨rfl, rfl, HK.out⟩

end

end Go.Proofs.YtlcieebneclmpaaDoor

set_option linter.unusedSimpArgs false
set_option linter.unusedVariables false
namespace Go.Proofs.YtlcieebneclmpaaDoor
open Go Go.RowKit

/-- A row of parts' pointers; its block, if it has one, is one of S. -/
def RowM (w : World) (S : Nat → Prop) (v : Value) (bs : List Nat) : Prop :=
  w.ownsRow 0 57 1 v bs.length (bs.map fun b => .pointer (some ⟨b, 0, none⟩)) ∧ ∀ k, v.ownBlock = some k → S k

/-- A block that is a part. -/
def prtC (k : Int) (x : List Int) (n a : Int) (v : Value) : Array Value := #[.int .i64 k, .int .i64 0, .string (strOfNums x), .int .i64 n, .int .i64 a, v]

mutual
/-- A part in memory: it, and all that it is made of, lie in blocks of S. -/
def PtM (w : World) (S : Nat → Prop) : Prt → Nat → Prop
  | .mk k x n a ks, b => S b ∧ ∃ v bs, Blk w b (prtC k x n a v) 83 ∧ RowM w S v bs ∧ PtsM w S ks bs
def PtsM (w : World) (S : Nat → Prop) : List Prt → List Nat → Prop
  | [], bs => bs = []
  | p :: r, bs => ∃ b t, bs = b :: t ∧ PtM w S p b ∧ PtsM w S r t
end

theorem own_keep {w w' : World} {base : Nat} {e : TypeId} {size : Nat} {v : Value} {n : Nat} {xs : List Value} (h : w.ownsRow base e size v n xs) (hk : ∀ k, v.ownBlock = some k → w'.heap[k]? = w.heap[k]?) : w'.ownsRow base e size v n xs := by
  refine ⟨h.1, ?_⟩
  rcases h.2 with h2 | ⟨g, cap, cur, rfl, h1, h3, h4⟩
  · exact .inl h2
  · exact .inr ⟨g, cap, cur, rfl, h1, (hk g rfl).trans h3, h4⟩

theorem own_lt' {w : World} {base : Nat} {e : TypeId} {size : Nat} {v : Value} {n : Nat} {xs : List Value} (h : w.ownsRow base e size v n xs) {k : Nat} (hk : v.ownBlock = some k) : k < w.heap.size := by
  rcases h.2 with ⟨rfl, _⟩ | ⟨g, cap, cur, rfl, h1, h3, h4⟩
  · cases hk
  · cases hk; exact (Array.getElem?_eq_some_iff.1 h3).1

theorem RowM.keep {w w' : World} {S S' : Nat → Prop} {v : Value} {bs : List Nat} (h : RowM w S v bs) (hk : ∀ n, S n → n < w.heap.size → w'.heap[n]? = w.heap[n]?) (hs : ∀ n, S n → n < w.heap.size → S' n) : RowM w' S' v bs :=
  ⟨own_keep h.1 (fun k e => hk k (h.2 k e) (own_lt' h.1 e)), fun k e => hs k (h.2 k e) (own_lt' h.1 e)⟩

mutual
theorem PtM.keep {w w' : World} {S S' : Nat → Prop} (hk : ∀ n, S n → n < w.heap.size → w'.heap[n]? = w.heap[n]?) (hs : ∀ n, S n → n < w.heap.size → S' n) : ∀ (p : Prt) (b : Nat), PtM w S p b → PtM w' S' p b
  | .mk k x n a ks, b, h => by
    obtain ⟨h1, v, bs, h2, h3, h4⟩ := h
    exact ⟨hs b h1 h2.lt, v, bs, h2.keep (hk b h1 h2.lt), h3.keep hk hs, PtsM.keep hk hs ks bs h4⟩
theorem PtsM.keep {w w' : World} {S S' : Nat → Prop} (hk : ∀ n, S n → n < w.heap.size → w'.heap[n]? = w.heap[n]?) (hs : ∀ n, S n → n < w.heap.size → S' n) : ∀ (l : List Prt) (bs : List Nat), PtsM w S l bs → PtsM w' S' l bs
  | [], bs, h => h
  | p :: r, bs, h => by
    obtain ⟨b, t, e, h1, h2⟩ := h
    exact ⟨b, t, e, PtM.keep hk hs p b h1, PtsM.keep hk hs r t h2⟩
end

theorem PtsM.len {w : World} {S : Nat → Prop} : ∀ {l : List Prt} {bs : List Nat}, PtsM w S l bs → bs.length = l.length
  | [], bs, h => by rw [show bs = [] from h]; rfl
  | p :: r, bs, h => by
    obtain ⟨b, t, e, h1, h2⟩ := h
    rw [e, List.length_cons, List.length_cons, PtsM.len h2]

theorem PtsM.snoc {w : World} {S : Nat → Prop} {p : Prt} {b : Nat} (hp : PtM w S p b) : ∀ {l : List Prt} {bs : List Nat}, PtsM w S l bs → PtsM w S (l ++ [p]) (bs ++ [b])
  | [], bs, h => by rw [show bs = [] from h]; exact ⟨b, [], rfl, hp, rfl⟩
  | q :: r, bs, h => by
    obtain ⟨c, t, e, h1, h2⟩ := h
    subst e
    exact ⟨c, t ++ [b], rfl, h1, PtsM.snoc hp h2⟩

/-- The blocks that are S's, or new since w0. -/
def Fp (w0 : World) (S : Nat → Prop) (w : World) (n : Nat) : Prop := S n ∨ (w0.heap.size ≤ n ∧ n < w.heap.size)

/-- No block. -/
def No (n : Nat) : Prop := False

/-- What is carried along: the reader; what may have turned since w0; parts. -/
structure SI (B w0 : World) (S : Nat → Prop) (w : World) (r g cap : Nat) (T : List ATok) (ex : Nat → Value) (i o : Nat) (Ps : List (Prt × Nat)) : Prop where
  ri : RI B w r g cap T ex i o
  kp : Kp r w0 w
  ps : ∀ p ∈ Ps, PtM w (Fp w0 S w) p.1 p.2
  hs : ∀ n, S n → n < w0.heap.size ∧ n ≠ r
  r0 : r < w0.heap.size

section
variable {B w0 w w' : World} {S : Nat → Prop} {r g cap : Nat} {T : List ATok} {ex : Nat → Value} {i o i' o' : Nat} {Ps : List (Prt × Nat)}

theorem SI.ne (h : SI B w0 S w r g cap T ex i o Ps) {n : Nat} (hn : Fp w0 S w n) : n ≠ r ∧ n < w.heap.size := by
  rcases hn with hn | hn
  · exact ⟨(h.hs n hn).2, Nat.lt_of_lt_of_le (h.hs n hn).1 h.kp.size⟩
  · exact ⟨by have := h.r0; omega, hn.2⟩

theorem Fp.mono (hk : w.heap.size ≤ w'.heap.size) {n : Nat} (h : Fp w0 S w n) : Fp w0 S w' n := h.imp id (fun h => ⟨h.1, Nat.lt_of_lt_of_le h.2 hk⟩)

theorem SI.go (h : SI B w0 S w r g cap T ex i o Ps) (hr : RI B w' r g cap T ex i' o') (hk : Kp r w w') : SI B w0 S w' r g cap T ex i' o' Ps :=
  ⟨hr, h.kp.trans hk, fun p hp => PtM.keep (fun n hn hl => hk.block n hl (h.ne hn).1) (fun n hn _ => hn.mono hk.size) _ _ (h.ps p hp), h.hs, h.r0⟩

theorem SI.bw (h : SI B w0 S w r g cap T ex i o Ps) (hb : Bw w w') : SI B w0 S w' r g cap T ex i o Ps := h.go (h.ri.bw hb) (Kp.of_bw hb)

theorem SI.add (h : SI B w0 S w r g cap T ex i o Ps) (hr : RI B w' r g cap T ex i' o') (hk : Kp r w w') {x : Prt} {b : Nat} (hp : PtM w' (Fp w No w') x b) : SI B w0 S w' r g cap T ex i' o' ((x, b) :: Ps) := by
  have h1 := h.go hr hk
  refine ⟨h1.ri, h1.kp, fun p hm => ?_, h1.hs, h1.r0⟩
  rcases List.mem_cons.1 hm with rfl | hm
  · exact PtM.keep (fun _ _ _ => rfl) (fun n hn _ => hn.elim (fun e => False.elim e) (fun e => .inr ⟨Nat.le_trans h.kp.size e.1, e.2⟩)) _ _ hp
  · exact h1.ps p hm

theorem SI.begin (h : RI B w r g cap T ex i o) : SI B w No w r g cap T ex i o [] := ⟨h, Kp.refl r w, fun p hp => absurd hp (by simp), fun n hn => False.elim hn, h.k.lt⟩

theorem SI.begin1 (h : RI B w r g cap T ex i o) {x : Prt} {b : Nat} (hp : PtM w S x b) (hs : ∀ n, S n → n < w.heap.size ∧ n ≠ r) : SI B w S w r g cap T ex i o [(x, b)] :=
  ⟨h, Kp.refl r w, fun p hm => by rw [List.mem_singleton.1 hm]; exact PtM.keep (fun _ _ _ => rfl) (fun n hn _ => .inl hn) _ _ hp, hs, h.k.lt⟩

end

/-- What comes of a call that reads a part. -/
def Got (B : World) (r g cap : Nat) (T : List ATok) (ex : Nat → Value) (o : Nat) (S : Nat → Prop) (w : World) (R : Res) (e : Ending) (w' : World) : Prop :=
  match R with
  | .ok x c i => ∃ b, e = .returned (.pointer (some ⟨b, 0, none⟩)) ∧ PtM w' (Fp w S w') x b ∧ RI B w' r g cap T ex i o ∧ Kp r w w'
  | .bad n a => e = .panicked (fltV n a) ∧ Kp r w w'
  | .out => True

theorem ptm_new {w w' : World} {S : Nat → Prop} {k : Int} {x : List Int} {n a : Int} {v : Value} {ks : List Prt} {bs : List Nat} {b : Nat} (hv : RowM w S v bs) (hk : PtsM w S ks bs) (hb : Bw w w') (hn : w.heap.size ≤ b) (h : Blk w' b (prtC k x n a v) 83) : PtM w' (Fp w S w') (.mk k x n a ks) b :=
  ⟨.inr ⟨hn, h.lt⟩, v, bs, h, hv.keep (fun n _ hl => hb.block n hl) (fun n hs _ => .inl hs), PtsM.keep (fun n _ hl => hb.block n hl) (fun n hs _ => .inl hs) _ _ hk⟩

set_option maxRecDepth 100000 in
set_option maxHeartbeats 4000000 in
theorem made_any (k a : Int) (v : Value) (ks : List Prt) (bs : List Nat) (S : Nat → Prop) (w : World) (hv : RowM w S v bs) (hk : PtsM w S ks bs) :
    Calls Tryd.prog 43 #[.int .i64 k, .int .i64 a, v] w fun e w' => ∃ b, e = .returned (.pointer (some ⟨b, 0, none⟩)) ∧ PtM w' (Fp w S w') (.mk k [] 0 a ks) b ∧ Bw w w' ∧ w.heap.size ≤ b ∧ Blk w' b (prtC k [] 0 a v) 83 := by
  have HV := hid hv
  have HK := hid hk
  obtain ⟨av, cv, rfl⟩ := own_form hv.1
  clear hv hk
  go_enter Tryd.func43, Tryd.ntmps43
  go_wp2
  all_goals go_ret
  all_goals exact ⟨_, rfl, ptm_new HV.out HK.out (Bw.alloc (Bw.refl _) _) (Nat.le_refl _) (Blk.new _ _ _), Bw.alloc (Bw.refl _) _, Nat.le_refl _, Blk.new _ _ _⟩

set_option maxRecDepth 100000 in
set_option maxHeartbeats 4000000 in
theorem madeNamed_any (k : Int) (x : List Int) (a : Int) (v : Value) (ks : List Prt) (bs : List Nat) (S : Nat → Prop) (w : World) (hv : RowM w S v bs) (hk : PtsM w S ks bs) :
    Calls Tryd.prog 80 #[.int .i64 k, .string (strOfNums x), .int .i64 a, v] w fun e w' => ∃ b, e = .returned (.pointer (some ⟨b, 0, none⟩)) ∧ PtM w' (Fp w S w') (.mk k x 0 a ks) b ∧ Bw w w' ∧ w.heap.size ≤ b ∧ Blk w' b (prtC k x 0 a v) 83 := by
  have HV := hid hv
  have HK := hid hk
  obtain ⟨av, cv, rfl⟩ := own_form hv.1
  clear hv hk
  go_enter Tryd.func80, Tryd.ntmps80
  go_wp2
  all_goals go_ret
  all_goals exact ⟨_, rfl, ptm_new HV.out HK.out (Bw.alloc (Bw.refl _) _) (Nat.le_refl _) (Blk.new _ _ _), Bw.alloc (Bw.refl _) _, Nat.le_refl _, Blk.new _ _ _⟩

theorem RowM.nil (w : World) (S : Nat → Prop) : RowM w S (.slice none 0 0) [] := ⟨World.ownsRow_nil _ _ _ _, fun k h => by cases h⟩

/-- A row just laid. -/
theorem RowM.new (w : World) (S : Nat → Prop) (bs : List Nat) (hl : bs.length ≤ maxLen) (hS : S w.heap.size) : RowM (w.alloc (.cells (bs.map fun b => Value.pointer (some ⟨b, 0, none⟩)).toArray 57)) S (.slice (some ⟨w.heap.size, 0, none⟩) bs.length bs.length) bs := by
  refine ⟨⟨by simp, .inr ⟨w.heap.size, bs.length, _, rfl, Nat.zero_le _, heap_alloc_new w _, Nat.le_refl _, hl, by simp, by simp [List.take_of_length_le]⟩⟩, fun k h => by cases h; exact hS⟩

end Go.Proofs.YtlcieebneclmpaaDoor

