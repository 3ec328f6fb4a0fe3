/- The reader's small steps: contracts. -/
import Derived.Test.YtlcieebneclmpaaDoorPmk
set_option linter.unusedSimpArgs false
set_option linter.unusedVariables false
namespace Go.Proofs.YtlcieebneclmpaaDoor
open Go Go.RowKit

@[go_sem] theorem run_field_tok0 (a b c : Int) (x : ByteArray) (w : World) : (Instr.field 72 (.agg #[.int .i64 a, .string x, .int .i64 b, .int .i64 c]) 0).run Tryd.prog w = .ok (.int .i64 a) w := by kernel_rfl
@[go_sem] theorem run_field_tok1 (a b c : Int) (x : ByteArray) (w : World) : (Instr.field 72 (.agg #[.int .i64 a, .string x, .int .i64 b, .int .i64 c]) 1).run Tryd.prog w = .ok (.string x) w := by kernel_rfl
@[go_sem] theorem run_field_tok3 (a b c : Int) (x : ByteArray) (w : World) : (Instr.field 72 (.agg #[.int .i64 a, .string x, .int .i64 b, .int .i64 c]) 3).run Tryd.prog w = .ok (.int .i64 c) w := by kernel_rfl

theorem str_eq_dec (a b : ByteArray) : (a.toList == b.toList) = decide (a = b) := by
  by_cases h : a = b
  · subst h; simp
  · rw [str_ne h, decide_eq_false h]

section
variable {B w : World} {r g cap : Nat} {T : List ATok} {ex : Nat → Value} {i o : Nat}

set_option maxRecDepth 100000 in
set_option maxHeartbeats 4000000 in
theorem token_any (h : RI B w r g cap T ex i o) :
    Calls Tryd.prog 57 #[.pointer (some ⟨r, 0, none⟩)] w fun e w' => e = .returned (tokV (tk T i)) ∧ Bw w w' := by
  obtain ⟨c0, c1, c2, c3⟩ := h.tok
  have z := h.k.cell
  have zl := h.k.lt
  have gl := h.glt
  have hB := h.kb.size
  have hi1 : (0 : Int) ≤ (i : Int) := by omega
  have hi2 : (i : Int) < (T.length : Int) := by have := h.lt; omega
  clear h
  generalize tk T i = t at c0 c1 c2 c3 ⊢
  go_enter Tryd.func57, Tryd.ntmps57
  go_upto_region 1 with fail
  go_region
  all_goals go_wp2
  all_goals refine bodyPost_ret (v := tokV t) (by simp [results, Tryd.results57, go_sem, tokV]) rfl ?_
  all_goals exact ⟨rfl, by repeat (first | exact Bw.refl _ | apply Bw.alloc | apply Bw.drewN | apply Bw.drew)⟩

set_option maxRecDepth 100000 in
set_option maxHeartbeats 4000000 in
theorem is_any (s : ByteArray) (h : RI B w r g cap T ex i o) :
    Calls Tryd.prog 58 #[.pointer (some ⟨r, 0, none⟩), .string s] w fun e w' => e = .returned (.bool (isT T i s)) ∧ Bw w w' := by
  have HT := hid (fun w1 (hb : Bw w w1) => token_any (h.bw hb))
  unfold isT
  clear h
  generalize tk T i = t at HT ⊢
  unfold tokV at HT
  go_enter Tryd.func58, Tryd.ntmps58
  go_wp2_with (first
    | (go_at_call 57; refine (HT.out _ (by repeat (first | exact Bw.refl _ | apply Bw.alloc | apply Bw.drewN | apply Bw.drew))).mono ?_; rintro e w1 ⟨rfl, hb1⟩; have B1 := hid hb1; clear hb1)
    | fail)
  all_goals go_ret
  all_goals refine ⟨ret_bool ?_, Bw.alloc B1.out _⟩
  all_goals simp [str_eq_dec, *]

set_option maxRecDepth 100000 in
set_option maxHeartbeats 4000000 in
theorem isKind_any (k : Int) (h : RI B w r g cap T ex i o) :
    Calls Tryd.prog 44 #[.pointer (some ⟨r, 0, none⟩), .int .i64 k] w fun e w' => e = .returned (.bool ((tk T i).1 == k)) ∧ Bw w w' := by
  have HT := hid (fun w1 (hb : Bw w w1) => token_any (h.bw hb))
  clear h
  generalize tk T i = t at HT ⊢
  unfold tokV at HT
  go_enter Tryd.func44, Tryd.ntmps44
  go_wp2_with (first
    | (go_at_call 57; refine (HT.out _ (by repeat (first | exact Bw.refl _ | apply Bw.alloc | apply Bw.drewN | apply Bw.drew))).mono ?_; rintro e w1 ⟨rfl, hb1⟩; have B1 := hid hb1; clear hb1)
    | fail)
  all_goals go_ret
  all_goals exact ⟨rfl, B1.out⟩

set_option maxRecDepth 100000 in
set_option maxHeartbeats 4000000 in
theorem fail_any (n : Int) (h : RI B w r g cap T ex i o) :
    Calls Tryd.prog 82 #[.pointer (some ⟨r, 0, none⟩), .int .i64 n] w fun e w' => e = .panicked (fltV n (tk T i).2.2.2) ∧ Bw w w' := by
  have HT := hid (fun w1 (hb : Bw w w1) => token_any (h.bw hb))
  clear h
  generalize tk T i = t at HT ⊢
  unfold tokV at HT
  go_enter Tryd.func82, Tryd.ntmps82
  go_wp2_with (first
    | (go_at_call 57; refine (HT.out _ (by repeat (first | exact Bw.refl _ | apply Bw.alloc | apply Bw.drewN | apply Bw.drew))).mono ?_; rintro e w1 ⟨rfl, hb1⟩; have B1 := hid hb1; clear hb1)
    | fail)
  all_goals exact ⟨rfl, rfl, B1.out⟩

set_option maxRecDepth 100000 in
set_option maxHeartbeats 4000000 in
theorem take_any (h : RI B w r g cap T ex i o) (hn : (tk T i).1 ≠ 0) :
    Calls Tryd.prog 81 #[.pointer (some ⟨r, 0, none⟩)] w fun e w' => e = .returned (tokV (tk T i)) ∧ RI B w' r g cap T ex (i + 1) o ∧ Kp r w w' := by
  have HT := hid (fun w1 (hb : Bw w w1) => token_any (h.bw hb))
  have HR := hid (fun w1 (hb : Bw w w1) => h.bw hb)
  have HN := hid hn
  have zl := h.k.lt
  have gl := h.glt
  have hB := h.kb.size
  have hi := h.lt
  have hl := h.len
  have HQ := hid (fun w1 (hb : Bw w w1) => (h.bw hb).next hn)
  clear h hn
  generalize tk T i = t at HT HN ⊢
  unfold tokV at HT
  go_enter Tryd.func81, Tryd.ntmps81
  go_wp2_with (first
    | (go_at_call 57; refine (HT.out _ (by repeat (first | exact Bw.refl _ | apply Bw.alloc | apply Bw.drewN | apply Bw.drew))).mono ?_; rintro e w1 ⟨rfl, hb1⟩; have B1 := hid (Bw.trans (a := w) (by repeat (first | exact Bw.refl _ | apply Bw.alloc | apply Bw.drewN | apply Bw.drew)) hb1); have zz := (HR.out _ B1.out).k.cell; have zf := (HR.out _ B1.out).k.free; have zl1 := (HR.out _ B1.out).k.lt; have kk := (Blk.new w _ _).bw hb1; have k0 := kk.cell; have kf := kk.free; have kl := kk.lt; have KK := hid kk; clear hb1 kk)
    | fail)
  all_goals refine bodyPost_ret (v := tokV t) (by simp [results, Tryd.results81, go_sem, tokV, *]) rfl ⟨rfl, ?_, ?_⟩
  · exact ((((((HQ.out _ B1.out).other (b := w.heap.size) (j := 0) (by omega) hB _).other (b := w.heap.size) (j := 1) (by omega) hB _).other (b := w.heap.size) (j := 2) (by omega) hB _).other (b := w.heap.size) (j := 3) (by omega) hB _).bw (Bw.alloc (Bw.refl _) _))
  · exact (((((Kp.of_bw B1.out).set 1 _).setNew (Nat.le_refl _) 0 _).setNew (Nat.le_refl _) 1 _).setNew (Nat.le_refl _) 2 _).setNew (Nat.le_refl _) 3 _ |>.alloc _

theorem isT_ne {s : ByteArray} (h : isT T i s = true) : (tk T i).1 ≠ 0 := by
  intro h0
  unfold isT at h
  rw [h0] at h
  simp at h

set_option maxRecDepth 100000 in
set_option maxHeartbeats 4000000 in
theorem want_yes (s : ByteArray) (h : RI B w r g cap T ex i o) (hs : isT T i s = true) :
    Calls Tryd.prog 62 #[.pointer (some ⟨r, 0, none⟩), .string s] w fun e w' => e = .returned (.int .i64 (tk T i).2.2.2) ∧ RI B w' r g cap T ex (i + 1) o ∧ Kp r w w' := by
  have HR := hid h
  have HK := hid (Kp.refl r w)
  have HN := hid (isT_ne hs)
  clear h
  go_enter Tryd.func62, Tryd.ntmps62
  go_wp2_with (first
    | (go_at_call 58; refine (is_any _ (HR.out.bw (by repeat (first | exact Bw.refl _ | apply Bw.alloc | apply Bw.drewN | apply Bw.drew)))).mono ?_; rintro e w1 ⟨rfl, hb1⟩; have HK := hid (HK.out.bw (Bw.trans (by repeat (first | exact Bw.refl _ | apply Bw.alloc | apply Bw.drewN | apply Bw.drew)) hb1)); have HR := hid (HR.out.bw (Bw.trans (by repeat (first | exact Bw.refl _ | apply Bw.alloc | apply Bw.drewN | apply Bw.drew)) hb1)); clear hb1)
    | (go_at_call 81; refine (take_any (HR.out.bw (by repeat (first | exact Bw.refl _ | apply Bw.alloc | apply Bw.drewN | apply Bw.drew))) HN.out).mono ?_; unfold tokV; rintro e w1 ⟨rfl, hr1, hk1⟩; have HK := hid ((HK.out.bw (by repeat (first | exact Bw.refl _ | apply Bw.alloc | apply Bw.drewN | apply Bw.drew))).trans hk1); have HR := hid hr1; clear hr1 hk1)
    | fail)
  all_goals go_ret
  all_goals exact ⟨rfl, HR.out, HK.out⟩

set_option maxRecDepth 100000 in
set_option maxHeartbeats 4000000 in
theorem want_no (s : ByteArray) (h : RI B w r g cap T ex i o) (hs : isT T i s = false) :
    Calls Tryd.prog 62 #[.pointer (some ⟨r, 0, none⟩), .string s] w fun e w' => e = .panicked (fltV 6 (tk T i).2.2.2) ∧ Kp r w w' := by
  have HR := hid h
  have HK := hid (Kp.refl r w)
  clear h
  go_enter Tryd.func62, Tryd.ntmps62
  go_wp2_with (first
    | (go_at_call 58; refine (is_any _ (HR.out.bw (by repeat (first | exact Bw.refl _ | apply Bw.alloc | apply Bw.drewN | apply Bw.drew)))).mono ?_; rintro e w1 ⟨rfl, hb1⟩; have HK := hid (HK.out.bw (Bw.trans (by repeat (first | exact Bw.refl _ | apply Bw.alloc | apply Bw.drewN | apply Bw.drew)) hb1)); have HR := hid (HR.out.bw (Bw.trans (by repeat (first | exact Bw.refl _ | apply Bw.alloc | apply Bw.drewN | apply Bw.drew)) hb1)); clear hb1)
    | (go_at_call 82; refine (fail_any _ (HR.out.bw (by repeat (first | exact Bw.refl _ | apply Bw.alloc | apply Bw.drewN | apply Bw.drew)))).mono ?_; rintro e w1 ⟨rfl, hb1⟩; have HK := hid (HK.out.bw (Bw.trans (by repeat (first | exact Bw.refl _ | apply Bw.alloc | apply Bw.drewN | apply Bw.drew)) hb1)); clear hb1)
    | fail)
  all_goals exact ⟨rfl, rfl, HK.out⟩

set_option maxRecDepth 100000 in
set_option maxHeartbeats 4000000 in
theorem wantName_yes (h : RI B w r g cap T ex i o) (hs : (tk T i).1 = 1) :
    Calls Tryd.prog 79 #[.pointer (some ⟨r, 0, none⟩)] w fun e w' => e = .returned (tokV (tk T i)) ∧ RI B w' r g cap T ex (i + 1) o ∧ Kp r w w' := by
  have HR := hid h
  have HK := hid (Kp.refl r w)
  have HN := hid (show (tk T i).1 ≠ 0 by omega)
  have hs' : ((tk T i).1 == 1) = true := by simp [hs]
  have zl := h.k.lt
  have gl := h.glt
  have hB := h.kb.size
  clear h hs
  go_enter Tryd.func79, Tryd.ntmps79
  go_wp2_with (first
    | (go_at_call 44; refine (isKind_any _ (HR.out.bw (by repeat (first | exact Bw.refl _ | apply Bw.alloc | apply Bw.drewN | apply Bw.drew)))).mono ?_; rintro e w1 ⟨rfl, hb1⟩; have HK := hid (HK.out.bw (Bw.trans (by repeat (first | exact Bw.refl _ | apply Bw.alloc | apply Bw.drewN | apply Bw.drew)) hb1)); have HR := hid (HR.out.bw (Bw.trans (by repeat (first | exact Bw.refl _ | apply Bw.alloc | apply Bw.drewN | apply Bw.drew)) hb1)); have HB := hid ((Blk.new w _ _).bw hb1); clear hb1)
    | (go_at_call 81; refine (take_any (HR.out.bw (by repeat (first | exact Bw.refl _ | apply Bw.alloc | apply Bw.drewN | apply Bw.drew))) HN.out).mono ?_; unfold tokV; rintro e w2 ⟨rfl, hr1, hk1⟩; have HK := hid ((HK.out.bw (by repeat (first | exact Bw.refl _ | apply Bw.alloc | apply Bw.drewN | apply Bw.drew))).trans hk1); have HR := hid hr1; have hb2 := HB.out.kp hk1 (by omega); have k0 := hb2.cell; have kf := hb2.free; have kl := hb2.lt; clear hr1 hk1 hb2)
    | fail)
  all_goals refine bodyPost_ret (v := tokV (tk T i)) (by simp [results, Tryd.results79, go_sem, tokV, *]) rfl ⟨rfl, ?_, ?_⟩
  · exact (((((HR.out).other (b := w.heap.size) (j := 0) (by omega) hB _).other (b := w.heap.size) (j := 1) (by omega) hB _).other (b := w.heap.size) (j := 2) (by omega) hB _).other (b := w.heap.size) (j := 3) (by omega) hB _)
  · exact (((HK.out.setNew (Nat.le_refl _) 0 _).setNew (Nat.le_refl _) 1 _).setNew (Nat.le_refl _) 2 _).setNew (Nat.le_refl _) 3 _

set_option maxRecDepth 100000 in
set_option maxHeartbeats 4000000 in
theorem wantName_no (h : RI B w r g cap T ex i o) (hs : ¬ (tk T i).1 = 1) :
    Calls Tryd.prog 79 #[.pointer (some ⟨r, 0, none⟩)] w fun e w' => e = .panicked (fltV 6 (tk T i).2.2.2) ∧ Kp r w w' := by
  have HR := hid h
  have HK := hid (Kp.refl r w)
  have hs' : ((tk T i).1 == 1) = false := by simp [hs]
  clear h hs
  go_enter Tryd.func79, Tryd.ntmps79
  go_wp2_with (first
    | (go_at_call 44; refine (isKind_any _ (HR.out.bw (by repeat (first | exact Bw.refl _ | apply Bw.alloc | apply Bw.drewN | apply Bw.drew)))).mono ?_; rintro e w1 ⟨rfl, hb1⟩; have HK := hid (HK.out.bw (Bw.trans (by repeat (first | exact Bw.refl _ | apply Bw.alloc | apply Bw.drewN | apply Bw.drew)) hb1)); have HR := hid (HR.out.bw (Bw.trans (by repeat (first | exact Bw.refl _ | apply Bw.alloc | apply Bw.drewN | apply Bw.drew)) hb1)); clear hb1)
    | (go_at_call 82; refine (fail_any _ (HR.out.bw (by repeat (first | exact Bw.refl _ | apply Bw.alloc | apply Bw.drewN | apply Bw.drew)))).mono ?_; rintro e w1 ⟨rfl, hb1⟩; have HK := hid (HK.out.bw (Bw.trans (by repeat (first | exact Bw.refl _ | apply Bw.alloc | apply Bw.drewN | apply Bw.drew)) hb1)); clear hb1)
    | fail)
  all_goals exact ⟨rfl, rfl, HK.out⟩

set_option maxRecDepth 100000 in
set_option maxHeartbeats 4000000 in
theorem enter_yes (s : ByteArray) (h : RI B w r g cap T ex i o) (hs : isT T i s = true) (ho : o < 64) :
    Calls Tryd.prog 77 #[.pointer (some ⟨r, 0, none⟩), .string s] w fun e w' => e = .returned (.int .i64 (tk T i).2.2.2) ∧ RI B w' r g cap T ex (i + 1) (o + 1) ∧ Kp r w w' := by
  have HR := hid h
  have HK := hid (Kp.refl r w)
  have HS := hid hs
  have ho1 : ((o : Int) == 64) = false := by simp; omega
  have ho2 : (o : Int) + 1 ≤ 100 := by omega
  clear h
  go_enter Tryd.func77, Tryd.ntmps77
  go_wp2_with (first
    | (go_at_call 58; refine (is_any _ (HR.out.bw (by repeat (first | exact Bw.refl _ | apply Bw.alloc | apply Bw.drewN | apply Bw.drew)))).mono ?_; rintro e w1 ⟨rfl, hb1⟩; have HK := hid (HK.out.bw (Bw.trans (by repeat (first | exact Bw.refl _ | apply Bw.alloc | apply Bw.drewN | apply Bw.drew)) hb1)); have HR := hid (HR.out.bw (Bw.trans (by repeat (first | exact Bw.refl _ | apply Bw.alloc | apply Bw.drewN | apply Bw.drew)) hb1)); clear hb1; have zz := HR.out.k.cell; have zf := HR.out.k.free; have zl := HR.out.k.lt)
    | (go_at_call 62; refine (want_yes _ ((HR.out.opn (o + 1) (by omega)).bw (by repeat (first | exact Bw.refl _ | apply Bw.alloc | apply Bw.drewN | apply Bw.drew))) HS.out).mono ?_; rintro e w2 ⟨rfl, hr1, hk1⟩; have HK := hid ((HK.out.set 2 _).trans hk1); have HR := hid hr1; clear hr1 hk1)
    | fail)
  all_goals go_ret
  all_goals exact ⟨rfl, HR.out, HK.out⟩

set_option maxRecDepth 100000 in
set_option maxHeartbeats 4000000 in
theorem enter_many (s : ByteArray) (h : RI B w r g cap T ex i o) (hs : isT T i s = true) (ho : o = 64) :
    Calls Tryd.prog 77 #[.pointer (some ⟨r, 0, none⟩), .string s] w fun e w' => e = .panicked (fltV 3 (tk T i).2.2.2) ∧ Kp r w w' := by
  have HR := hid h
  have HK := hid (Kp.refl r w)
  have ho1 : ((o : Int) == 64) = true := by simp; omega
  have ho2 : (o : Int) + 1 ≤ 100 := by omega
  clear h ho
  go_enter Tryd.func77, Tryd.ntmps77
  go_wp2_with (first
    | (go_at_call 58; refine (is_any _ (HR.out.bw (by repeat (first | exact Bw.refl _ | apply Bw.alloc | apply Bw.drewN | apply Bw.drew)))).mono ?_; rintro e w1 ⟨rfl, hb1⟩; have HK := hid (HK.out.bw (Bw.trans (by repeat (first | exact Bw.refl _ | apply Bw.alloc | apply Bw.drewN | apply Bw.drew)) hb1)); have HR := hid (HR.out.bw (Bw.trans (by repeat (first | exact Bw.refl _ | apply Bw.alloc | apply Bw.drewN | apply Bw.drew)) hb1)); clear hb1; have zz := HR.out.k.cell; have zf := HR.out.k.free; have zl := HR.out.k.lt)
    | (go_at_call 82; refine (fail_any _ (HR.out.bw (by repeat (first | exact Bw.refl _ | apply Bw.alloc | apply Bw.drewN | apply Bw.drew)))).mono ?_; rintro e w1 ⟨rfl, hb1⟩; have HK := hid (HK.out.bw (Bw.trans (by repeat (first | exact Bw.refl _ | apply Bw.alloc | apply Bw.drewN | apply Bw.drew)) hb1)); clear hb1)
    | fail)
  all_goals exact ⟨rfl, rfl, HK.out⟩

set_option maxRecDepth 100000 in
set_option maxHeartbeats 4000000 in
theorem enter_no (s : ByteArray) (h : RI B w r g cap T ex i o) (hs : isT T i s = false) (ho : o ≤ 64) :
    Calls Tryd.prog 77 #[.pointer (some ⟨r, 0, none⟩), .string s] w fun e w' => e = .panicked (fltV 6 (tk T i).2.2.2) ∧ Kp r w w' := by
  have HR := hid h
  have HK := hid (Kp.refl r w)
  have HS := hid hs
  have ho2 : (o : Int) + 1 ≤ 100 := by omega
  clear h
  go_enter Tryd.func77, Tryd.ntmps77
  go_wp2_with (first
    | (go_at_call 58; refine (is_any _ (HR.out.bw (by repeat (first | exact Bw.refl _ | apply Bw.alloc | apply Bw.drewN | apply Bw.drew)))).mono ?_; rintro e w1 ⟨rfl, hb1⟩; have HK := hid (HK.out.bw (Bw.trans (by repeat (first | exact Bw.refl _ | apply Bw.alloc | apply Bw.drewN | apply Bw.drew)) hb1)); have HR := hid (HR.out.bw (Bw.trans (by repeat (first | exact Bw.refl _ | apply Bw.alloc | apply Bw.drewN | apply Bw.drew)) hb1)); clear hb1; have zz := HR.out.k.cell; have zf := HR.out.k.free; have zl := HR.out.k.lt)
    | (go_at_call 62; refine (want_no _ ((HR.out.opn (o + 1) (by omega)).bw (by repeat (first | exact Bw.refl _ | apply Bw.alloc | apply Bw.drewN | apply Bw.drew))) HS.out).mono ?_; rintro e w2 ⟨rfl, hk1⟩; have HK := hid ((HK.out.set 2 _).trans hk1); clear hk1)
    | fail)
  all_goals exact ⟨rfl, rfl, HK.out⟩

set_option maxRecDepth 100000 in
set_option maxHeartbeats 4000000 in
theorem leave_yes (s : ByteArray) (h : RI B w r g cap T ex i (o + 1)) (hs : isT T i s = true) :
    Calls Tryd.prog 78 #[.pointer (some ⟨r, 0, none⟩), .string s] w fun e w' => e = .returned (.tuple #[]) ∧ RI B w' r g cap T ex (i + 1) o ∧ Kp r w w' := by
  have HR := hid h
  have HK := hid (Kp.refl r w)
  have HS := hid hs
  have ho := h.ho
  have ho2 : (o : Int) + 1 ≤ 100 := by omega
  clear h
  go_enter Tryd.func78, Tryd.ntmps78
  go_wp2_with (first
    | (go_at_call 62; refine (want_yes _ (HR.out.bw (by repeat (first | exact Bw.refl _ | apply Bw.alloc | apply Bw.drewN | apply Bw.drew))) HS.out).mono ?_; rintro e w2 ⟨rfl, hr1, hk1⟩; have HK := hid ((HK.out.bw (by repeat (first | exact Bw.refl _ | apply Bw.alloc | apply Bw.drewN | apply Bw.drew))).trans hk1); have HR := hid hr1; clear hr1 hk1; have zz := HR.out.k.cell; have zf := HR.out.k.free; have zl := HR.out.k.lt)
    | fail)
  all_goals go_end0
  all_goals exact ⟨rfl, HR.out.opn o (by omega), HK.out.set 2 _⟩

set_option maxRecDepth 100000 in
set_option maxHeartbeats 4000000 in
theorem leave_no (s : ByteArray) (h : RI B w r g cap T ex i o) (hs : isT T i s = false) :
    Calls Tryd.prog 78 #[.pointer (some ⟨r, 0, none⟩), .string s] w fun e w' => e = .panicked (fltV 6 (tk T i).2.2.2) ∧ Kp r w w' := by
  have HR := hid h
  have HK := hid (Kp.refl r w)
  have HS := hid hs
  clear h
  go_enter Tryd.func78, Tryd.ntmps78
  go_wp2_with (first
    | (go_at_call 62; refine (want_no _ (HR.out.bw (by repeat (first | exact Bw.refl _ | apply Bw.alloc | apply Bw.drewN | apply Bw.drew))) HS.out).mono ?_; rintro e w2 ⟨rfl, hk1⟩; have HK := hid ((HK.out.bw (by repeat (first | exact Bw.refl _ | apply Bw.alloc | apply Bw.drewN | apply Bw.drew))).trans hk1); clear hk1)
    | fail)
  all_goals exact ⟨rfl, rfl, HK.out⟩

end

end Go.Proofs.YtlcieebneclmpaaDoor

