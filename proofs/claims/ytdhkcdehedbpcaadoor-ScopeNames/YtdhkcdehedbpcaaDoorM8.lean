/- The document's reader: is, eat, bad, want, enter, name: contracts. · The document's parser: level. -/
import Derived.Test.YtdhkcdehedbpcaaDoorM5
set_option linter.unusedSimpArgs false
set_option linter.unusedVariables false
namespace Go.Proofs.YtdhkcdehedbpcaaDoor
open Go Go.RowKit

def RG (w : World) (r : Nat) (T : List ATok) (o : Int) (s' : DS) (w' : World) : Prop := RdM w' r T o s' ∧ Kp r w w'

theorem dIs_ne {T : List ATok} {s : DS} {t : ByteArray} (h : dIs T s t = true) : s.e = 0 ∧ (dtk T s.i).1 ≠ 0 := by
 unfold dIs at h
 simp only [Bool.and_eq_true, Bool.or_eq_true, decide_eq_true_eq] at h
 exact ⟨h.1.1, by omega⟩

section
variable {w w' : World} {r : Nat} {T : List ATok} {o : Int} {s : DS}

set_option maxRecDepth 100000 in
set_option maxHeartbeats 4000000 in
theorem dis_any (t : ByteArray) (h : RdM w r T o s) : Calls Tryd.prog 42 #[.pointer (some ⟨r, 0, none⟩), .string t] w fun e w' => e = .returned (.bool (dIs T s t)) ∧ Bw w w' := by
 obtain ⟨g, c, q, x⟩ := h.x
 have z := x.b.cell
 have zl := x.b.lt
 have gl := x.gl
 have c0 := x.c0 s.i h.i
 have c1 := x.c1 s.i h.i
 have c2 := x.c2 s.i h.i
 have c3 := x.c3 s.i h.i
 have l1 := x.l
 have hi1 : (0 : Int) ≤ (s.i : Int) := by omega
 have hi2 : (s.i : Int) < (T.length : Int) := by have := h.i; omega
 have HD := hid (show dIs T s t = (decide (s.e = 0) && (decide ((dtk T s.i).1 = 2) || decide ((dtk T s.i).1 = 5)) && decide (strOfNums (dtk T s.i).2.1 = t)) from rfl)
 generalize dIs T s t = d at HD ⊢
 clear h x
 generalize dtk T s.i = k at c0 c1 c2 c3 HD
 obtain ⟨k0, k1, k2, k3⟩ := k
 simp only at c0 c1 c2 c3 HD
 generalize strOfNums k1 = u at c1 HD
 go_enter Tryd.func42, Tryd.ntmps42
 go_upto_region 1 with fail
 go_region
 all_goals go_wp2
 all_goals go_ret
 all_goals refine ⟨ret_bool ?_, by repeat (first | exact Bw.refl _ | apply Bw.alloc | apply Bw.drewN | apply Bw.drew)⟩
 all_goals rw [HD.out]
 all_goals simp [str_dec, *]

theorem RdM.nx (h : RdM w r T o s) (he : s.e = 0) (hk : (dtk T s.i).1 ≠ 0) : RdM (w.setCell ⟨r, 1, none⟩ (.int .i64 ((s.i + 1 : Nat) : Int))) r T o (dNx s) := by
 obtain ⟨g, c, q, x⟩ := h.x
 refine h.kp ((Kp.refl r w).set 1 _) (vt := .slice (some ⟨g, 0, none⟩) T.length c) (q := q) ?_ x.t (h.n s.i h.i hk) (fun _ => ⟨x.q he, h.o he⟩)
 exact x.b.set 1 _

set_option maxRecDepth 100000 in
set_option maxHeartbeats 4000000 in
theorem deat_any (t : ByteArray) (h : RdM w r T o s) : Calls Tryd.prog 47 #[.pointer (some ⟨r, 0, none⟩), .string t] w fun e w' => e = .returned (.bool (dIs T s t)) ∧ RG w r T o (dEat T s t) w' := by
 have HR := hid h
 have HI := hid (dis_any t h)
 unfold dEat
 cases hd : dIs T s t
 ·rw [hd] at HI
  rw [if_neg (by decide)]
  clear h
  go_enter Tryd.func47, Tryd.ntmps47
  go_wp2_with (first
   | (go_at_call 42; refine HI.out.mono ?_; rintro e w1 ⟨rfl, hb1⟩; have B1 := hid hb1; clear hb1)
   | fail)
  all_goals go_ret
  all_goals exact ⟨rfl, HR.out.bw B1.out, Kp.of_bw B1.out⟩
 ·rw [hd] at HI
  rw [if_pos rfl]
  have HN := hid (dIs_ne hd)
  have hi2 : (s.i : Int) ≤ 100000 := by have := h.i; obtain ⟨g, c, q, x⟩ := h.x; have := x.l; omega
  clear h hd
  go_enter Tryd.func47, Tryd.ntmps47
  go_wp2_with (first
   | (go_at_call 42; refine HI.out.mono ?_; rintro e w1 ⟨rfl, hb1⟩; have B1 := hid hb1; have R1 := hid (HR.out.bw hb1); (obtain ⟨g, c, q, x⟩ := R1.out.x); have z : w1.cell? ⟨r, 1, none⟩ = some (.int .i64 s.i) := x.b.cell 1; have zf := x.b.free 1; have zl := x.b.lt; clear hb1 x)
   | fail)
  all_goals go_ret
  all_goals exact ⟨rfl, R1.out.nx HN.out.1 HN.out.2, (Kp.of_bw B1.out).set 1 _⟩

end

end Go.Proofs.YtdhkcdehedbpcaaDoor

namespace Go.Proofs.YtdhkcdehedbpcaaDoor
open Go Go.RowKit

theorem lit_eq (u b : ByteArray) (l : List UInt8) (hb : b.toList = l) : (u = b) = ((u.toList == l) = true) := by rw [← hb, str_dec]; simp
theorem ret_i {x y : Int} (h : x = y) : Ending.returned (.int .i64 x) = Ending.returned (.int .i64 y) := by rw [h]
set_option maxRecDepth 100000 in
set_option maxHeartbeats 4000000 in
theorem dlevel_any (w : World) (t : ATok) : Calls Tryd.prog 72 #[.agg #[.int .i64 t.1, .string (strOfNums t.2.1), .int .i64 t.2.2.1, .int .i64 t.2.2.2]] w fun e w' => e = .returned (.int .i64 (dLev t)) ∧ Bw w w' := by
 obtain ⟨k0, k1, k2, k3⟩ := t
 have HD := hid (show dLev (k0, k1, k2, k3) = dLev (k0, k1, k2, k3) from rfl)
 generalize hd : dLev (k0, k1, k2, k3) = d at HD ⊢
 unfold dLev at hd
 simp only at hd ⊢
 generalize strOfNums k1 = u at hd ⊢
 have q0 := lit_eq u ⟨#[111, 114]⟩ [111, 114] (by first | (simp; done) | (simp [go_sem]; done) | decide +kernel)
 have q1 := lit_eq u ⟨#[97, 110, 100]⟩ [97, 110, 100] (by first | (simp; done) | (simp [go_sem]; done) | decide +kernel)
 have q2 := lit_eq u ⟨#[61, 61]⟩ [61, 61] (by first | (simp; done) | (simp [go_sem]; done) | decide +kernel)
 have q3 := lit_eq u ⟨#[33, 61]⟩ [33, 61] (by first | (simp; done) | (simp [go_sem]; done) | decide +kernel)
 have q4 := lit_eq u ⟨#[60]⟩ [60] (by first | (simp; done) | (simp [go_sem]; done) | decide +kernel)
 have q5 := lit_eq u ⟨#[60, 61]⟩ [60, 61] (by first | (simp; done) | (simp [go_sem]; done) | decide +kernel)
 have q6 := lit_eq u ⟨#[62]⟩ [62] (by first | (simp; done) | (simp [go_sem]; done) | decide +kernel)
 have q7 := lit_eq u ⟨#[62, 61]⟩ [62, 61] (by first | (simp; done) | (simp [go_sem]; done) | decide +kernel)
 have q8 := lit_eq u ⟨#[43]⟩ [43] (by first | (simp; done) | (simp [go_sem]; done) | decide +kernel)
 have q9 := lit_eq u ⟨#[45]⟩ [45] (by first | (simp; done) | (simp [go_sem]; done) | decide +kernel)
 have q10 := lit_eq u ⟨#[42]⟩ [42] (by first | (simp; done) | (simp [go_sem]; done) | decide +kernel)
 have q11 := lit_eq u ⟨#[47]⟩ [47] (by first | (simp; done) | (simp [go_sem]; done) | decide +kernel)
 have q12 := lit_eq u ⟨#[37]⟩ [37] (by first | (simp; done) | (simp [go_sem]; done) | decide +kernel)
 simp only [q0, q1, q2, q3, q4, q5, q6, q7, q8, q9, q10, q11, q12] at hd
 clear q0 q1 q2 q3 q4 q5 q6 q7 q8 q9 q10 q11 q12
 have HE := hid hd
 clear hd
 go_enter Tryd.func72, Tryd.ntmps72
 go_wp2
 all_goals go_ret
 all_goals refine ⟨ret_i ?_, by repeat (first | exact Bw.refl _ | apply Bw.alloc | apply Bw.drewN | apply Bw.drew)⟩
 all_goals rw [← HE.out]
 all_goals first | (simp [*]; done) | (clear HE; simp_all; done)

end Go.Proofs.YtdhkcdehedbpcaaDoor

