/- The document's parser: level. -/
import Derived.Test.YtekkjpecdflajaaDoorM2
set_option linter.unusedSimpArgs false
set_option linter.unusedVariables false
namespace Go.Proofs.YtekkjpecdflajaaDoor
open Go Go.RowKit

theorem lit_eq (u b : ByteArray) (l : List UInt8) (hb : b.toList = l) : (u = b) = ((u.toList == l) = true) := by rw [← hb, str_dec]; simp
theorem ret_i {x y : Int} (h : x = y) : Ending.returned (.int .i64 x) = Ending.returned (.int .i64 y) := by rw [h]
set_option maxRecDepth 100000 in
set_option maxHeartbeats 4000000 in
theorem dlevel_any (w : World) (t : ATok) : Calls Tryd.prog 51 #[.agg #[.int .i64 t.1, .string (strOfNums t.2.1), .int .i64 t.2.2.1, .int .i64 t.2.2.2]] w fun e w' => e = .returned (.int .i64 (dLev t)) ∧ Bw w w' := by
  obtain ⟨k0, k1, k2, k3⟩ := t
  have HD := hid (show dLev (k0, k1, k2, k3) = dLev (k0, k1, k2, k3) from rfl)
  generalize hd : dLev (k0, k1, k2, k3) = d at HD ⊢
  unfold dLev at hd
  simp only at hd ⊢
  generalize strOfNums k1 = u at hd ⊢
  have q0 := lit_eq u ⟨#[111, 114]⟩ [111, 114] (by first | (simp; done) | (simp [go_sem]; done) | decide +kernel)
  have q1 := lit_eq u ⟨#[97, 110, 100]⟩ [97, 110, 100] (by first | (simp; done) | (simp [go_sem]; done) | decide +kernel)
  have q2 := lit_eq u ⟨#[61, 61]⟩ [61, 61] (by first | (simp; done) | (simp [go_sem]; done) | decide +kernel)
  have q3 := lit_eq u ⟨#[33, 61]⟩ [33, 61] (by first | (simp; done) | (simp [go_sem]; done) | decide +kernel)
  have q4 := lit_eq u ⟨#[60]⟩ [60] (by first | (simp; done) | (simp [go_sem]; done) | decide +kernel)
  have q5 := lit_eq u ⟨#[60, 61]⟩ [60, 61] (by first | (simp; done) | (simp [go_sem]; done) | decide +kernel)
  have q6 := lit_eq u ⟨#[62]⟩ [62] (by first | (simp; done) | (simp [go_sem]; done) | decide +kernel)
  have q7 := lit_eq u ⟨#[62, 61]⟩ [62, 61] (by first | (simp; done) | (simp [go_sem]; done) | decide +kernel)
  have q8 := lit_eq u ⟨#[43]⟩ [43] (by first | (simp; done) | (simp [go_sem]; done) | decide +kernel)
  have q9 := lit_eq u ⟨#[45]⟩ [45] (by first | (simp; done) | (simp [go_sem]; done) | decide +kernel)
  have q10 := lit_eq u ⟨#[42]⟩ [42] (by first | (simp; done) | (simp [go_sem]; done) | decide +kernel)
  have q11 := lit_eq u ⟨#[47]⟩ [47] (by first | (simp; done) | (simp [go_sem]; done) | decide +kernel)
  have q12 := lit_eq u ⟨#[37]⟩ [37] (by first | (simp; done) | (simp [go_sem]; done) | decide +kernel)
  simp only [q0, q1, q2, q3, q4, q5, q6, q7, q8, q9, q10, q11, q12] at hd
  clear q0 q1 q2 q3 q4 q5 q6 q7 q8 q9 q10 q11 q12
  have HE := hid hd
  clear hd
  go_enter Tryd.func51, Tryd.ntmps51
  go_wp2
  all_goals go_ret
  all_goals refine ⟨ret_i ?_, by repeat (first | exact Bw.refl _ | apply Bw.alloc | apply Bw.drewN | apply Bw.drew)⟩
  all_goals rw [← HE.out]
  all_goals first | (simp [*]; done) | (clear HE; simp_all; done)

end Go.Proofs.YtekkjpecdflajaaDoor

