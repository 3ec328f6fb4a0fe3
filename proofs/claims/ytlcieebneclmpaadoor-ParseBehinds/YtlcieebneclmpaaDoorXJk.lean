/- The program's cutter of any token: the contract. -/
import Derived.Test.YtlcieebneclmpaaDoorXIk
set_option linter.unusedSimpArgs false
set_option linter.unusedVariables false
namespace Go.Proofs.YtlcieebneclmpaaDoor
open Go Go.RowKit

set_option maxRecDepth 100000 in
set_option maxHeartbeats 8000000 in
theorem xcut_any (v : Value) (b : List Int) (k : Nat) (w : World) (h : By w v b) (hs : Sg w) (hk : k < b.length) (hm : b.length ≤ 1000000) :
    Calls Tryd.prog 41 #[v, .int .i64 (k : Nat)] w fun e w' => e = .returned (cutV k (cut (b.drop k))) ∧ Bw w w' := by
  have HB := hid (h.bw (Bw.alloc (Bw.refl w) tk0))
  have HS := hid (hs.bw (Bw.alloc (Bw.refl w) tk0))
  obtain ⟨g, o, cap, rfl, hcap, hg, hcs⟩ := h.parts hk
  have hc := hcs k hk
  have hr : b.drop k = b[k] :: b.drop (k + 1) := List.drop_eq_getElem_cons hk
  have e : cut (b.drop k) = if isLt b[k] then cName (b.drop k) else if isDg b[k] then cNum (b.drop k) else if b[k] = 34 then cStr ((b.drop (k + 1)).length + 1) (b.drop (k + 1)) [] 1 else cSign (b.drop k) := by
    conv => lhs; rw [hr]
    simp only [cut]
    rw [← hr]
  have hkl : (k : Int) < (b.length : Int) := by omega
  rw [e]
  clear h hs hcs e hr
  generalize b[k] = c at hc
  cases h1 : isLt c
  · cases h2 : isDg c
    · cases h3 : (c == 34)
      · rw [if_neg (by simp), if_neg (by simp), if_neg (by simpa using h3)]
        have HX := hid (xcutSign_any _ b k _ HB.out HS.out hk hm)
        cases hC : cSign (b.drop k) with
        | tok kd x n len =>
          rw [hC] at HX
          clear hC
          go_enter Tryd.func41, Tryd.ntmps41
          go_wp2_with (first
            | (go_at_call 46; refine (xisDigit_any _ _).mono ?_; rintro e w' ⟨rfl, hw'⟩; subst w')
            | (go_at_call 47; refine (xisLetter_any _ _).mono ?_; rintro e w' ⟨rfl, hw'⟩; subst w')
            | (go_at_call 52; refine (HX.out).mono ?_; rintro e w1 ⟨rfl, hw1⟩; have HW1 := hid hw1; have B := (Blk.new w #[.int .i64 0, .string ByteArray.empty, .int .i64 0, .int .i64 0] 72).bw hw1; have HBK := hid B; have k0 := B.cell 0; have k1 := B.cell 1; have k2 := B.cell 2; have k3 := B.cell 3; have kf := B.free; simp at k0 k1 k2 k3; clear hw1 B; unfold cutV))
          all_goals
            have bf := (((HBK.out.set 0 (.int .i64 kd)).set 1 (.string (strOfNums x))).set 2 (.int .i64 n)).set 3 (.int .i64 (k : Nat))
            have bfc := bf.cell
            refine bodyPost_ret (v := cutV k (.tok kd x n len)) (by unfold cutV; simp [results, Tryd.results41, go_sem, bfc]) rfl ?_
            exact ⟨rfl, (Bw.alloc (Bw.refl w) tk0).trans HW1.out |>.setCell (by simp) _ |>.setCell (by simp) _ |>.setCell (by simp) _ |>.setCell (by simp) _⟩
        | bad er off =>
          rw [hC] at HX
          clear hC
          go_enter Tryd.func41, Tryd.ntmps41
          go_wp2_with (first
            | (go_at_call 46; refine (xisDigit_any _ _).mono ?_; rintro e w' ⟨rfl, hw'⟩; subst w')
            | (go_at_call 47; refine (xisLetter_any _ _).mono ?_; rintro e w' ⟨rfl, hw'⟩; subst w')
            | (go_at_call 52; refine (HX.out).mono ?_; rintro e w1 ⟨rfl, hw1⟩; have HW1 := hid hw1; have B := (Blk.new w #[.int .i64 0, .string ByteArray.empty, .int .i64 0, .int .i64 0] 72).bw hw1; have HBK := hid B; have k0 := B.cell 0; have k1 := B.cell 1; have k2 := B.cell 2; have k3 := B.cell 3; have kf := B.free; simp at k0 k1 k2 k3; clear hw1 B; unfold cutV))
          all_goals
            have bf := (((HBK.out.set 0 (.int .i64 0)).set 1 (.string ⟨#[]⟩)).set 2 (.int .i64 0)).set 3 (.int .i64 0)
            have bfc := bf.cell
            refine bodyPost_ret (v := cutV k (.bad er off)) (by unfold cutV; simp [results, Tryd.results41, go_sem, bfc]) rfl ?_
            exact ⟨rfl, (Bw.alloc (Bw.refl w) tk0).trans HW1.out |>.setCell (by simp) _ |>.setCell (by simp) _ |>.setCell (by simp) _ |>.setCell (by simp) _⟩
      · rw [if_neg (by simp), if_neg (by simp), if_pos (by simpa using h3)]
        have HX := hid (xcutString_any _ b k _ HB.out hk hm _ rfl)
        cases hC : cStr ((b.drop (k + 1)).length + 1) (b.drop (k + 1)) [] 1 with
        | tok kd x n len =>
          rw [hC] at HX
          clear hC
          go_enter Tryd.func41, Tryd.ntmps41
          go_wp2_with (first
            | (go_at_call 46; refine (xisDigit_any _ _).mono ?_; rintro e w' ⟨rfl, hw'⟩; subst w')
            | (go_at_call 47; refine (xisLetter_any _ _).mono ?_; rintro e w' ⟨rfl, hw'⟩; subst w')
            | (go_at_call 51; refine (HX.out).mono ?_; rintro e w1 ⟨rfl, hw1⟩; have HW1 := hid hw1; have B := (Blk.new w #[.int .i64 0, .string ByteArray.empty, .int .i64 0, .int .i64 0] 72).bw hw1; have HBK := hid B; have k0 := B.cell 0; have k1 := B.cell 1; have k2 := B.cell 2; have k3 := B.cell 3; have kf := B.free; simp at k0 k1 k2 k3; clear hw1 B; unfold cutV))
          all_goals
            have bf := (((HBK.out.set 0 (.int .i64 kd)).set 1 (.string (strOfNums x))).set 2 (.int .i64 n)).set 3 (.int .i64 (k : Nat))
            have bfc := bf.cell
            refine bodyPost_ret (v := cutV k (.tok kd x n len)) (by unfold cutV; simp [results, Tryd.results41, go_sem, bfc]) rfl ?_
            exact ⟨rfl, (Bw.alloc (Bw.refl w) tk0).trans HW1.out |>.setCell (by simp) _ |>.setCell (by simp) _ |>.setCell (by simp) _ |>.setCell (by simp) _⟩
        | bad er off =>
          rw [hC] at HX
          clear hC
          go_enter Tryd.func41, Tryd.ntmps41
          go_wp2_with (first
            | (go_at_call 46; refine (xisDigit_any _ _).mono ?_; rintro e w' ⟨rfl, hw'⟩; subst w')
            | (go_at_call 47; refine (xisLetter_any _ _).mono ?_; rintro e w' ⟨rfl, hw'⟩; subst w')
            | (go_at_call 51; refine (HX.out).mono ?_; rintro e w1 ⟨rfl, hw1⟩; have HW1 := hid hw1; have B := (Blk.new w #[.int .i64 0, .string ByteArray.empty, .int .i64 0, .int .i64 0] 72).bw hw1; have HBK := hid B; have k0 := B.cell 0; have k1 := B.cell 1; have k2 := B.cell 2; have k3 := B.cell 3; have kf := B.free; simp at k0 k1 k2 k3; clear hw1 B; unfold cutV))
          all_goals
            have bf := (((HBK.out.set 0 (.int .i64 0)).set 1 (.string ⟨#[]⟩)).set 2 (.int .i64 0)).set 3 (.int .i64 0)
            have bfc := bf.cell
            refine bodyPost_ret (v := cutV k (.bad er off)) (by unfold cutV; simp [results, Tryd.results41, go_sem, bfc]) rfl ?_
            exact ⟨rfl, (Bw.alloc (Bw.refl w) tk0).trans HW1.out |>.setCell (by simp) _ |>.setCell (by simp) _ |>.setCell (by simp) _ |>.setCell (by simp) _⟩
    · rw [if_neg (by simp), if_pos rfl]
      have HX := hid (xcutNumber_any _ b k _ HB.out hk hm)
      cases hC : cNum (b.drop k) with
      | tok kd x n len =>
        rw [hC] at HX
        clear hC
        go_enter Tryd.func41, Tryd.ntmps41
        go_wp2_with (first
          | (go_at_call 46; refine (xisDigit_any _ _).mono ?_; rintro e w' ⟨rfl, hw'⟩; subst w')
          | (go_at_call 47; refine (xisLetter_any _ _).mono ?_; rintro e w' ⟨rfl, hw'⟩; subst w')
          | (go_at_call 50; refine (HX.out).mono ?_; rintro e w1 ⟨rfl, hw1⟩; have HW1 := hid hw1; have B := (Blk.new w #[.int .i64 0, .string ByteArray.empty, .int .i64 0, .int .i64 0] 72).bw hw1; have HBK := hid B; have k0 := B.cell 0; have k1 := B.cell 1; have k2 := B.cell 2; have k3 := B.cell 3; have kf := B.free; simp at k0 k1 k2 k3; clear hw1 B; unfold cutV))
        all_goals
          have bf := (((HBK.out.set 0 (.int .i64 kd)).set 1 (.string (strOfNums x))).set 2 (.int .i64 n)).set 3 (.int .i64 (k : Nat))
          have bfc := bf.cell
          refine bodyPost_ret (v := cutV k (.tok kd x n len)) (by unfold cutV; simp [results, Tryd.results41, go_sem, bfc]) rfl ?_
          exact ⟨rfl, (Bw.alloc (Bw.refl w) tk0).trans HW1.out |>.setCell (by simp) _ |>.setCell (by simp) _ |>.setCell (by simp) _ |>.setCell (by simp) _⟩
      | bad er off =>
        rw [hC] at HX
        clear hC
        go_enter Tryd.func41, Tryd.ntmps41
        go_wp2_with (first
          | (go_at_call 46; refine (xisDigit_any _ _).mono ?_; rintro e w' ⟨rfl, hw'⟩; subst w')
          | (go_at_call 47; refine (xisLetter_any _ _).mono ?_; rintro e w' ⟨rfl, hw'⟩; subst w')
          | (go_at_call 50; refine (HX.out).mono ?_; rintro e w1 ⟨rfl, hw1⟩; have HW1 := hid hw1; have B := (Blk.new w #[.int .i64 0, .string ByteArray.empty, .int .i64 0, .int .i64 0] 72).bw hw1; have HBK := hid B; have k0 := B.cell 0; have k1 := B.cell 1; have k2 := B.cell 2; have k3 := B.cell 3; have kf := B.free; simp at k0 k1 k2 k3; clear hw1 B; unfold cutV))
        all_goals
          have bf := (((HBK.out.set 0 (.int .i64 0)).set 1 (.string ⟨#[]⟩)).set 2 (.int .i64 0)).set 3 (.int .i64 0)
          have bfc := bf.cell
          refine bodyPost_ret (v := cutV k (.bad er off)) (by unfold cutV; simp [results, Tryd.results41, go_sem, bfc]) rfl ?_
          exact ⟨rfl, (Bw.alloc (Bw.refl w) tk0).trans HW1.out |>.setCell (by simp) _ |>.setCell (by simp) _ |>.setCell (by simp) _ |>.setCell (by simp) _⟩
  · rw [if_pos rfl]
    have HX := hid (xcutName_any _ b k _ HB.out hk hm)
    cases hC : cName (b.drop k) with
    | tok kd x n len =>
      rw [hC] at HX
      clear hC
      go_enter Tryd.func41, Tryd.ntmps41
      go_wp2_with (first
        | (go_at_call 46; refine (xisDigit_any _ _).mono ?_; rintro e w' ⟨rfl, hw'⟩; subst w')
        | (go_at_call 47; refine (xisLetter_any _ _).mono ?_; rintro e w' ⟨rfl, hw'⟩; subst w')
        | (go_at_call 49; refine (HX.out).mono ?_; rintro e w1 ⟨rfl, hw1⟩; have HW1 := hid hw1; have B := (Blk.new w #[.int .i64 0, .string ByteArray.empty, .int .i64 0, .int .i64 0] 72).bw hw1; have HBK := hid B; have k0 := B.cell 0; have k1 := B.cell 1; have k2 := B.cell 2; have k3 := B.cell 3; have kf := B.free; simp at k0 k1 k2 k3; clear hw1 B; unfold cutV))
      all_goals
        have bf := (((HBK.out.set 0 (.int .i64 kd)).set 1 (.string (strOfNums x))).set 2 (.int .i64 n)).set 3 (.int .i64 (k : Nat))
        have bfc := bf.cell
        refine bodyPost_ret (v := cutV k (.tok kd x n len)) (by unfold cutV; simp [results, Tryd.results41, go_sem, bfc]) rfl ?_
        exact ⟨rfl, (Bw.alloc (Bw.refl w) tk0).trans HW1.out |>.setCell (by simp) _ |>.setCell (by simp) _ |>.setCell (by simp) _ |>.setCell (by simp) _⟩
    | bad er off =>
      rw [hC] at HX
      clear hC
      go_enter Tryd.func41, Tryd.ntmps41
      go_wp2_with (first
        | (go_at_call 46; refine (xisDigit_any _ _).mono ?_; rintro e w' ⟨rfl, hw'⟩; subst w')
        | (go_at_call 47; refine (xisLetter_any _ _).mono ?_; rintro e w' ⟨rfl, hw'⟩; subst w')
        | (go_at_call 49; refine (HX.out).mono ?_; rintro e w1 ⟨rfl, hw1⟩; have HW1 := hid hw1; have B := (Blk.new w #[.int .i64 0, .string ByteArray.empty, .int .i64 0, .int .i64 0] 72).bw hw1; have HBK := hid B; have k0 := B.cell 0; have k1 := B.cell 1; have k2 := B.cell 2; have k3 := B.cell 3; have kf := B.free; simp at k0 k1 k2 k3; clear hw1 B; unfold cutV))
      all_goals
        have bf := (((HBK.out.set 0 (.int .i64 0)).set 1 (.string ⟨#[]⟩)).set 2 (.int .i64 0)).set 3 (.int .i64 0)
        have bfc := bf.cell
        refine bodyPost_ret (v := cutV k (.bad er off)) (by unfold cutV; simp [results, Tryd.results41, go_sem, bfc]) rfl ?_
        exact ⟨rfl, (Bw.alloc (Bw.refl w) tk0).trans HW1.out |>.setCell (by simp) _ |>.setCell (by simp) _ |>.setCell (by simp) _ |>.setCell (by simp) _⟩

end Go.Proofs.YtlcieebneclmpaaDoor

