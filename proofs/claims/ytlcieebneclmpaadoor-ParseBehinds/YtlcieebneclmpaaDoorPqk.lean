/- One of several signs: contracts. -/
import Derived.Test.YtlcieebneclmpaaDoorPok
set_option linter.unusedSimpArgs false
set_option linter.unusedVariables false
namespace Go.Proofs.YtlcieebneclmpaaDoor
open Go Go.RowKit

theorem any_take {α : Type} (p : α → Bool) (l : List α) (k : Nat) (hk : k < l.length) (h : (l.take k).any p = false) : (l.take (k + 1)).any p = p l[k] := by
  rw [List.take_succ_eq_append_getElem hk, List.any_append, h]
  simp

section
variable {B w : World} {r g cap : Nat} {T : List ATok} {ex : Nat → Value} {i o : Nat}

set_option maxRecDepth 100000 in
set_option maxHeartbeats 4000000 in
theorem indexF_any (v : Value) (ss : List ByteArray) (h : RI B w r g cap T ex i o) (hs : SgM w r v ss) :
    Calls Tryd.prog 92 #[v, .func (.func 58) #[.pointer (some ⟨r, 0, none⟩)] #[]] w fun e w' => ∃ n : Int, e = .returned (.int .i64 n) ∧ decide (n ≥ 0) = isO T i ss ∧ Bw w w' := by
  have HR := hid h
  have HS := hid hs
  obtain ⟨s, c, rfl, hs1, hs2, hs3⟩ := hs
  clear h
  go_enter Tryd.func92, Tryd.ntmps92
  go_wp2
  go_loopw [8] (fun j wr => ∃ k : Nat, k ≤ ss.length ∧ j = .int .i64 k ∧ (ss.take k).any (isT T i) = false ∧ Bw w wr) (fun j _ => ss.length - (intOf j).toNat)
  case atStart => exact ⟨0, Nat.zero_le _, rfl, by simp, Bw.refl _⟩
  case round =>
    obtain ⟨k, hk, rfl, ha, hb⟩ := hrel
    rename World => wr
    have HB := hid hb
    have HA := hid ha
    have zc := (hs2.bw hb).cell
    have zl := (hs2.bw hb).lt
    clear ha hb
    by_cases hlt : k < ss.length
    · have hk1 : (0 : Int) ≤ (k : Int) := by omega
      have hk2 : (k : Int) < (ss.length : Int) := by omega
      have zk : wr.cell? ⟨s, k, none⟩ = some (.string ss[k]) := by rw [zc]; simp [hlt]
      have HX := hid (any_take (isT T i) ss k hlt HA.out)
      have hx2 : decide ((k : Int) ≥ 0) = true := by simp
      clear zc
      generalize hq : ss[k] = q at zk HX
      cases hp : isT T i q
      · go_wp2_with (first
          | (go_at_call 58; refine (is_any q ((HR.out.bw HB.out).bw (by repeat (first | exact Bw.refl _ | apply Bw.alloc | apply Bw.drewN | apply Bw.drew)))).mono ?_; rintro e w1 ⟨rfl, hb1⟩; rw [hp]; have HB := hid (HB.out.trans (Bw.trans (by repeat (first | exact Bw.refl _ | apply Bw.alloc | apply Bw.drewN | apply Bw.drew)) hb1)); clear hb1)
          | fail)
        go_roundw
        case rel => exact ⟨k + 1, by omega, by go_num, by rw [HX.out]; exact hp, HB.out⟩
        case measure => simp [intOf]; omega
      · go_wp2_with (first
          | (go_at_call 58; refine (is_any q ((HR.out.bw HB.out).bw (by repeat (first | exact Bw.refl _ | apply Bw.alloc | apply Bw.drewN | apply Bw.drew)))).mono ?_; rintro e w1 ⟨rfl, hb1⟩; rw [hp]; have HB := hid (HB.out.trans (Bw.trans (by repeat (first | exact Bw.refl _ | apply Bw.alloc | apply Bw.drewN | apply Bw.drew)) hb1)); clear hb1)
          | fail)
        all_goals go_ret
        all_goals exact ⟨_, rfl, by rw [show isO T i ss = true from List.any_eq_true.2 ⟨q, by rw [← hq]; exact List.getElem_mem hlt, hp⟩]; simp, HB.out⟩
    · obtain rfl : k = ss.length := by omega
      go_wp2
      all_goals go_ret
      all_goals exact ⟨_, rfl, by rw [show isO T i ss = false from by have := HA.out; rwa [List.take_length] at this]; simp, HB.out⟩

set_option maxRecDepth 100000 in
set_option maxHeartbeats 4000000 in
theorem contF_any (v : Value) (ss : List ByteArray) (h : RI B w r g cap T ex i o) (hs : SgM w r v ss) :
    Calls Tryd.prog 86 #[v, .func (.func 58) #[.pointer (some ⟨r, 0, none⟩)] #[]] w fun e w' => e = .returned (.bool (isO T i ss)) ∧ Bw w w' := by
  have HR := hid h
  have HS := hid hs
  clear h hs
  go_enter Tryd.func86, Tryd.ntmps86
  go_wp2_with (first
    | (go_at_call 92; refine (indexF_any v ss (HR.out.bw (by repeat (first | exact Bw.refl _ | apply Bw.alloc | apply Bw.drewN | apply Bw.drew))) (HS.out.bw (by repeat (first | exact Bw.refl _ | apply Bw.alloc | apply Bw.drewN | apply Bw.drew)))).mono ?_; rintro e w1 ⟨n, rfl, hn, hb1⟩; have HN := hid hn; have HB := hid (Bw.trans (by repeat (first | exact Bw.refl _ | apply Bw.alloc | apply Bw.drewN | apply Bw.drew)) hb1); clear hb1 hn)
    | fail)
  all_goals go_ret
  all_goals exact ⟨ret_bool HN.out, HB.out⟩

set_option maxRecDepth 100000 in
set_option maxHeartbeats 4000000 in
theorem isOne_any (v : Value) (ss : List ByteArray) (h : RI B w r g cap T ex i o) (hs : SgM w r v ss) :
    Calls Tryd.prog 70 #[.pointer (some ⟨r, 0, none⟩), v] w fun e w' => e = .returned (.bool (isO T i ss)) ∧ Bw w w' := by
  have HR := hid h
  have HS := hid hs
  have hmf : ∀ (fn : Fn) (first cap : Array Value) (w : World), (Instr.makeFunc fn first cap).run Tryd.prog w = .ok (.func fn first cap) w := fun _ _ _ _ => rfl
  clear h hs
  go_enter Tryd.func70, Tryd.ntmps70
  go_wp2_with (first
    | (go_at_call 86; refine (contF_any v ss (HR.out.bw (by repeat (first | exact Bw.refl _ | apply Bw.alloc | apply Bw.drewN | apply Bw.drew))) (HS.out.bw (by repeat (first | exact Bw.refl _ | apply Bw.alloc | apply Bw.drewN | apply Bw.drew)))).mono ?_; rintro e w1 ⟨rfl, hb1⟩; have HB := hid (Bw.trans (by repeat (first | exact Bw.refl _ | apply Bw.alloc | apply Bw.drewN | apply Bw.drew)) hb1); clear hb1)
    | fail)
  all_goals go_ret
  all_goals exact ⟨rfl, HB.out⟩

theorem sgm_new (w : World) (hr : r ≠ w.heap.size) (ss : List ByteArray) (hl : ss.length ≤ 100) : SgM (w.alloc (.cells (ss.map Value.string).toArray 9)) r (.slice (some ⟨w.heap.size, 0, none⟩) ss.length ss.length) ss :=
  ⟨w.heap.size, ss.length, rfl, fun e => hr e.symm, Blk.new w _ _, hl⟩

set_option maxRecDepth 100000 in
set_option maxHeartbeats 4000000 in
theorem begs_any (h : RI B w r g cap T ex i o) :
    Calls Tryd.prog 96 #[.pointer (some ⟨r, 0, none⟩)] w fun e w' => e = .returned (.bool (begs T i)) ∧ Bw w w' := by
  have HR := hid h
  have HK := hid (Kp.refl r w)
  have hr := h.k.lt
  unfold begs
  have HX := hid (fun (w1 : World) (hb : Bw w w1) => isOne_any (w := w1.alloc (.cells (begL.map Value.string).toArray 9)) (B := B) (r := r) (g := g) (cap := cap) (T := T) (ex := ex) (i := i) (o := o) (.slice (some ⟨w1.heap.size, 0, none⟩) begL.length begL.length) begL ((h.bw hb).bw (Bw.alloc (Bw.refl _) _)) (sgm_new w1 (by have := hb.size; omega) begL (by decide)))
  clear h
  generalize isO T i begL = q at HX
  go_enter Tryd.func96, Tryd.ntmps96
  go_wp2_with (first
    | (go_at_call 57; refine (token_any (HR.out.bw (by repeat (first | exact Bw.refl _ | apply Bw.alloc | apply Bw.drewN | apply Bw.drew)))).mono ?_; unfold tokV; rintro e w1 ⟨rfl, hb1⟩; have B1 := hid (Bw.trans (by repeat (first | exact Bw.refl _ | apply Bw.alloc | apply Bw.drewN | apply Bw.drew)) hb1); clear hb1)
    | (go_at_call 70; refine (HX.out _ B1.out).mono ?_; rintro e w2 ⟨rfl, hb1⟩; have B2 := hid (B1.out.trans (Bw.trans (by repeat (first | exact Bw.refl _ | apply Bw.alloc | apply Bw.drewN | apply Bw.drew)) hb1)); clear hb1)
    | fail)
  all_goals go_ret
  all_goals first | exact ⟨ret_bool (by simp [*]), B2.out⟩ | exact ⟨ret_bool (by simp [*]), B1.out⟩

end

end Go.Proofs.YtlcieebneclmpaaDoor

