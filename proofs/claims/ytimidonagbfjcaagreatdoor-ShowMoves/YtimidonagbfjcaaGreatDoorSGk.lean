/- A word without parts is shown: it is put behind the text. -/
import Derived.Test.YtimidonagbfjcaaGreatDoorK7
set_option linter.unusedSimpArgs false
set_option linter.unusedVariables false
namespace Go.Proofs.YtimidonagbfjcaaGreatDoor
open Go Go.RowKit

/-- The shower in memory: its heap, its map, its closure over the text. -/
abbrev shv (b0 mb bt : Nat) : Array Value := #[.pointer (some ⟨b0, 0, none⟩), .map (some mb), .func (.func 26) #[] #[.pointer (some ⟨bt, 0, none⟩)]]

theorem blk_ne {w : World} {g g' : Nat} {c c' : Array Value} {e e' : TypeId} (h : Blk w g c e) (h' : Blk w g' c' e') (he : e ≠ e') : g' ≠ g := by
  rintro rfl
  have : some (Obj.cells c e (0, 0)) = some (Obj.cells c' e' (0, 0)) := h.symm.trans h'
  simp at this
  exact he this.2

set_option maxHeartbeats 8000000 in
theorem value_plain {b0 : Nat} {H : AHeap} {bs : List Nat} (v : Int) (hU : U v) (w : World) (hp : HS w b0 H bs) (hk : (kk H v == 2 || kk H v == 3 || kk H v == 4) = false)
    (sb mb bt base : Nat) (hS : Blk w sb (shv b0 mb bt) 72) (xs : List Value) (t : Value) (hB : Blk w bt #[t] 30) (ho : w.ownsRow base 5 1 t xs.length xs) (hl : xs.length ≤ 65536) (hb : base ≤ w.heap.size)
    (s : ByteArray) (hs : s.size ≤ 1000000000)
    (hpl : ∀ w1, Bw w w1 → Calls Tryz.prog 47 #[.pointer (some ⟨b0, 0, none⟩), .int .u64 v] w1 fun e w2 => e = .returned (.string s) ∧ Bw w1 w2) :
    Calls Tryz.prog 27 #[.pointer (some ⟨sb, 0, none⟩), .int .u64 v] w fun e w' => ∃ w0, Bw w w0 ∧
      ((65536 < xs.length + s.size ∧ e = .returned (.bool false) ∧ w' = w0) ∨
      (xs.length + s.size ≤ 65536 ∧ e = .returned (.bool true) ∧ ∃ v' w1, w1.ownsRow base 5 1 v' (xs.length + s.size) (xs ++ Lib.strCells s) ∧ w0.grownBy w1 t.ownBlock ∧ w' = w1.setCell ⟨bt, 0, none⟩ v' ∧ Blk w1 bt #[t] 30)) := by
  have HP := hid hp
  have HU := hid hU
  have HS0 := hid hS
  have HB := hid hB
  have HO := hid ho
  have HPL := hid hpl
  have z0 : w.cell? ⟨sb, 0, none⟩ = some (.pointer (some ⟨b0, 0, none⟩)) := hS.cell 0
  have z2 : w.cell? ⟨sb, 2, none⟩ = some (.func (.func 26) #[] #[.pointer (some ⟨bt, 0, none⟩)]) := hS.cell 2
  clear hp hU hS hB ho hpl
  by_cases hr : 65536 < xs.length + s.size
  · go_enter Tryz.func27, Tryz.ntmps27
    go_wp2_with (first
      | (go_at_call 31; refine (kind_hs4 _ HU.out _ HP.out).mono ?_; rintro e w' ⟨rfl, hw'⟩; subst w')
      | (go_at_call 45; refine (hasParts_any _ _).mono ?_; rintro e w' ⟨rfl, hw'⟩; subst w'; rw [hk])
      | fail)
    go_region_held3 (fun w' => w'.cell? ⟨sb, 0, none⟩ = some (.pointer (some ⟨b0, 0, none⟩)) ∧ w'.cell? ⟨sb, 2, none⟩ = some (.func (.func 26) #[] #[.pointer (some ⟨bt, 0, none⟩)])) (first | (simp [go_sem, *]; done) | exact ⟨yy0, yy2⟩ | exact ⟨y0, y2⟩)
      (first
        | (go_at_call 47; refine (HPL.out _ (by repeat (first | exact Bw.refl _ | apply Bw.drew))).mono ?_; rintro e w2 ⟨rfl, hb2⟩; have hb3 : Bw w w2 := Bw.trans (by repeat (first | exact Bw.refl _ | apply Bw.drew)) hb2; have y0 : w2.cell? ⟨sb, 0, none⟩ = some (.pointer (some ⟨b0, 0, none⟩)) := (HS0.out.bw hb3).cell 0; have y2 : w2.cell? ⟨sb, 2, none⟩ = some (.func (.func 26) #[] #[.pointer (some ⟨bt, 0, none⟩)]) := (HS0.out.bw hb3).cell 2; have HB3 := hid hb3; clear hb2 hb3)
        | (go_at_call 26; refine (put_any s bt base xs t _ (HB.out.bw HB3.out) (own_bw HO.out HB3.out) hl hs (Nat.le_trans hb HB3.out.size)).mono ?_; rintro e w3 hc; obtain ⟨rfl, rfl⟩ : e = .returned (.bool false) ∧ w3 = _ := (hc.elim (fun h => ⟨h.2.1, h.2.2⟩) (fun h => absurd h.1 (by omega))))
        | fail)
    go_wp2
    all_goals go_ret
    all_goals exact ⟨_, HB3.out, .inl ⟨hr, rfl, rfl⟩⟩
  · go_enter Tryz.func27, Tryz.ntmps27
    go_wp2_with (first
      | (go_at_call 31; refine (kind_hs4 _ HU.out _ HP.out).mono ?_; rintro e w' ⟨rfl, hw'⟩; subst w')
      | (go_at_call 45; refine (hasParts_any _ _).mono ?_; rintro e w' ⟨rfl, hw'⟩; subst w'; rw [hk])
      | fail)
    go_region_held3 (fun w' => w'.cell? ⟨sb, 0, none⟩ = some (.pointer (some ⟨b0, 0, none⟩)) ∧ w'.cell? ⟨sb, 2, none⟩ = some (.func (.func 26) #[] #[.pointer (some ⟨bt, 0, none⟩)])) (first | (simp [go_sem, *]; done) | exact ⟨yy0, yy2⟩ | exact ⟨y0, y2⟩)
      (first
        | (go_at_call 47; refine (HPL.out _ (by repeat (first | exact Bw.refl _ | apply Bw.drew))).mono ?_; rintro e w2 ⟨rfl, hb2⟩; have hb3 : Bw w w2 := Bw.trans (by repeat (first | exact Bw.refl _ | apply Bw.drew)) hb2; have y0 : w2.cell? ⟨sb, 0, none⟩ = some (.pointer (some ⟨b0, 0, none⟩)) := (HS0.out.bw hb3).cell 0; have y2 : w2.cell? ⟨sb, 2, none⟩ = some (.func (.func 26) #[] #[.pointer (some ⟨bt, 0, none⟩)]) := (HS0.out.bw hb3).cell 2; have HB3 := hid hb3; clear hb2 hb3)
        | (go_at_call 26; refine (put_any s bt base xs t _ (HB.out.bw HB3.out) (own_bw HO.out HB3.out) hl hs (Nat.le_trans hb HB3.out.size)).mono ?_; rintro e w3 hc; obtain ⟨he, v3, w4, ho4, hg4, hw3, hb4⟩ : e = .returned (.bool true) ∧ ∃ v' w1, w1.ownsRow base 5 1 v' (xs.length + s.size) (xs ++ Lib.strCells s) ∧ w2.grownBy w1 t.ownBlock ∧ w3 = w1.setCell ⟨bt, 0, none⟩ v' ∧ Blk w1 bt #[t] 30 := (hc.elim (fun h => absurd h.1 (by omega)) (fun h => ⟨h.2.1, h.2.2⟩)); subst he; have hs4 : Blk w4 sb (shv b0 mb bt) 72 := Blk.grownOwn (HS0.out.bw HB3.out) (own_bw HO.out HB3.out) (by decide) hg4; have hs3 : Blk w3 sb (shv b0 mb bt) 72 := (by rw [hw3]; exact hs4.other (p := ⟨bt, 0, none⟩) (blk_ne hs4 hb4 (by decide)) v3); have yy0 : w3.cell? ⟨sb, 0, none⟩ = some (.pointer (some ⟨b0, 0, none⟩)) := hs3.cell 0; have yy2 : w3.cell? ⟨sb, 2, none⟩ = some (.func (.func 26) #[] #[.pointer (some ⟨bt, 0, none⟩)]) := hs3.cell 2; have HC := hid (show ∃ v' w1, w1.ownsRow base 5 1 v' (xs.length + s.size) (xs ++ Lib.strCells s) ∧ w2.grownBy w1 t.ownBlock ∧ w3 = w1.setCell ⟨bt, 0, none⟩ v' ∧ Blk w1 bt #[t] 30 from ⟨v3, w4, ho4, hg4, hw3, hb4⟩); clear hc ho4 hg4 hw3 hb4 hs4 hs3)
        | fail)
    go_wp2
    all_goals go_ret
    all_goals exact ⟨_, HB3.out, .inr ⟨by omega, rfl, HC.out⟩⟩

end Go.Proofs.YtimidonagbfjcaaGreatDoor

