/- The statements' own list of an object's entries: the contract. -/
import Derived.Test.YtjemhdepgeecjaaPL
import Derived.Test.YtjemhdepgeecjaaPV
import Derived.Test.YtjemhdepgeecjaaPN
set_option linter.unusedSimpArgs false
set_option linter.unusedVariables false
namespace Go.Proofs.Ytjemhdepgeecjaa
open Go Go.RowKit

/-- How many entries there are to be asked for. -/
def aLen (H : AHeap) (v : Int) : Nat := if kk H v = 1 then (ob H v).bytes.length else if kk H v = 2 ∨ kk H v = 4 then (ob H v).vals.length else 0

def aList (H : AHeap) (v : Int) : List Int := (List.range (min 400 (aLen H v))).map (fun i => aAtV H v (i : Nat))

theorem atE_in {H : AHeap} {v : Int} {i : Nat} (h : i < aLen H v) : aAtE H v i = 0 := by
  unfold aLen at h
  unfold aAtE
  by_cases k1 : kk H v = 1
  · rw [if_pos k1] at h ⊢
    exact if_pos ⟨by omega, by omega⟩
  · rw [if_neg k1] at h ⊢
    by_cases k2 : kk H v = 2 ∨ kk H v = 4
    · rw [if_pos k2] at h ⊢
      exact if_pos ⟨by omega, by omega⟩
    · rw [if_neg k2] at h; omega

theorem atE_out {H : AHeap} {v : Int} {i : Nat} (h : ¬ i < aLen H v) : (aAtE H v i != 0) = true := by
  rw [bne_iff_ne]
  unfold aLen at h
  unfold aAtE
  by_cases k1 : kk H v = 1
  · rw [if_pos k1] at h ⊢
    rw [if_neg (by omega)]; decide
  · rw [if_neg k1] at h ⊢
    by_cases k2 : kk H v = 2 ∨ kk H v = 4
    · rw [if_pos k2] at h ⊢
      rw [if_neg (by omega)]; decide
    · rw [if_neg k2]; decide

theorem range_snoc (f : Nat → Value) (k : Nat) : (List.range k).map f ++ [f k] = (List.range (k + 1)).map f := by
  rw [List.range_succ, List.map_append]; rfl

theorem aList_len (H : AHeap) (v : Int) : (aList H v).length = min 400 (aLen H v) := by simp [aList]

theorem aList_cells (H : AHeap) (v : Int) : (aList H v).map (Value.int .u64) = (List.range (min 400 (aLen H v))).map (fun i => Value.int .u64 (aAtV H v (i : Nat))) := by
  simp [aList]

/-- Of an array of not too many entries: all of them. -/
theorem aList_vals {H : AHeap} {v : Int} (hk : kk H v = 2 ∨ kk H v = 4) (hl : (ob H v).vals.length ≤ 400) : aList H v = (ob H v).vals := by
  have h1 : kk H v ≠ 1 := by omega
  have hn : aLen H v = (ob H v).vals.length := by unfold aLen; rw [if_neg h1, if_pos hk]
  apply List.ext_getElem
  · rw [aList_len, hn]; omega
  · intro i h2 h3
    simp only [aList, List.getElem_map, List.getElem_range]
    unfold aAtV
    rw [if_neg h1, if_pos hk, if_pos ⟨by omega, by omega⟩]
    simp [h3]

set_option maxHeartbeats 4000000 in
theorem list_any {b0 : Nat} {H : AHeap} {bs : List Nat} (v : Int) (hU : U v) (w : World) (hp : HS w b0 H bs) :
    Calls Try.prog 36 #[.pointer (some ⟨b0, 0, none⟩), .int .u64 v] w fun e w' => ∃ r, e = .returned r ∧ w'.ownsRow w.heap.size 38 1 r (aList H v).length ((aList H v).map (Value.int .u64)) ∧ Bw w w' := by
  have HP := hid hp
  obtain ⟨i2, hi2, hz2, hs2, hy2⟩ := info_parts infoV
  have I2 := hid (And.intro hi2 (And.intro hz2 (And.intro hs2 hy2)))
  clear hp hi2 hz2 hs2 hy2
  go_enter Try.func36, Try.ntmps36
  go_wp2
  go_loopw [5, 6] (fun o j wr => ∃ (k : Nat), k ≤ 400 ∧ k ≤ aLen H v ∧ j = .int .i64 k ∧ wr.ownsRow w.heap.size 38 1 o k ((List.range k).map (fun i => Value.int .u64 (aAtV H v (i : Nat)))) ∧ Bw w wr) (fun o j _ => 400 - (intOf j).toNat)
  case atStart => exact ⟨0, by omega, by omega, rfl, World.ownsRow_nil w _ _ _, Bw.refl w⟩
  case round =>
    obtain ⟨k, hk4, hkl, rfl, hown, hbw⟩ := hrel
    obtain ⟨ao, co, e⟩ := own_form hown
    subst e
    have HO := hid hown
    have HB := hid hbw
    have HKL := hid hkl
    have hsz := hbw.size
    clear hown hbw hkl
    by_cases h4 : k < 400
    · have h4' : (k : Int) < 400 := by omega
      by_cases hl : k < aLen H v
      · have hE := atE_in hl
        have HL := hid hl
        clear hl
        go_wp2_with (first
          | (go_at_call 18; refine (at_any _ _ hU _ (HP.out.bw HB.out)).mono ?_; rw [hE]; rintro e w' ⟨rfl, os, m, rfl⟩)
          | (go_at_call 13; refine (num_any _ _).mono ?_; rintro e w' ⟨rfl, rfl⟩)
          | (at_builtin; refine wpList_append_own _ rfl _ _ 40 rfl w.heap.size 38 i2 (.int .u64 0) 1 8 Try.underlying40 I2.out.1 I2.out.2.1 I2.out.2.2.1 I2.out.2.2.2 rfl (by decide) (.slice ao k co) k ((List.range k).map (fun i => Value.int .u64 (aAtV H v (i : Nat)))) rfl ((own_lay HO.out os m).alloc _) ⟨wr.heap.size + os.length, 0, none⟩ 1 1 [.int .u64 (aAtV H v (k : Nat))] rfl rfl ?c1 ?c2 ?c3 ?c4 ?c5 ?_)
          | go_in)
        case c1 =>
          intro j u hj
          match j, hj with
          | 0, hj => simp at hj; subst hj; simp [Addr.add, go_sem]
        case c2 => intro u hu; simp at hu; subst hu; rfl
        case c3 => unfold maxLen; omega
        case c4 => omega
        case c5 => simp only [World.size_alloc, lay_size]; omega
        intro v' w1 hown hgr _
        obtain ⟨av', cv', e⟩ := own_form hown
        subst e
        have HW1 := hid (bw_grown (Bw.alloc (Bw.lay HB.out os m) _) (Nat.le_refl _) ((own_lay HO.out os m).alloc _) hgr)
        rw [range_snoc (fun i => Value.int .u64 (aAtV H v (i : Nat)))] at hown
        have HO1 := hid hown
        clear hgr hown
        go_wp2
        go_roundw
        case rel => exact ⟨k + 1, by omega, HL.out, by go_num, HO1.out, HW1.out⟩
        case measure => simp [intOf]; omega
      · have hE := atE_out hl
        have hln : min 400 (aLen H v) = k := by have := HKL.out; omega
        have HLN := hid hln
        clear hl hln
        go_wp2_with (first
          | (go_at_call 18; refine (at_any _ _ hU _ (HP.out.bw HB.out)).mono ?_; rintro e w' ⟨rfl, os, m, rfl⟩)
          | (go_at_call 13; refine (num_any _ _).mono ?_; rintro e w' ⟨rfl, rfl⟩))
        all_goals go_ret
        all_goals
          refine ⟨_, rfl, ?_, Bw.lay HB.out os m⟩
          rw [aList_len, aList_cells, HLN.out]
          exact own_lay HO.out os m
    · have hln : min 400 (aLen H v) = k := by have := HKL.out; omega
      have HLN := hid hln
      have h4' : ¬ (k : Int) < 400 := by omega
      clear hln
      go_wp2
      all_goals go_ret
      all_goals
        refine ⟨_, rfl, ?_, HB.out⟩
        rw [aList_len, aList_cells, HLN.out]
        exact HO.out

end Go.Proofs.Ytjemhdepgeecjaa
