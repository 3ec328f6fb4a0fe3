/- What an object is made of, asked of the program and of the document: the contract of the statements' own 'whole'. -/
import Derived.Test.YtolfgkpmcfneiaaPZ
import Derived.Test.YtolfgkpmcfneiaaR3Q
import Derived.Test.YtolfgkpmcfneiaaR3M
import Derived.Laws.BytesString
set_option linter.unusedSimpArgs false
set_option linter.unusedVariables false
namespace Go.Proofs.Ytolfgkpmcfneiaa
open Go Go.RowKit

theorem conv_sl {w : World} {G : Nat → Prop} {v : Value} {l : List Int} (h : Sl w G v l.length 1 (l.map (Value.int .u8))) : (convert 39 9 v).run Try.prog w = .ok (.string (strOfNums l)) w := by
  obtain ⟨hl, a, cap, rfl, hn, hc⟩ := h
  have hu : Try.prog.underlying 5 = some (.int .u8) := by kernel_rfl
  have hst : Try.prog.underlying 9 = some .string := by kernel_rfl
  rcases hc with h0 | ⟨b, o, rfl, hlt, hg, hc⟩
  · have hnil : l = [] := List.eq_nil_of_length_eq_zero h0
    subst hnil
    cases a with
    | none => exact run_convert_bytes_nil w 39 5 Try.underlying39 hu 0 cap 9 hst
    | some ad =>
      rw [List.length_nil, run_convert_bytes_string w 39 9 5 (some ad) 0 cap Try.underlying39 hu hst]
      exact run_bytesToString w ad 0 cap [] (run_loadCells_list (P := Try.prog) w ad [] (fun j v hj => by simp at hj))
  · refine run_convert_bytes_arg w 39 5 Try.underlying39 hu b o l.length cap l rfl (fun i hi => ?_) 9 hst
    rw [hc i (by omega)]
    simp [List.getD, hi]

theorem conv_nil (w : World) : (convert 39 9 (.slice none 0 0)).run Try.prog w = .ok (.string (strOfNums [])) w :=
  conv_sl (G := fun _ => True) (l := []) (Sl.nil w _ 1)

/-- What holds of every object that was made, besides. -/
def Neat (o : AObj) : Prop := (o.kind ≠ 3 → o.keys = []) ∧ (o.kind ≠ 6 → o.re = 0 ∧ o.im = 0) ∧ 1 ≤ o.kind ∧ o.kind ≤ 9

def NeatH (H : AHeap) : Prop := ∀ o ∈ H.2, Neat o


theorem dMake_eq (H : AHeap) (a : AAct) : dMakeE H (mkO a) = kMakeE H a := by
  unfold dMakeE kMakeE
  by_cases hb : kBad a
  · rw [if_pos hb]
    have ho : mkO a = oItem 10 a.I := by
      unfold mkO
      have h1 := hb.1
      have h2 := hb.2
      rw [if_neg (by omega), if_neg (by omega), if_neg (by omega), if_neg (by omega), if_neg (by omega), if_neg (by omega), h2]
      rfl
    rw [ho]
    have hl : aLong (oItem 10 a.I) = false := by
      unfold aLong oItem AObj.bytes AObj.kind AObj.vals AObj.keys
      simp
    have hr : aRight H.2.length (oItem 10 a.I) = false := by
      unfold aRight oItem AObj.kind
      simp
    rw [hl, hr, if_neg (by simp), if_pos rfl]
  · rw [if_neg hb]
    unfold aMakeE
    have hl : aLong (mkO a) = pLong (mkO a) := by
      unfold mkO
      split
      · simp [aLong, pLong, oStr, AObj.kind, AObj.bytes, AObj.vals, AObj.keys]
      split
      · simp [aLong, pLong, oArr, AObj.kind, AObj.bytes, AObj.vals, AObj.keys]
      split
      · simp [aLong, pLong, oRec, AObj.kind, AObj.bytes, AObj.vals, AObj.keys]
      split
      · simp [aLong, pLong, oCell, AObj.kind, AObj.bytes, AObj.vals, AObj.keys]
      split
      · simp [aLong, pLong, oFun, AObj.kind, AObj.bytes, AObj.vals, AObj.keys]
      split
      · simp [aLong, pLong, oCplx, AObj.kind, AObj.bytes, AObj.vals, AObj.keys]
      · have h3 : a.Re % 4 ≠ 3 := fun e => hb ⟨by omega, e⟩
        have hk : 7 + a.Re % 4 = 7 ∨ 7 + a.Re % 4 = 8 ∨ 7 + a.Re % 4 = 9 := by omega
        rcases hk with e | e | e <;> rw [e] <;> simp [aLong, pLong, oItem, AObj.kind, AObj.bytes, AObj.vals, AObj.keys]
    have hr : aRight H.2.length (mkO a) = pSound H.2.length (mkO a) := by
      unfold mkO
      split
      · simp [aRight, pSound, oStr, AObj.kind, AObj.bytes, AObj.vals, AObj.keys, AObj.num]
      split
      · simp [aRight, pSound, oArr, AObj.kind, AObj.bytes, AObj.vals, AObj.keys, AObj.num]
      split
      · simp only [aRight, pSound, oRec, AObj.kind, AObj.bytes, AObj.vals, AObj.keys, AObj.num]
        by_cases hl : a.K.length = a.L.length
        · simp [hl, Bool.and_comm]
        · have : (a.K.length : Int) ≠ (a.L.length : Int) := by omega
          simp [hl, this]
      split
      · simp [aRight, pSound, oCell, AObj.kind, AObj.bytes, AObj.vals, AObj.keys, AObj.num]
      split
      · simp [aRight, pSound, oFun, AObj.kind, AObj.bytes, AObj.vals, AObj.keys, AObj.num]
      split
      · simp [aRight, pSound, oCplx, AObj.kind, AObj.bytes, AObj.vals, AObj.keys, AObj.num]
      · have h3 : a.Re % 4 ≠ 3 := fun e => hb ⟨by omega, e⟩
        have hk : 7 + a.Re % 4 = 7 ∨ 7 + a.Re % 4 = 8 ∨ 7 + a.Re % 4 = 9 := by omega
        rcases hk with e | e | e <;> rw [e] <;> simp [aRight, pSound, oItem, AObj.kind, AObj.bytes, AObj.vals, AObj.keys, AObj.num]
    rw [hl, hr]

theorem kBad_E {H : AHeap} {a : AAct} (h : kBad a) : kMakeE H a = 1 := by unfold kMakeE; rw [if_pos h]

theorem dMakeV_eq (H : AHeap) (a : AAct) : dMakeV H (mkO a) = kMakeV H a := by
  unfold dMakeV kMakeV aMakeV
  rw [dMake_eq]
  by_cases hb : kBad a
  · rw [if_pos hb, kBad_E hb, if_neg (by decide)]
  · rw [if_neg hb]
    unfold kMakeE
    rw [if_neg hb]

theorem dMakeH_eq (H : AHeap) (a : AAct) : dMakeH H (mkO a) = kMakeH H a := by
  unfold dMakeH kMakeH aMakeH
  rw [dMake_eq]
  by_cases hb : kBad a
  · rw [if_pos hb, kBad_E hb, if_neg (by decide)]
  · rw [if_neg hb]
    unfold kMakeE
    rw [if_neg hb]

theorem mkO_neat {a : AAct} (h : ¬ kBad a) : Neat (mkO a) := by
  unfold mkO
  split
  · exact ⟨fun _ => rfl, fun _ => ⟨rfl, rfl⟩, (by show (1 : Int) ≤ 1; decide), (by show (1 : Int) ≤ 9; decide)⟩
  split
  · exact ⟨fun _ => rfl, fun _ => ⟨rfl, rfl⟩, (by show (1 : Int) ≤ 2; decide), (by show (2 : Int) ≤ 9; decide)⟩
  split
  · exact ⟨fun h => absurd rfl h, fun _ => ⟨rfl, rfl⟩, (by show (1 : Int) ≤ 3; decide), (by show (3 : Int) ≤ 9; decide)⟩
  split
  · exact ⟨fun _ => rfl, fun _ => ⟨rfl, rfl⟩, (by show (1 : Int) ≤ 4; decide), (by show (4 : Int) ≤ 9; decide)⟩
  split
  · exact ⟨fun _ => rfl, fun _ => ⟨rfl, rfl⟩, (by show (1 : Int) ≤ 5; decide), (by show (5 : Int) ≤ 9; decide)⟩
  split
  · exact ⟨fun _ => rfl, fun h => absurd rfl h, (by show (1 : Int) ≤ 6; decide), (by show (6 : Int) ≤ 9; decide)⟩
  · have h3 : a.Re % 4 ≠ 3 := fun e => h ⟨by omega, e⟩
    exact ⟨fun _ => rfl, fun _ => ⟨rfl, rfl⟩, show 1 ≤ 7 + a.Re % 4 by omega, show 7 + a.Re % 4 ≤ 9 by omega⟩

theorem NeatH.make {H : AHeap} (h : NeatH H) (a : AAct) : NeatH (kMakeH H a) := by
  unfold kMakeH
  split
  · exact h
  · rename_i hb
    unfold aMakeH
    split
    · intro o ho
      rw [List.mem_append, List.mem_singleton] at ho
      rcases ho with ho | rfl
      · exact h o ho
      · exact mkO_neat hb
    · exact h

theorem NeatH.upd {H : AHeap} (h : NeatH H) {k : Nat} {o : AObj} (ho : Neat o) : NeatH (H.1, H.2.set k o) := by
  intro u hu
  rcases List.mem_or_eq_of_mem_set hu with hu | rfl
  · exact h u hu
  · exact ho

theorem NeatH.ob {H : AHeap} (h : NeatH H) {v : Int} (hU : U v) (hk : kk H v ≠ 0) : Neat (Proofs.Ytolfgkpmcfneiaa.ob H v) := h _ (List.mem_of_getElem? (ob_get hU (kk_ref hk).2.1).1)

theorem Neat.vals {o : AObj} (h : Neat o) (l : List Int) : Neat (withVals o l) := h

theorem NeatH.set {H : AHeap} (h : NeatH H) {v i x : Int} (hU : U v) : NeatH (aSetH H v i x) := by
  unfold aSetH
  split
  · rename_i hc
    exact h.upd ((h.ob hU (by omega)).vals _)
  · exact h

theorem NeatH.push {H : AHeap} (h : NeatH H) {v x : Int} (hU : U v) : NeatH (aPushH H v x) := by
  unfold aPushH
  split
  · rename_i hc
    exact h.upd ((h.ob hU (by omega)).vals _)
  · exact h

theorem NeatH.pop {H : AHeap} (h : NeatH H) {v : Int} (hU : U v) : NeatH (aPopH H v) := by
  unfold aPopH
  split
  · rename_i hc
    exact h.upd ((h.ob hU (by omega)).vals _)
  · exact h

theorem NeatH.put {H : AHeap} (h : NeatH H) {v x : Int} {s : ByteArray} (hU : U v) : NeatH (aPutH H v s x) := by
  unfold aPutH
  split
  · rename_i hc
    have hn := h.ob hU (v := v) (by omega)
    have hk := (kk_ref (H := H) (v := v) (by omega)).2.2
    split
    · exact h.upd (hn.vals _)
    · split
      · exact h
      · refine h.upd ⟨fun hne => absurd (show (Proofs.Ytolfgkpmcfneiaa.ob H v).kind = 3 by omega) hne, hn.2.1, hn.2.2⟩
  · exact h

theorem RdH.nx {w w' : World} {bs bs' : List Nat} {rv : Value} {H : AHeap} (h : RdH w (fun b => b ∉ bs) rv H) (hn : Nx bs w w' bs') (q : Nat) (hq : w.heap.size ≤ q) : RdH w' (fun b => b ∉ bs' ∧ b ≠ q) rv H :=
  h.keep hn.1.size (fun b hb hg => hn.1.block b hb hg) (fun b hb hg => ⟨fun hm => (hn.2 b hm).elim hg (fun hh => by omega), by omega⟩)

end Go.Proofs.Ytolfgkpmcfneiaa
