/- What an object is made of, asked of the program and of the document: the contract of the statements' own 'whole'. -/
import Derived.Test.YtolfgkpmcfneiaaPZ
import Derived.Test.YtolfgkpmcfneiaaR3Q
import Derived.Test.YtolfgkpmcfneiaaR3M
import Derived.Laws.BytesString
set_option linter.unusedSimpArgs false
set_option linter.unusedVariables false
namespace Go.Proofs.Ytolfgkpmcfneiaa
open Go Go.RowKit

theorem conv_sl {w : World} {G : Nat → Prop} {v : Value} {l : List Int} (h : Sl w G v l.length 1 (l.map (Value.int .u8))) : (convert 39 9 v).run Try.prog w = .ok (.string (strOfNums l)) w := by
  obtain ⟨hl, a, cap, rfl, hn, hc⟩ := h
  have hu : Try.prog.underlying 5 = some (.int .u8) := by kernel_rfl
  have hst : Try.prog.underlying 9 = some .string := by kernel_rfl
  rcases hc with h0 | ⟨b, o, rfl, hlt, hg, hc⟩
  · have hnil : l = [] := List.eq_nil_of_length_eq_zero h0
    subst hnil
    cases a with
    | none => exact run_convert_bytes_nil w 39 5 Try.underlying39 hu 0 cap 9 hst
    | some ad =>
      rw [List.length_nil, run_convert_bytes_string w 39 9 5 (some ad) 0 cap Try.underlying39 hu hst]
      exact run_bytesToString w ad 0 cap [] (run_loadCells_list (P := Try.prog) w ad [] (fun j v hj => by simp at hj))
  · refine run_convert_bytes_arg w 39 5 Try.underlying39 hu b o l.length cap l rfl (fun i hi => ?_) 9 hst
    rw [hc i (by omega)]
    simp [List.getD, hi]

theorem conv_nil (w : World) : (convert 39 9 (.slice none 0 0)).run Try.prog w = .ok (.string (strOfNums [])) w :=
  conv_sl (G := fun _ => True) (l := []) (Sl.nil w _ 1)

/-- What holds of every object that was made, besides. -/
def Neat (o : AObj) : Prop := (o.kind ≠ 3 → o.keys = []) ∧ (o.kind ≠ 6 → o.re = 0 ∧ o.im = 0) ∧ 1 ≤ o.kind ∧ o.kind ≤ 9

def NeatH (H : AHeap) : Prop := ∀ o ∈ H.2, Neat o

end Go.Proofs.Ytolfgkpmcfneiaa
