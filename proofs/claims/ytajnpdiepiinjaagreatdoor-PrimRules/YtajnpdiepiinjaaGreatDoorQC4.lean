/- The document's Quote: the contract. -/
import Derived.Test.YtajnpdiepiinjaaGreatDoorQB4
set_option linter.unusedSimpArgs false
set_option linter.unusedVariables false
namespace Go.Proofs.YtajnpdiepiinjaaGreatDoor
open Go Go.RowKit



theorem qAll_take_succ {b : List Int} {k : Nat} (h : k < b.length) : qAll (b.take (k + 1)) = qAll (b.take k) ++ qOne b[k] := by
  unfold qAll
  rw [List.take_succ_eq_append_getElem h, List.flatMap_append]
  simp

/-- Bytes as a string's text. -/
def qStr (b : List Int) : List Int := 34 :: (qAll b ++ [34])

theorem own_new (w : World) (l : List Int) (hl : l.length ≤ maxLen) : (w.alloc (.cells (l.map (Value.int .u8)).toArray 5)).ownsRow w.heap.size 5 1 (.slice (some ⟨w.heap.size, 0, none⟩) l.length l.length) l.length (l.map (Value.int .u8)) := by
  refine ⟨by simp, .inr ⟨w.heap.size, l.length, _, rfl, Nat.le_refl _, heap_alloc_new w _, Nat.le_refl _, hl, by simp, ?_⟩⟩
  rw [List.take_of_length_le (by simp)]

theorem qAll_take_len (b : List Int) (k : Nat) : (qAll (b.take k)).length ≤ 4 * b.length := by
  have := qAll_len (b.take k)
  have := List.length_take_le k b
  have := List.length_take_le' k b
  omega



theorem By.conv0 {w : World} {a : Option Addr} {cap : Nat} {b : List Int} (h : By w (.slice a b.length cap) b) :
    (convert 52 9 (.slice a b.length cap)).run Tryz.prog w = .ok (.string (strOfNums b)) w := by
  by_cases h0 : 0 < b.length
  · obtain ⟨g, o, cap', e, _, _, _⟩ := h.parts h0
    cases e
    have := h.conv 0 b.length cap (by omega)
    simpa using this
  · have hb : b = [] := List.eq_nil_of_length_eq_zero (by omega)
    subst hb
    cases a with
    | none => exact run_convert_bytes_nil w 52 5 under22 under5 _ _ 9 under9
    | some ad =>
      rw [run_convert_bytes_string w 52 9 5 _ _ _ under22 under5 under9]
      have hl := run_loadCells_list (P := Tryz.prog) w ad [] (fun j v hj => by simp at hj)
      exact run_bytesToString w ad 0 cap [] hl

theorem hexD_byte {n : Int} (h0 : 0 ≤ n) (h1 : n < 16) : 0 ≤ hexD n ∧ hexD n ≤ 255 := by
  unfold hexD; split <;> omega

theorem qStr_byte {b : List Int} (h : ∀ c ∈ b, 0 ≤ c ∧ c ≤ 255) : ∀ c ∈ qStr b, 0 ≤ c ∧ c ≤ 255 := by
  intro c hc
  simp only [qStr, List.mem_cons, List.mem_append, List.not_mem_nil, or_false, qAll, List.mem_flatMap] at hc
  rcases hc with rfl | ⟨d, hd, hc⟩ | rfl
  · decide
  · have hb := h d hd
    unfold qOne at hc
    split at hc
    · simp at hc; omega
    · split at hc
      · simp at hc; omega
      · split at hc
        · simp at hc; omega
        · split at hc
          · have h1 := hexD_byte (n := d / 16) (by omega) (by omega)
            have h2 := hexD_byte (n := d % 16) (by omega) (by omega)
            simp at hc; omega
          · simp at hc; omega
  · decide

end Go.Proofs.YtajnpdiepiinjaaGreatDoor
