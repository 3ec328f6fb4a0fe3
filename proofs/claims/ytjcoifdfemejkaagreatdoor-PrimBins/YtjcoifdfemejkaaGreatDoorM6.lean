/- Bytes in memory, and how they are shown: plain data. · The document's Quote: the contract. -/
import Derived.Test.YtjcoifdfemejkaaGreatDoorM1
import Derived.ArgAppend
import Derived.Deep.DeepCutAuto
import Derived.Deep.RegionHeld3
import Derived.Deep.RegionLaw
import Derived.Laws.BytesArg
import Derived.Laws.CopyOwn
import Derived.Laws.MakeOwn
import Derived.Laws.OwnMore
import Derived.WalkKit
import Derived.WalkLawsBesides
import Derived.WalkSpells
set_option linter.unusedSimpArgs false
set_option linter.unusedVariables false
namespace Go.Proofs.YtjcoifdfemejkaaGreatDoor
open Go Go.RowKit

/-- Bytes in memory. -/
def By (w : World) (v : Value) (b : List Int) : Prop := Sl w (fun _ => True) v b.length 1 (b.map (Value.int .u8)) ∧ (∀ c ∈ b, 0 ≤ c ∧ c ≤ 255) ∧ b.length ≤ 9223372036854775807

theorem By.bw {w w' : World} {v : Value} {b : List Int} (h : By w v b) (hb : Bw w w') : By w' v b := ⟨h.1.below hb, h.2⟩

theorem By.form {w : World} {v : Value} {b : List Int} (h : By w v b) : ∃ a cap, v = .slice a b.length cap := h.1.form

theorem By.at {w : World} {a : Option Addr} {cap : Nat} {b : List Int} (h : By w (.slice a b.length cap) b) {i : Nat} (hi : i < b.length) :
    ∃ g o, a = some ⟨g, o, none⟩ ∧ g < w.heap.size ∧ w.cell? ⟨g, o + i, none⟩ = some (.int .u8 b[i]) := by
  obtain ⟨g, o, e, hlt, hc⟩ := h.1.at hi
  exact ⟨g, o, e, hlt, by rw [hc]; simp [hi]⟩

theorem By.parts {w : World} {v : Value} {b : List Int} {k : Nat} (h : By w v b) (hk : k < b.length) :
    ∃ g o cap, v = .slice (some ⟨g, o, none⟩) b.length cap ∧ b.length ≤ cap ∧ g < w.heap.size ∧ ∀ i (hi : i < b.length), w.cell? ⟨g, o + i, none⟩ = some (.int .u8 b[i]) := by
  obtain ⟨hl, a, cap, rfl, hn, hc⟩ := h.1
  rcases hc with hc | ⟨g, o, rfl, hg, _, hc⟩
  · omega
  · exact ⟨g, o, cap, rfl, hn.1, hg, fun i hi => by rw [hc i (by omega)]; simp [hi]⟩

theorem under22 : Tryz.prog.underlying 46 = some (.slice 5) := by kernel_rfl
theorem under5 : Tryz.prog.underlying 5 = some (.int .u8) := by kernel_rfl

theorem under9 : Tryz.prog.underlying 9 = some .string := by kernel_rfl

/-- A part of the bytes as a string. -/
theorem By.conv {w : World} {g o cap : Nat} {b : List Int} (h : By w (.slice (some ⟨g, o, none⟩) b.length cap) b) (k m c : Nat) (hk : k + m ≤ b.length) :
    (convert 46 9 (.slice (some ⟨g, o + k, none⟩) m c)).run Tryz.prog w = .ok (.string (strOfNums ((b.drop k).take m))) w := by
  refine run_convert_bytes_arg w 46 5 under22 under5 g (o + k) m c ((b.drop k).take m) (by simp; omega) (fun i hi => ?_) 9 under9
  have hi' : k + i < b.length := by omega
  obtain ⟨g', o', cap', e, _, _, hc⟩ := h.parts hi'
  cases e
  rw [Nat.add_assoc, hc _ hi']
  congr 2
  rw [List.getD_eq_getElem?_getD, List.getElem?_take, if_pos hi, List.getElem?_drop, List.getElem?_eq_getElem hi']
  rfl

/-- Bytes as they are shown in a string. -/
def hexD (n : Int) : Int := if n < 10 then 48 + n else 87 + n
def qOne (c : Int) : List Int :=
  if c = 10 then [92, 110] else if c = 9 then [92, 116] else if c = 34 ∨ c = 92 then [92, c]
  else if c < 32 ∨ c > 126 then [92, 120, hexD (c / 16), hexD (c % 16)] else [c]
def qAll (b : List Int) : List Int := b.flatMap qOne

theorem qOne_len (c : Int) : (qOne c).length ≤ 4 := by
  unfold qOne
  repeat' split
  all_goals simp
theorem qAll_len : ∀ b : List Int, (qAll b).length ≤ 4 * b.length
  | [] => by simp [qAll]
  | c :: t => by
    have := qAll_len t
    have := qOne_len c
    have e : qAll (c :: t) = qOne c ++ qAll t := by simp [qAll]
    rw [e, List.length_append, List.length_cons]; omega

end Go.Proofs.YtjcoifdfemejkaaGreatDoor

set_option linter.unusedSimpArgs false
set_option linter.unusedVariables false
namespace Go.Proofs.YtjcoifdfemejkaaGreatDoor
open Go Go.RowKit



theorem qAll_take_succ {b : List Int} {k : Nat} (h : k < b.length) : qAll (b.take (k + 1)) = qAll (b.take k) ++ qOne b[k] := by
  unfold qAll
  rw [List.take_succ_eq_append_getElem h, List.flatMap_append]
  simp

/-- Bytes as a string's text. -/
def qStr (b : List Int) : List Int := 34 :: (qAll b ++ [34])

theorem own_new (w : World) (l : List Int) (hl : l.length ≤ maxLen) : (w.alloc (.cells (l.map (Value.int .u8)).toArray 5)).ownsRow w.heap.size 5 1 (.slice (some ⟨w.heap.size, 0, none⟩) l.length l.length) l.length (l.map (Value.int .u8)) := by
  refine ⟨by simp, .inr ⟨w.heap.size, l.length, _, rfl, Nat.le_refl _, heap_alloc_new w _, Nat.le_refl _, hl, by simp, ?_⟩⟩
  rw [List.take_of_length_le (by simp)]

theorem qAll_take_len (b : List Int) (k : Nat) : (qAll (b.take k)).length ≤ 4 * b.length := by
  have := qAll_len (b.take k)
  have := List.length_take_le k b
  have := List.length_take_le' k b
  omega



theorem By.conv0 {w : World} {a : Option Addr} {cap : Nat} {b : List Int} (h : By w (.slice a b.length cap) b) :
    (convert 46 9 (.slice a b.length cap)).run Tryz.prog w = .ok (.string (strOfNums b)) w := by
  by_cases h0 : 0 < b.length
  · obtain ⟨g, o, cap', e, _, _, _⟩ := h.parts h0
    cases e
    have := h.conv 0 b.length cap (by omega)
    simpa using this
  · have hb : b = [] := List.eq_nil_of_length_eq_zero (by omega)
    subst hb
    cases a with
    | none => exact run_convert_bytes_nil w 46 5 under22 under5 _ _ 9 under9
    | some ad =>
      rw [run_convert_bytes_string w 46 9 5 _ _ _ under22 under5 under9]
      have hl := run_loadCells_list (P := Tryz.prog) w ad [] (fun j v hj => by simp at hj)
      exact run_bytesToString w ad 0 cap [] hl

theorem hexD_byte {n : Int} (h0 : 0 ≤ n) (h1 : n < 16) : 0 ≤ hexD n ∧ hexD n ≤ 255 := by
  unfold hexD; split <;> omega

theorem qStr_byte {b : List Int} (h : ∀ c ∈ b, 0 ≤ c ∧ c ≤ 255) : ∀ c ∈ qStr b, 0 ≤ c ∧ c ≤ 255 := by
  intro c hc
  simp only [qStr, List.mem_cons, List.mem_append, List.not_mem_nil, or_false, qAll, List.mem_flatMap] at hc
  rcases hc with rfl | ⟨d, hd, hc⟩ | rfl
  · decide
  · have hb := h d hd
    unfold qOne at hc
    split at hc
    · simp at hc; omega
    · split at hc
      · simp at hc; omega
      · split at hc
        · simp at hc; omega
        · split at hc
          · have h1 := hexD_byte (n := d / 16) (by omega) (by omega)
            have h2 := hexD_byte (n := d % 16) (by omega) (by omega)
            simp at hc; omega
          · simp at hc; omega
  · decide

end Go.Proofs.YtjcoifdfemejkaaGreatDoor

