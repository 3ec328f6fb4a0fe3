/- Bytes in memory, and how they are shown: plain data. -/
import Derived.Test.YtajnpdiepiinjaaGreatDoorAp
import Derived.ArgAppend
import Derived.Deep.DeepCutAuto
import Derived.Deep.RegionHeld3
import Derived.Deep.RegionLaw
import Derived.Laws.BytesArg
import Derived.Laws.CopyOwn
import Derived.Laws.MakeOwn
import Derived.Laws.OwnMore
import Derived.WalkKit
import Derived.WalkLawsBesides
import Derived.WalkSpells
set_option linter.unusedSimpArgs false
set_option linter.unusedVariables false
namespace Go.Proofs.YtajnpdiepiinjaaGreatDoor
open Go Go.RowKit

/-- Bytes in memory. -/
def By (w : World) (v : Value) (b : List Int) : Prop := Sl w (fun _ => True) v b.length 1 (b.map (Value.int .u8)) ∧ (∀ c ∈ b, 0 ≤ c ∧ c ≤ 255) ∧ b.length ≤ 9223372036854775807

theorem By.bw {w w' : World} {v : Value} {b : List Int} (h : By w v b) (hb : Bw w w') : By w' v b := ⟨h.1.below hb, h.2⟩

theorem By.form {w : World} {v : Value} {b : List Int} (h : By w v b) : ∃ a cap, v = .slice a b.length cap := h.1.form

theorem By.at {w : World} {a : Option Addr} {cap : Nat} {b : List Int} (h : By w (.slice a b.length cap) b) {i : Nat} (hi : i < b.length) :
    ∃ g o, a = some ⟨g, o, none⟩ ∧ g < w.heap.size ∧ w.cell? ⟨g, o + i, none⟩ = some (.int .u8 b[i]) := by
  obtain ⟨g, o, e, hlt, hc⟩ := h.1.at hi
  exact ⟨g, o, e, hlt, by rw [hc]; simp [hi]⟩

theorem By.parts {w : World} {v : Value} {b : List Int} {k : Nat} (h : By w v b) (hk : k < b.length) :
    ∃ g o cap, v = .slice (some ⟨g, o, none⟩) b.length cap ∧ b.length ≤ cap ∧ g < w.heap.size ∧ ∀ i (hi : i < b.length), w.cell? ⟨g, o + i, none⟩ = some (.int .u8 b[i]) := by
  obtain ⟨hl, a, cap, rfl, hn, hc⟩ := h.1
  rcases hc with hc | ⟨g, o, rfl, hg, _, hc⟩
  · omega
  · exact ⟨g, o, cap, rfl, hn.1, hg, fun i hi => by rw [hc i (by omega)]; simp [hi]⟩

theorem under22 : Tryz.prog.underlying 52 = some (.slice 5) := by kernel_rfl
theorem under5 : Tryz.prog.underlying 5 = some (.int .u8) := by kernel_rfl

theorem under9 : Tryz.prog.underlying 9 = some .string := by kernel_rfl

/-- A part of the bytes as a string. -/
theorem By.conv {w : World} {g o cap : Nat} {b : List Int} (h : By w (.slice (some ⟨g, o, none⟩) b.length cap) b) (k m c : Nat) (hk : k + m ≤ b.length) :
    (convert 52 9 (.slice (some ⟨g, o + k, none⟩) m c)).run Tryz.prog w = .ok (.string (strOfNums ((b.drop k).take m))) w := by
  refine run_convert_bytes_arg w 52 5 under22 under5 g (o + k) m c ((b.drop k).take m) (by simp; omega) (fun i hi => ?_) 9 under9
  have hi' : k + i < b.length := by omega
  obtain ⟨g', o', cap', e, _, _, hc⟩ := h.parts hi'
  cases e
  rw [Nat.add_assoc, hc _ hi']
  congr 2
  rw [List.getD_eq_getElem?_getD, List.getElem?_take, if_pos hi, List.getElem?_drop, List.getElem?_eq_getElem hi']
  rfl

/-- Bytes as they are shown in a string. -/
def hexD (n : Int) : Int := if n < 10 then 48 + n else 87 + n
def qOne (c : Int) : List Int :=
  if c = 10 then [92, 110] else if c = 9 then [92, 116] else if c = 34 ∨ c = 92 then [92, c]
  else if c < 32 ∨ c > 126 then [92, 120, hexD (c / 16), hexD (c % 16)] else [c]
def qAll (b : List Int) : List Int := b.flatMap qOne

theorem qOne_len (c : Int) : (qOne c).length ≤ 4 := by
  unfold qOne
  repeat' split
  all_goals simp
theorem qAll_len : ∀ b : List Int, (qAll b).length ≤ 4 * b.length
  | [] => by simp [qAll]
  | c :: t => by
    have := qAll_len t
    have := qOne_len c
    have e : qAll (c :: t) = qOne c ++ qAll t := by simp [qAll]
    rw [e, List.length_append, List.length_cons]; omega

end Go.Proofs.YtajnpdiepiinjaaGreatDoor
