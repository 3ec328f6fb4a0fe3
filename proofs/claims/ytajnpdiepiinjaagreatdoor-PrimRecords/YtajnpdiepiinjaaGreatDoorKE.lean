/- prim: strings compared; what is the same; lengths: contracts. -/
import Derived.Test.YtajnpdiepiinjaaGreatDoorKC
import Derived.Test.YtajnpdiepiinjaaGreatDoorTD
import Derived.Lib.BytesEntry
import Derived.Laws.Externs
set_option linter.unusedSimpArgs false
set_option linter.unusedVariables false
namespace Go.Proofs.YtajnpdiepiinjaaGreatDoor
open Go Go.RowKit

theorem less_cmp : ∀ (a b : List UInt8), Op.bytesLess a b = decide (Lib.compareBytes a b < 0)
  | [], [] => rfl
  | [], _ :: _ => rfl
  | _ :: _, [] => rfl
  | x :: a, y :: b => by
    have ih := less_cmp a b
    unfold Op.bytesLess Lib.compareBytes
    by_cases h : x < y
    · simp [h]
    · by_cases h2 : y < x
      · have hne : x ≠ y := fun e => by subst e; exact absurd h2 h
        simp [h, h2, hne]
      · have he : x = y := UInt8.le_antisymm (UInt8.not_lt.1 h2) (UInt8.not_lt.1 h)
        subst he
        simp [h, ih]

theorem cmp_self : ∀ (a : List UInt8), Lib.compareBytes a a = 0
  | [] => rfl
  | x :: a => by
    have hlt : ¬ x < x := UInt8.lt_irrefl x
    unfold Lib.compareBytes
    simp [hlt, cmp_self a]

section
variable {w w' : World}

theorem bytesOf_run {a : Option Addr} {cap : Nat} {b : List Int} (h : By w (.slice a b.length cap) b) : (Extern.Bytes.bytesOf (.slice a b.length cap)).run Tryz.prog w = .ok (strOfNums b) w := by
  cases a with
  | none =>
    have h0 : b.length = 0 := by
      obtain ⟨_, a', cap', e, hn, _⟩ := h.1
      cases e
      have := hn.2 rfl
      have := hn.1
      omega
    have : b = [] := List.eq_nil_of_length_eq_zero h0
    subst this
    rfl
  | some ad =>
    have hl := Lib.run_loadBytesX (P := Tryz.prog) w b ad .empty (fun j x hj => by
      have hjl : j < b.length := (List.getElem?_eq_some_iff.1 hj).1
      obtain ⟨bb, off, e, _, hc⟩ := h.1.at hjl
      cases e
      have e : (⟨bb, off, none⟩ : Addr).add j = ⟨bb, off + j, none⟩ := by unfold Addr.add; split <;> simp_all
      rw [e, hc]
      simp [hj])
    show (Extern.Bytes.loadBytes ad b.length .empty).run Tryz.prog w = _
    rw [hl]
    congr 1
    apply ByteArray.ext
    simp [strOfNums, Lib.bytesOf]

def cmpB (x y : List Int) : Int := Lib.compareBytes (strOfNums x).data.toList (strOfNums y).data.toList

set_option maxRecDepth 100000 in
set_option maxHeartbeats 1000000 in
theorem bCmp_any {a1 a2 : Option Addr} {c1 c2 : Nat} (x y : List Int) (hx : By w (.slice a1 x.length c1) x) (hy : By w (.slice a2 y.length c2) y) :
    Calls Tryz.prog 118 #[.slice a1 x.length c1, .slice a2 y.length c2] w fun e w' => e = .returned (.int .i64 (cmpB x y)) ∧ w' = w := by
  have hr : (callFunc 150 #[.slice a1 x.length c1, .slice a2 y.length c2]).run Tryz.prog w = .ok (.value (.int .i64 (cmpB x y))) w := by
    rw [run_callFunc_extern Tryz.func150 (by kernel_rfl) (by kernel_rfl) (by kernel_rfl) (e := Extern.BytealgCompare.compare) (by kernel_rfl)]
    have : (Extern.BytealgCompare.compare #[.slice a1 x.length c1, .slice a2 y.length c2]).run Tryz.prog w = .ok (.int .i64 (cmpB x y)) w := by
      change Sem.run Tryz.prog (do pure (goInt (Extern.BytealgCompare.cmp (← Extern.Bytes.bytesOf (.slice a1 x.length c1)) (← Extern.Bytes.bytesOf (.slice a2 y.length c2))))) w = _
      simp only [Sem.run_bind, Sem.run_pure, bytesOf_run hx, bytesOf_run hy, Result.andThen]
      rw [Lib.cmp_eq]
      rfl
    rw [this]
    rfl
  generalize cmpB x y = q at hr ⊢
  clear hx hy
  go_enter Tryz.func118, Tryz.ntmps118
  go_wp2
  all_goals go_ret
  all_goals exact ⟨rfl, rfl⟩

end

end Go.Proofs.YtajnpdiepiinjaaGreatDoor
