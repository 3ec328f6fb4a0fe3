/- strconv.Itoa of 1. · What words without parts look like: atoms, strings, the number one. -/
import Derived.Test.YtimidonagbfjcaaGreatDoorK5
import Derived.Test.YtimidonagbfjcaaGreatDoorK6
set_option linter.unusedSimpArgs false
set_option linter.unusedVariables false
namespace Go.Proofs.YtimidonagbfjcaaGreatDoor
open Go Go.RowKit

set_option maxHeartbeats 4000000 in
theorem itoa_one (w : World) :
    Calls Tryz.prog 61 #[.int .i64 1] w fun e w' => e = .returned (.string ⟨#[49]⟩) ∧ w' = w := by
  go_enter Tryz.func61, Tryz.ntmps61
  go_wp2
  all_goals go_ret
  all_goals exact ⟨rfl, rfl⟩

end Go.Proofs.YtimidonagbfjcaaGreatDoor

set_option linter.unusedSimpArgs false
set_option linter.unusedVariables false
namespace Go.Proofs.YtimidonagbfjcaaGreatDoor
open Go Go.RowKit

set_option maxHeartbeats 4000000 in
theorem plain_str {b0 : Nat} {H : AHeap} {bs : List Nat} (v : Int) (hU : U v) (w : World) (hp : HS w b0 H bs) (hk : kk H v = 1) (hb : ∀ c ∈ (ob H v).bytes, 0 ≤ c ∧ c ≤ 255) (hl : (ob H v).bytes.length ≤ 1000000) :
    Calls Tryz.prog 47 #[.pointer (some ⟨b0, 0, none⟩), .int .u64 v] w fun e w' => e = .returned (.string (strOfNums (qStr (ob H v).bytes))) ∧ Bw w w' := by
  have hkd : kd v = 2 := (kk_ref (H := H) (v := v) (by omega)).1
  have HP := hid hp
  have HU := hid hU
  have HBB := hid hb
  have HL := hid hl
  have HK := hid hk
  clear hp hU hb hl hk
  go_enter Tryz.func47, Tryz.ntmps47
  go_wp2_with (first
    | (go_at_call 56; refine (kind_any _ HU.out _).mono ?_; rintro e w' ⟨rfl, hw'⟩; subst w'; rw [hkd])
    | (go_at_call 65; refine (object_str _ HU.out _ HP.out HK.out HBB.out HL.out).mono ?_; rintro e w1 ⟨rfl, hb1⟩; have HB1 := hid hb1; clear hb1))
  all_goals go_ret
  all_goals exact ⟨rfl, HB1.out⟩

set_option maxHeartbeats 4000000 in
theorem plain_atom (hv : Value) (v : Int) (hU : U v) (w : World) (hk : kd v = 1) :
    Calls Tryz.prog 47 #[hv, .int .u64 v] w fun e w' => e = .returned (.string (atomS v)) ∧ w' = w := by
  have HU := hid hU
  clear hU
  go_enter Tryz.func47, Tryz.ntmps47
  go_wp2_with (first
    | (go_at_call 56; refine (kind_any _ HU.out _).mono ?_; rintro e w' ⟨rfl, hw'⟩; subst w'; rw [hk])
    | (go_at_call 64; refine (atom_any _ _).mono ?_; rintro e w' ⟨rfl, hw'⟩; subst w'))
  all_goals go_ret
  all_goals exact ⟨rfl, rfl⟩

set_option maxHeartbeats 4000000 in
theorem plain_one (hv : Value) (w : World) :
    Calls Tryz.prog 47 #[hv, .int .u64 4] w fun e w' => e = .returned (.string ⟨#[49]⟩) ∧ w' = w := by
  go_enter Tryz.func47, Tryz.ntmps47
  go_wp2_with (first
    | (go_at_call 56; refine (kind_any _ (by unfold U; omega) _).mono ?_; rintro e w' ⟨rfl, hw'⟩; subst w'; rw [show kd 4 = 0 from rfl])
    | (go_at_call 61; refine (itoa_one _).mono ?_; rintro e w' ⟨rfl, hw'⟩; subst w')
    | go_in)
  all_goals go_ret
  all_goals exact ⟨rfl, rfl⟩

end Go.Proofs.YtimidonagbfjcaaGreatDoor

