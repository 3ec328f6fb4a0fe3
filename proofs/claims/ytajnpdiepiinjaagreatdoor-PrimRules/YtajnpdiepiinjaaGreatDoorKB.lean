/- prim.Pure: pushes, pops, lengths: contracts. -/
import Derived.Test.YtajnpdiepiinjaaGreatDoorKA
import Derived.Deep.RegionHeld3
set_option linter.unusedSimpArgs false
set_option linter.unusedVariables false
namespace Go.Proofs.YtajnpdiepiinjaaGreatDoor
open Go Go.RowKit

section
variable {w w' : World}

theorem ary1 : ary 1 = 1 := rfl
theorem ary2 : ary 2 = 2 := rfl
theorem ary3 : ary 3 = 1 := rfl
theorem ary4 : ary 4 = 1 := rfl

def pF (e : Int) : Int := if e = 0 then 0 else if e = 4 then 3 else 1
def pV (e v : Int) : Int := if e = 0 then v else 0

set_option maxRecDepth 100000 in
set_option maxHeartbeats 1000000 in
theorem popped_any {b0 : Nat} {H : AHeap} {bs : List Nat} (v : Int) (hU : U v) (hp : HS w b0 H bs) :
    Calls Tryz.prog 82 #[.pointer (some ⟨b0, 0, none⟩), .int .u64 v] w fun e w' => e = .returned (.tuple #[.int .u64 (pV (aPopE H v) (aPopV H v)), .int .i64 (pF (aPopE H v))]) ∧ ∃ bs', HS w' b0 (aPopH H v) bs' ∧ Nx bs w w' bs' := by
  have HA := hid (pop_any v hU w hp)
  generalize aPopV H v = V at HA ⊢
  generalize aPopE H v = E at HA ⊢
  generalize aPopH H v = H' at HA ⊢
  clear hp hU
  unfold pF pV
  by_cases h0 : E = 0
  · subst h0
    rw [if_pos rfl, if_pos rfl]
    go_enter Tryz.func82, Tryz.ntmps82
    go_wp2_with (first
      | (go_at_call 141; refine HA.out.mono ?_; rintro e w1 ⟨rfl, bs1, hs1, hn1⟩; have S1 := hid hs1; have N1 := hid hn1; clear hs1 hn1)
      | fail)
    go_ret2
    exact ⟨rfl, _, S1.out, N1.out⟩
  rw [if_neg h0, if_neg h0]
  by_cases h4 : E = 4
  · subst h4
    rw [if_pos rfl]
    clear h0
    go_enter Tryz.func82, Tryz.ntmps82
    go_wp2_with (first
      | (go_at_call 141; refine HA.out.mono ?_; rintro e w1 ⟨rfl, bs1, hs1, hn1⟩; have S1 := hid hs1; have N1 := hid hn1; clear hs1 hn1)
      | fail)
    go_ret2
    exact ⟨rfl, _, S1.out, N1.out⟩
  rw [if_neg h4]
  have b0' : (E == 0) = false := by simpa using h0
  have b4' : (E == 4) = false := by simpa using h4
  clear h0 h4
  go_enter Tryz.func82, Tryz.ntmps82
  go_wp2_with (first
    | (go_at_call 141; refine HA.out.mono ?_; rintro e w1 ⟨rfl, bs1, hs1, hn1⟩; have S1 := hid hs1; have N1 := hid hn1; clear hs1 hn1)
    | fail)
  go_ret2
  exact ⟨rfl, _, S1.out, N1.out⟩

set_option maxRecDepth 100000 in
set_option maxHeartbeats 2000000 in
theorem pure_pop {b0 : Nat} {H : AHeap} {bs : List Nat} (ab : Nat) (v : Int) (hU : U v) (ha : Ar w) (hp : HS w b0 H bs) (c0 : w.cell? ⟨ab, 0, none⟩ = some (.int .u64 v)) (hab : ab < w.heap.size) :
    Calls Tryz.prog 27 #[.pointer (some ⟨b0, 0, none⟩), .int .i64 3, .slice (some ⟨ab, 0, none⟩) 1 1] w fun e w' => e = .returned (.tuple #[.int .u64 (pV (aPopE H v) (aPopV H v)), .int .i64 (pF (aPopE H v))]) ∧ ∃ bs', HS w' b0 (aPopH H v) bs' ∧ Nx bs w w' bs' := by
  have HC := hid (popped_any v hU hp)
  have HA := hid ha
  generalize pV (aPopE H v) (aPopV H v) = V at HC ⊢
  generalize pF (aPopE H v) = E at HC ⊢
  generalize aPopH H v = H' at HC ⊢
  clear hp ha
  go_enter Tryz.func27, Tryz.ntmps27
  go_wp2_with (first
    | (go_at_call 78; refine (Arity_any _ HA.out).mono ?_; rw [ary3]; rintro e w' ⟨rfl, hw'⟩; subst w')
    | (go_at_call 82; refine HC.out.mono ?_; rintro e w1 ⟨rfl, bs1, hs1, hn1⟩; have S1 := hid hs1; have N1 := hid hn1; clear hs1 hn1)
    | fail)
  all_goals go_ret2
  all_goals exact ⟨rfl, _, S1.out, N1.out⟩

set_option maxRecDepth 100000 in
set_option maxHeartbeats 2000000 in
theorem pure_push {b0 : Nat} {H : AHeap} {bs : List Nat} (ab : Nat) (v x : Int) (hU : U v) (hUx : U x) (ha : Ar w) (hp : HS w b0 H bs) (hcap : ∀ o ∈ H.2, o.vals.length ≤ 65536) (c0 : w.cell? ⟨ab, 0, none⟩ = some (.int .u64 v)) (c1 : w.cell? ⟨ab, 1, none⟩ = some (.int .u64 x)) (hab : ab < w.heap.size) (hnb : ab ∉ bs) :
    Calls Tryz.prog 27 #[.pointer (some ⟨b0, 0, none⟩), .int .i64 2, .slice (some ⟨ab, 0, none⟩) 2 2] w fun e w' => e = .returned (.tuple #[.int .u64 (dV (wF (aPushE H v x))), .int .i64 (wF (aPushE H v x))]) ∧ ∃ bs', HS w' b0 (aPushH H v x) bs' ∧ Nx bs w w' bs' := by
  have HC := hid (fun w1 (hb : Bw w w1) => push_any v x hU hUx w1 (hp.bw hb) hcap)
  have HA := hid ha
  have HP := hid hp
  generalize aPushE H v x = E at HC ⊢
  generalize aPushH H v x = H' at HC ⊢
  clear hp ha hcap hU hUx
  go_enter Tryz.func27, Tryz.ntmps27
  go_upto_region 11 with (first
    | (go_at_call 78; refine (Arity_any _ HA.out).mono ?_; rw [ary2]; rintro e w' ⟨rfl, hw'⟩; subst w')
    | fail)
  go_region_held3 (fun w' => w'.cell? ⟨ab, 0, none⟩ = some (.int .u64 v) ∧ w'.cell? ⟨ab, 1, none⟩ = some (.int .u64 x)) (first | (simp [go_sem, *]; done) | trivial)
    (first
      | (go_at_call 81; refine (HC.out _ (by repeat (first | exact Bw.refl _ | apply Bw.alloc | apply Bw.drewN | apply Bw.drew))).mono ?_; rintro e w1 ⟨rfl, bs1, hs1, hn1⟩; have S1 := hid hs1; have N1 := hid (show Nx bs w w1 bs1 from Bw.nxBefore (by repeat (first | exact Bw.refl _ | apply Bw.alloc | apply Bw.drewN | apply Bw.drew)) hn1); have y0 := (World.cell?_of_block (a := ⟨ab, 0, none⟩) (N1.out.1.block ab hab hnb)).trans c0; have y1 := (World.cell?_of_block (a := ⟨ab, 1, none⟩) (N1.out.1.block ab hab hnb)).trans c1; clear hs1 hn1)
      | (go_at_call 71; refine (writtenFault_any _).mono ?_; rintro e w' ⟨rfl, hw'⟩; subst w')
      | (go_at_call 80; refine (done_any _).mono ?_; rintro e w' ⟨rfl, hw'⟩; subst w')
      | fail)
  go_wp2
  all_goals go_ret2
  all_goals exact ⟨rfl, _, S1.out, N1.out⟩

end

end Go.Proofs.YtajnpdiepiinjaaGreatDoor
