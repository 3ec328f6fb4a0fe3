/- prim: fields read and written, keys as strings: contracts. -/
import Derived.Test.YtajnpdiepiinjaaGreatDoorKF
set_option linter.unusedSimpArgs false
set_option linter.unusedVariables false
namespace Go.Proofs.YtajnpdiepiinjaaGreatDoor
open Go Go.RowKit

def fF (e : Int) : Int := if e = 0 then 0 else if e = 4 then 4 else 1
def fV (e v : Int) : Int := if e = 0 then v else 0

section
variable {w w' : World}

set_option maxRecDepth 100000 in
set_option maxHeartbeats 1000000 in
theorem Field_any {b0 : Nat} {H : AHeap} {bs : List Nat} (r : Int) (s : ByteArray) (hU : U r) (hp : HS w b0 H bs) :
    Calls Tryz.prog 21 #[.pointer (some ⟨b0, 0, none⟩), .int .u64 r, .string s] w fun e w' => e = .returned (.tuple #[.int .u64 (fV (aFieldE H r s) (aFieldV H r s)), .int .i64 (fF (aFieldE H r s))]) ∧ Bw w w' := by
  have HC := hid (field_any r s hU w hp)
  generalize aFieldE H r s = E at HC ⊢
  generalize aFieldV H r s = V at HC ⊢
  clear hp hU
  unfold fF fV
  by_cases h0 : E = 0
  · subst h0
    rw [if_pos rfl, if_pos rfl]
    go_enter Tryz.func21, Tryz.ntmps21
    go_wp2_with (first
      | (go_at_call 72; refine HC.out.mono ?_; rintro e w1 ⟨rfl, hl1⟩; have B1 := hid hl1.bw; clear hl1)
      | fail)
    all_goals go_ret2
    all_goals exact ⟨rfl, B1.out⟩
  rw [if_neg h0, if_neg h0]
  by_cases h4 : E = 4
  · subst h4
    rw [if_pos rfl]
    clear h0
    go_enter Tryz.func21, Tryz.ntmps21
    go_wp2_with (first
      | (go_at_call 72; refine HC.out.mono ?_; rintro e w1 ⟨rfl, hl1⟩; have B1 := hid hl1.bw; clear hl1)
      | fail)
    all_goals go_ret2
    all_goals exact ⟨rfl, B1.out⟩
  rw [if_neg h4]
  have b0' : (E == 0) = false := by simpa using h0
  have b4' : (E == 4) = false := by simpa using h4
  clear h0 h4
  go_enter Tryz.func21, Tryz.ntmps21
  go_wp2_with (first
    | (go_at_call 72; refine HC.out.mono ?_; rintro e w1 ⟨rfl, hl1⟩; have B1 := hid hl1.bw; clear hl1)
    | fail)
  all_goals go_ret2
  all_goals exact ⟨rfl, B1.out⟩

set_option maxRecDepth 100000 in
set_option maxHeartbeats 1000000 in
/-- A field is written, where it is. -/
theorem SetField_yes {b0 : Nat} {H : AHeap} {bs : List Nat} (r : Int) (s : ByteArray) (x : Int) (hU : U r) (hUx : U x) (hp : HS w b0 H bs) (hcap : ∀ o ∈ H.2, o.keys.length ≤ 256) (he : aPutE H r s x = 0) :
    Calls Tryz.prog 20 #[.pointer (some ⟨b0, 0, none⟩), .int .u64 r, .string s, .int .u64 x] w fun e w' => e = .returned (.int .i64 0) ∧ ∃ bs', HS w' b0 (aPutH H r s x) bs' ∧ Nx bs w w' bs' := by
  have HC := hid (put_any r s x hU hUx w hp hcap)
  rw [he] at HC
  have HC := hid HC.out
  generalize aPutH H r s x = H' at HC ⊢
  clear hp hcap he
  go_enter Tryz.func20, Tryz.ntmps20
  go_wp2_with (first
    | (go_at_call 69; refine HC.out.mono ?_; rintro e w1 ⟨rfl, bs1, hs1, hn1⟩; have S1 := hid hs1; have N1 := hid hn1; clear hs1 hn1)
    | (go_at_call 71; refine (writtenFault_any _).mono ?_; rw [show wF 0 = 0 from rfl]; rintro e w' ⟨rfl, hw'⟩; subst w')
    | fail)
  all_goals go_ret
  all_goals exact ⟨rfl, _, S1.out, N1.out⟩

set_option maxRecDepth 100000 in
set_option maxHeartbeats 1000000 in
theorem isFull_any {b0 : Nat} {H : AHeap} {bs : List Nat} (r : Int) (s : ByteArray) (hU : U r) (hp : HS w b0 H bs) (hk : kk H r = 3) (hf : (ob H r).vals.length < 256) :
    Calls Tryz.prog 70 #[.pointer (some ⟨b0, 0, none⟩), .int .u64 r, .string s] w fun e w' => e = .returned (.bool false) ∧ Bw w w' := by
  have HC := hid (field_any r s hU w hp)
  have HL := hid (fun (w1 : World) (hb : Bw w w1) => len_list r hU w1 (hp.bw hb) (.inr hk))
  have bl : decide (256 ≤ ((ob H r).vals.length : Int)) = false := decide_eq_false (by omega)
  obtain ⟨q, hq⟩ : ∃ q, (aFieldE H r s == 4) = q := ⟨_, rfl⟩
  generalize aFieldE H r s = E at HC hq
  generalize aFieldV H r s = V at HC
  generalize ((ob H r).vals.length : Int) = n at HL bl
  clear hp hk hf
  cases q
  · go_enter Tryz.func70, Tryz.ntmps70
    go_wp2_with (first
      | (go_at_call 72; refine HC.out.mono ?_; rintro e w1 ⟨rfl, hl1⟩; have B1 := hid hl1.bw; clear hl1)
      | (go_at_call 32; refine (HL.out _ B1.out).mono ?_; rintro e w2 ⟨rfl, hl2⟩; have B2 := hid (B1.out.trans hl2.bw); clear hl2)
      | fail)
    all_goals go_ret
    all_goals exact ⟨rfl, B2.out⟩
  · go_enter Tryz.func70, Tryz.ntmps70
    go_wp2_with (first
      | (go_at_call 72; refine HC.out.mono ?_; rintro e w1 ⟨rfl, hl1⟩; have B1 := hid hl1.bw; clear hl1)
      | (go_at_call 32; refine (HL.out _ B1.out).mono ?_; rintro e w2 ⟨rfl, hl2⟩; have B2 := hid (B1.out.trans hl2.bw); clear hl2)
      | fail)
    all_goals go_ret
    all_goals exact ⟨rfl, B2.out⟩

set_option maxRecDepth 100000 in
set_option maxHeartbeats 1000000 in
/-- A word that is no value is not written. -/
theorem SetField_bad {b0 : Nat} {H : AHeap} {bs : List Nat} (r : Int) (s : ByteArray) (x : Int) (hU : U r) (hUx : U x) (hp : HS w b0 H bs) (hk : kk H r = 3) (hf : (ob H r).vals.length < 256) (hg : gd H.2.length x = false) :
    Calls Tryz.prog 20 #[.pointer (some ⟨b0, 0, none⟩), .int .u64 r, .string s, .int .u64 x] w fun e w' => e = .returned (.int .i64 1) ∧ Bw w w' := by
  have HC := hid (put_arg r s x hU hUx w hp hk hg)
  have HF := hid (fun (w1 : World) (hb : Bw w w1) => isFull_any (w := w1) r s hU (hp.bw hb) hk hf)
  clear hp hk hf hg
  go_enter Tryz.func20, Tryz.ntmps20
  go_wp2_with (first
    | (go_at_call 69; refine HC.out.mono ?_; rintro e w1 ⟨rfl, hl1⟩; have B1 := hid hl1.bw; clear hl1)
    | (go_at_call 70; refine (HF.out _ B1.out).mono ?_; rintro e w2 ⟨rfl, hb2⟩; have B2 := hid (B1.out.trans hb2); clear hb2)
    | (go_at_call 71; refine (writtenFault_any _).mono ?_; rw [show wF 1 = 1 from rfl]; rintro e w' ⟨rfl, hw'⟩; subst w')
    | fail)
  all_goals go_ret
  all_goals exact ⟨rfl, B2.out⟩

set_option maxRecDepth 100000 in
set_option maxHeartbeats 1000000 in
theorem keyOf_yes {b0 : Nat} {H : AHeap} {bs : List Nat} (k : Int) (hU : U k) (hp : HS w b0 H bs) (hk : kk H k = 1) :
    Calls Tryz.prog 74 #[.pointer (some ⟨b0, 0, none⟩), .int .u64 k] w fun e w' => e = .returned (.tuple #[.string (strOfNums (ob H k).bytes), .bool true]) ∧ Bw w w' := by
  have oa := hs_obj hp hU (by omega)
  have HC := hid (bytes_yes k hU w hp hk)
  have HX := hid oa.2.2.2.2.1
  have HL := hid oa.2.2.2.2.2.1
  generalize (ob H k).bytes = x at *
  clear hp hk oa
  go_enter Tryz.func74, Tryz.ntmps74
  go_wp2_with (first
    | (go_at_call 26; refine HC.out.mono ?_; rintro e w1 ⟨r1, rfl, ho1, hb1⟩; obtain ⟨a1, c1, rfl⟩ := own_form ho1; have q1 := (by_own ho1 HX.out (by have := HL.out; omega)).conv0; have B1 := hid hb1; clear ho1 hb1)
    | fail)
  all_goals go_ret2
  all_goals exact ⟨rfl, B1.out⟩

set_option maxRecDepth 100000 in
set_option maxHeartbeats 1000000 in
/-- A field of a record, by a string. -/
theorem index_rec {b0 : Nat} {H : AHeap} {bs : List Nat} (r i : Int) (hr : U r) (hi : U i) (hp : HS w b0 H bs) (kr : kk H r = 3) (ki : kk H i = 1) :
    Calls Tryz.prog 23 #[.pointer (some ⟨b0, 0, none⟩), .int .u64 r, .int .u64 i] w fun e w' => e = .returned (.tuple #[.int .u64 (fV (aFieldE H r (strOfNums (ob H i).bytes)) (aFieldV H r (strOfNums (ob H i).bytes))), .int .i64 (fF (aFieldE H r (strOfNums (ob H i).bytes)))]) ∧ Bw w w' := by
  have K1 := hid (show Calls Tryz.prog 63 #[.pointer (some ⟨b0, 0, none⟩), .int .u64 r] w fun e w' => e = .returned (.int .i64 3) ∧ w' = w by have := kind_hs9 r hr w hp; rwa [kr] at this)
  have K2 := hid (keyOf_yes i hi hp ki)
  have K3 := hid (fun (w1 : World) (hb : Bw w w1) => Field_any (w := w1) r (strOfNums (ob H i).bytes) hr (hp.bw hb))
  generalize strOfNums (ob H i).bytes = s at K2 K3 ⊢
  generalize fV (aFieldE H r s) (aFieldV H r s) = V at K3 ⊢
  generalize fF (aFieldE H r s) = E at K3 ⊢
  clear hp kr ki
  go_enter Tryz.func23, Tryz.ntmps23
  go_wp2_with (first
    | (go_at_call 63; refine K1.out.mono ?_; rintro e w' ⟨rfl, hw'⟩; subst w')
    | (go_at_call 74; refine K2.out.mono ?_; rintro e w1 ⟨rfl, hb1⟩; have B1 := hid hb1; clear hb1)
    | (go_at_call 21; refine (K3.out _ B1.out).mono ?_; rintro e w2 ⟨rfl, hb2⟩; have B2 := hid (B1.out.trans hb2); clear hb2)
    | fail)
  all_goals go_ret2
  all_goals exact ⟨rfl, B2.out⟩

end

end Go.Proofs.YtajnpdiepiinjaaGreatDoor
