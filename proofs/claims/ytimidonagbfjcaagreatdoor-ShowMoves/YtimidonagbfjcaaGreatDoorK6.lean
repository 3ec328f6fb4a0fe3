/- What the three atoms look like. · The page's example holds: the contract of 'live'. · What a string looks like. -/
import Derived.Test.YtimidonagbfjcaaGreatDoorK5
import Derived.Test.YtimidonagbfjcaaGreatDoorPIk
import Derived.Test.YtimidonagbfjcaaGreatDoorPLk
import Derived.Lib.SmallJoins
set_option linter.unusedSimpArgs false
set_option linter.unusedVariables false
namespace Go.Proofs.YtimidonagbfjcaaGreatDoor
open Go Go.RowKit

/-- What an atom looks like. -/
def atomS (v : Int) : ByteArray := if v = 5 then ⟨#[102, 97, 108, 115, 101]⟩ else if v = 9 then ⟨#[116, 114, 117, 101]⟩ else ⟨#[110, 105, 108]⟩

set_option maxHeartbeats 4000000 in
theorem atom_any (v : Int) (w : World) :
    Calls Tryz.prog 64 #[.int .u64 v] w fun e w' => e = .returned (.string (atomS v)) ∧ w' = w := by
  go_enter Tryz.func64, Tryz.ntmps64
  go_wp2
  all_goals go_ret
  all_goals refine ⟨?_, rfl⟩
  all_goals simp_all [atomS]

end Go.Proofs.YtimidonagbfjcaaGreatDoor

set_option linter.unusedSimpArgs false
set_option linter.unusedVariables false
namespace Go.Proofs.YtimidonagbfjcaaGreatDoor
open Go Go.RowKit

theorem Nx.bw {w w1 w2 : World} {bs bs' : List Nat} (k : Nx bs w1 w2 bs') (h : Bw w w1) (hs : ∀ b ∈ bs, w.heap.size ≤ b) : Bw w w2 ∧ ∀ b ∈ bs', w.heap.size ≤ b :=
  ⟨k.1.below h h.size hs, fun b hb => (k.2 b hb).elim (hs b) (fun hh => Nat.le_trans h.size hh)⟩

set_option maxHeartbeats 400000 in
theorem num_any (n : Int) (w : World) : Calls Tryz.prog 12 #[.int .i64 n] w fun e w' => e = .returned (.int .i64 n) ∧ w' = w := by
  go_enter Tryz.func12, Tryz.ntmps12
  go_wp2
  go_ret
  exact ⟨rfl, rfl⟩

/-- A list that was just laid, with marks. -/
theorem sl_new' (w : World) (l : List Value) (e : TypeId) (fr : Nat × Nat) (n : Nat) (hn : l.length = n) : Sl (w.alloc (.cells l.toArray e fr)) (fun _ => True) (.slice (some ⟨w.heap.size, 0, none⟩) n n) n 1 l := by
  refine ⟨by omega, _, n, rfl, ⟨Nat.le_refl _, fun h => by cases h⟩, .inr ⟨_, 0, rfl, by simp, trivial, fun i hi => ?_⟩⟩
  have h := heap_alloc_new w (.cells l.toArray e fr)
  rw [cell_of_row _ _ _ _ _ _ h]
  simp

theorem lv1 : aMakeE (2, []) (oStr [97]) = 0 := by decide
theorem lv2 : aMakeV (2, []) (oStr [97]) = 2 := by decide
theorem lv3 : aMakeH (2, []) (oStr [97]) = (2, [oStr [97]]) := by simp [aMakeH, lv1]
theorem lv4 : aMakeE (2, [oStr [97]]) (oArr [2]) = 0 := by decide
theorem lv5 : aMakeV (2, [oStr [97]]) (oArr [2]) = 6 := by decide
theorem lv6 : aMakeH (2, [oStr [97]]) (oArr [2]) = (2, [oStr [97], oArr [2]]) := by simp [aMakeH, lv4]
theorem lv7 : aMakeE (2, [oStr [97], oArr [2]]) (oCell 1) = 3 := by decide
theorem lv8 : aMakeV (2, [oStr [97], oArr [2]]) (oCell 1) = 0 := by simp [aMakeV, lv7]
theorem lv9 : aMakeH (2, [oStr [97], oArr [2]]) (oCell 1) = (2, [oStr [97], oArr [2]]) := by simp [aMakeH, lv7]
theorem lv10 : aAtV (2, [oStr [97], oArr [2]]) 2 0 = 388 := by decide
theorem lv11 : aAtE (2, [oStr [97], oArr [2]]) 2 0 = 0 := by decide





end Go.Proofs.YtimidonagbfjcaaGreatDoor

set_option linter.unusedSimpArgs false
set_option linter.unusedVariables false
namespace Go.Proofs.YtimidonagbfjcaaGreatDoor
open Go Go.RowKit

theorem kind_hs4 {b0 : Nat} {H : AHeap} {bs : List Nat} (v : Int) (hU : U v) (w : World) (h : HS w b0 H bs) :
    Calls Tryz.prog 31 #[.pointer (some ⟨b0, 0, none⟩), .int .u64 v] w fun e w' => e = .returned (.int .i64 (kk H v)) ∧ w' = w := by
  obtain ⟨vo, t, h, _⟩ := h
  exact kind_h v hU w h

theorem by_own {w : World} {base : Nat} {v : Value} {b : List Int} (h : w.ownsRow base 5 1 v b.length (b.map (Value.int .u8))) (hb : ∀ c ∈ b, 0 ≤ c ∧ c ≤ 255) (hl : b.length ≤ 9223372036854775807) : By w v b :=
  ⟨own_sl h (fun _ _ => trivial), hb, hl⟩

set_option maxHeartbeats 4000000 in
theorem object_str {b0 : Nat} {H : AHeap} {bs : List Nat} (v : Int) (hU : U v) (w : World) (hp : HS w b0 H bs) (hk : kk H v = 1) (hb : ∀ c ∈ (ob H v).bytes, 0 ≤ c ∧ c ≤ 255) (hl : (ob H v).bytes.length ≤ 1000000) :
    Calls Tryz.prog 65 #[.pointer (some ⟨b0, 0, none⟩), .int .u64 v] w fun e w' => e = .returned (.string (strOfNums (qStr (ob H v).bytes))) ∧ Bw w w' := by
  have HP := hid hp
  have HU := hid hU
  have HBB := hid hb
  have HL := hid hl
  have HK := hid hk
  have t1 : (kk H v == 1) = true := by simpa using hk
  clear hp hU hb hl hk
  go_enter Tryz.func65, Tryz.ntmps65
  go_wp2_with (first
    | (go_at_call 31; refine (kind_hs4 _ HU.out _ HP.out).mono ?_; rintro e w' ⟨rfl, hw'⟩; subst w')
    | (go_at_call 58; refine (bytes_yes _ HU.out _ HP.out HK.out).mono ?_; rintro e w1 ⟨r, rfl, ho1, hb1⟩; have HO1 := hid ho1; have HB1 := hid hb1; clear ho1 hb1)
    | (go_at_call 17; refine (wQuote_any _ _ _ (by_own HO1.out HBB.out (by have := HL.out; omega)) HL.out).mono ?_; rintro e w2 ⟨r2, rfl, ho2, hb2⟩; obtain ⟨a2, c2, e2⟩ := own_form ho2; subst e2; have hc := By.conv0 (by_own ho2 (qStr_byte HBB.out) (by have h1 := HL.out; have h2 := qAll_len (ob H v).bytes; simp [qStr]; omega)); have HB2 := hid hb2; clear ho2 hb2))
  all_goals go_ret
  all_goals exact ⟨rfl, Bw.trans HB1.out HB2.out⟩

end Go.Proofs.YtimidonagbfjcaaGreatDoor

