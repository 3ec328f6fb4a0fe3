/- What a string looks like. -/
import Derived.Test.YtgfdbhbkmjabcabGreatDoorSD
import Derived.Test.YtgfdbhbkmjabcabGreatDoorPV
set_option linter.unusedSimpArgs false
set_option linter.unusedVariables false
namespace Go.Proofs.YtgfdbhbkmjabcabGreatDoor
open Go Go.RowKit

theorem kind_hs4 {b0 : Nat} {H : AHeap} {bs : List Nat} (v : Int) (hU : U v) (w : World) (h : HS w b0 H bs) :
    Calls Tryz.prog 14 #[.pointer (some ⟨b0, 0, none⟩), .int .u64 v] w fun e w' => e = .returned (.int .i64 (kk H v)) ∧ w' = w := by
  obtain ⟨vo, t, h, _⟩ := h
  exact kind_h v hU w h

theorem by_own {w : World} {base : Nat} {v : Value} {b : List Int} (h : w.ownsRow base 5 1 v b.length (b.map (Value.int .u8))) (hb : ∀ c ∈ b, 0 ≤ c ∧ c ≤ 255) (hl : b.length ≤ 9223372036854775807) : By w v b :=
  ⟨own_sl h (fun _ _ => trivial), hb, hl⟩

set_option maxHeartbeats 4000000 in
theorem object_str {b0 : Nat} {H : AHeap} {bs : List Nat} (v : Int) (hU : U v) (w : World) (hp : HS w b0 H bs) (hk : kk H v = 1) (hb : ∀ c ∈ (ob H v).bytes, 0 ≤ c ∧ c ≤ 255) (hl : (ob H v).bytes.length ≤ 1000000) :
    Calls Tryz.prog 43 #[.pointer (some ⟨b0, 0, none⟩), .int .u64 v] w fun e w' => e = .returned (.string (strOfNums (qStr (ob H v).bytes))) ∧ Bw w w' := by
  have HP := hid hp
  have HU := hid hU
  have HBB := hid hb
  have HL := hid hl
  have HK := hid hk
  have t1 : (kk H v == 1) = true := by simpa using hk
  clear hp hU hb hl hk
  go_enter Tryz.func43, Tryz.ntmps43
  go_wp2_with (first
    | (go_at_call 14; refine (kind_hs4 _ HU.out _ HP.out).mono ?_; rintro e w' ⟨rfl, hw'⟩; subst w')
    | (go_at_call 34; refine (bytes_yes _ HU.out _ HP.out HK.out).mono ?_; rintro e w1 ⟨r, rfl, ho1, hb1⟩; have HO1 := hid ho1; have HB1 := hid hb1; clear ho1 hb1)
    | (go_at_call 20; refine (wQuote_any _ _ _ (by_own HO1.out HBB.out (by have := HL.out; omega)) HL.out).mono ?_; rintro e w2 ⟨r2, rfl, ho2, hb2⟩; obtain ⟨a2, c2, e2⟩ := own_form ho2; subst e2; have hc := By.conv0 (by_own ho2 (qStr_byte HBB.out) (by have h1 := HL.out; have h2 := qAll_len (ob H v).bytes; simp [qStr]; omega)); have HB2 := hid hb2; clear ho2 hb2))
  all_goals go_ret
  all_goals exact ⟨rfl, Bw.trans HB1.out HB2.out⟩

end Go.Proofs.YtgfdbhbkmjabcabGreatDoor
