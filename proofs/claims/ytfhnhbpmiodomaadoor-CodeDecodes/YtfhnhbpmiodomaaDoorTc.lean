/- The page's examples: the contract. -/
import Derived.Test.YtfhnhbpmiodomaaDoorTb
set_option linter.unusedSimpArgs false
set_option linter.unusedVariables false
namespace Go.Proofs.YtfhnhbpmiodomaaDoor
open Go Go.RowKit

theorem conv_sl {w : World} {G : Nat → Prop} {v : Value} {l : List Int} (h : Sl w G v l.length 1 (l.map (Value.int .u8))) : (convert 29 9 v).run Tryd.prog w = .ok (.string (strOfNums l)) w := by
  obtain ⟨hl, a, cap, rfl, hn, hc⟩ := h
  rcases hc with h0 | ⟨b, o, rfl, hlt, hg, hc⟩
  · have hnil : l = [] := List.eq_nil_of_length_eq_zero h0
    subst hnil
    cases a with
    | none => exact run_convert_bytes_nil w 29 5 under22 under5 0 cap 9 under9
    | some ad =>
      rw [List.length_nil, run_convert_bytes_string w 29 9 5 (some ad) 0 cap under22 under5 under9]
      exact run_bytesToString w ad 0 cap [] (run_loadCells_list (P := Tryd.prog) w ad [] (fun j v hj => by simp at hj))
  · refine run_convert_bytes_arg w 29 5 under22 under5 b o l.length cap l rfl (fun i hi => ?_) 9 under9
    rw [hc i (by omega)]
    simp [List.getD, hi]

theorem enc_none : byts (iIm AIm.none) = [74, 81, 48, 49, 0, 0, 0, 0] := by
  have h0 : nb 0 = [0] := nb_small (by decide)
  simp [iIm, iL, AIm.none, byts, It.b, pl, markL, h0]
theorem oks_none : oks (iIm AIm.none) = true := by decide

theorem bytes_own {w : World} {base : Nat} {v : Value} {b : List Int} (h : w.ownsRow base 5 1 v b.length (b.map (Value.int .u8))) : Sl w (fun _ => True) v b.length 1 (b.map (Value.int .u8)) := own_sl h (fun _ _ => trivial)

theorem eff_live : effM [] 25 2 = (3, 1, 0) := by decide
theorem name_live : nameM 0 = [105, 110, 116] := by decide

/-- The bytes of the image without anything. -/
def b8 : List Int := [74, 81, 48, 49, 0, 0, 0, 0]
theorem b8_len : b8.length = 8 := rfl
theorem b8_str : strOfNums b8 = ⟨#[74, 81, 48, 49, 0, 0, 0, 0]⟩ := rfl
theorem enc_b8 : byts (iIm AIm.none) = b8 := enc_none
theorem b8_by : ∀ c ∈ b8, 0 ≤ c ∧ c ≤ 255 := by decide
theorem dec_b8 : decS b8 = (8, 0) ∧ decI b8 = AIm.none := by
  have h := dec_enc AIm.none oks_none
  rw [enc_b8] at h
  exact h

theorem enc_live (w : World) : Calls Tryd.prog 7 #[.agg #[.slice none 0 0, .slice none 0 0, .slice none 0 0, .int .i64 0]] w fun e w' => Bw w w' ∧ ∃ a c, e = .returned (.tuple #[.slice a 8 c, .int .i64 0]) ∧ Sl w' (fun _ => True) (.slice a 8 c) b8.length 1 (b8.map (Value.int .u8)) := by
  have h0 : (byts (iIm AIm.none)).length ≤ 4194304 := by rw [enc_b8]; decide
  refine Calls.mono (encode_any (fun _ => True) _ _ _ AIm.none (RIm.none w _) h0) fun e w' h => ?_
  obtain ⟨hb, ⟨_, _, v, he, ho⟩ | ⟨hf, _⟩⟩ := h
  · rw [enc_b8] at ho
    obtain ⟨a, c, rfl⟩ := own_form ho
    exact ⟨hb, a, c, he, bytes_own ho⟩
  · rw [oks_none] at hf; cases hf

theorem dec_live (w : World) (v : Value) (h : Sl w (fun _ => True) v b8.length 1 (b8.map (Value.int .u8))) : Calls Tryd.prog 10 #[v] w fun e w' => Bw w w' ∧ ∃ n1 a1 c1 n2 a2 c2 n3 a3 c3, e = .returned (.tuple #[.agg #[.slice a1 n1 c1, .slice a2 n2 c2, .slice a3 n3 c3, .int .i64 0], .int .i64 0, .int .i64 8]) := by
  refine Calls.mono (decode_any v b8 h b8_by (by decide)) fun e w' h => ?_
  obtain ⟨hb, vf, vs, vk, he, hi⟩ := h
  obtain ⟨n1, a1, c1, rfl⟩ := hi.f1
  obtain ⟨n2, a2, c2, rfl⟩ := hi.f2
  obtain ⟨n3, a3, c3, rfl⟩ := hi.f3
  refine ⟨hb, n1, a1, c1, n2, a2, c2, n3, a3, c3, ?_⟩
  rw [he, dec_b8.1, dec_b8.2]
  rfl

theorem eff_any0 (w : World) (h : Og w) : Calls Tryd.prog 13 #[.agg #[.slice none 0 0, .slice none 0 0, .slice none 0 0, .int .i64 0], .agg #[.int .i64 25, .int .i64 2, .int .i64 0]] w fun e w' => e = .returned (.tuple #[.int .i64 3, .int .i64 1, .int .i64 0]) ∧ Bw w w' := by
  have := effect_any 0 0 0 0 0 none none none 0 25 2 0 [] (fun _ => True) h ⟨Sl.nil _ _ _, by simp, by simp, fun _ => rfl⟩ (by unfold I64; omega) (by simp)
  rw [List.map_nil, eff_live] at this
  exact this

theorem name_any0 (w : World) (h : Og w) : Calls Tryd.prog 14 #[.int .i64 0] w fun e w' => e = .returned (.string ⟨#[105, 110, 116]⟩) ∧ w' = w := by
  have := name_any 0 h
  rw [name_live] at this
  exact this

section
variable {w w' : World}

set_option maxRecDepth 100000 in
set_option maxHeartbeats 2000000 in
theorem live_any (ho : Og w) : Calls Tryd.prog 6 #[] w fun e w' => e = .returned (.bool true) ∧ Bw w w' := by
  have HO := hid ho
  clear ho
  go_enter Tryd.func6, Tryd.ntmps6
  go_wp2_with (first
    | (go_at_call 7; refine (enc_live _).mono ?_; rintro e w1 ⟨hb1, av, cv, rfl, hs1⟩; have HB1 := hid hb1; have HS1 := hid hs1; clear hb1 hs1)
    | (go_at_call 10; refine (dec_live _ _ HS1.out).mono ?_; rintro e w2 ⟨hb2, n1, a1, c1, n2, a2, c2, n3, a3, c3, rfl⟩; have HB2 := hid (HB1.out.trans hb2); have HS2 := hid (HS1.out.below hb2); clear hb2)
    | (go_at_call 13; refine (eff_any0 _ (HO.out.bw (HB2.out.trans (by repeat (first | exact Bw.refl _ | apply Bw.alloc | apply Bw.drewN | apply Bw.drew))))).mono ?_; rintro e w3 ⟨rfl, hb3⟩; have HB3 := hid (HB2.out.trans (Bw.trans (by repeat (first | exact Bw.refl _ | apply Bw.alloc | apply Bw.drewN | apply Bw.drew)) hb3)); have hcv := conv_sl (HS2.out.below (Bw.trans (by repeat (first | exact Bw.refl _ | apply Bw.alloc | apply Bw.drewN | apply Bw.drew)) hb3)); rw [b8_str] at hcv; clear hb3)
    | (go_at_call 9; refine (num_any _ _).mono ?_; rintro e w4 ⟨rfl, hw4⟩; subst w4)
    | (go_at_call 14; refine (name_any0 _ (HO.out.bw HB3.out)).mono ?_; rintro e w5 ⟨rfl, hw5⟩; subst w5)
    | fail)
  all_goals go_ret
  all_goals exact ⟨rfl, HB3.out⟩

end

end Go.Proofs.YtfhnhbpmiodomaaDoor
