/- The statements' examples: the contract. -/
import Derived.Test.YtkeijgafmbdnlaaDoorXK
import Derived.Lib.SlBytesConst
set_option linter.unusedSimpArgs false
set_option linter.unusedVariables false
namespace Go.Proofs.YtkeijgafmbdnlaaDoor
open Go Go.RowKit

set_option maxHeartbeats 400000 in
theorem num_any (n : Int) (w : World) :
    Calls Tryd.prog 13 #[.int .i64 n] w fun e w' => e = .returned (.int .i64 n) ∧ w' = w := by
  go_enter Tryd.func13, Tryd.ntmps13
  go_wp2
  go_ret
  exact ⟨rfl, rfl⟩

theorem flat_get : ∀ (l : List ATok) (i : Nat) (hi : i < l.length) (j : Nat) (hj : j < 4), (l.flatMap tkV)[i * 4 + j]? = (tkV l[i])[j]?
  | [], i, hi, _, _ => by simp at hi
  | t :: u, 0, _, j, hj => by
    rw [List.flatMap_cons, Nat.zero_mul, Nat.zero_add, List.getElem?_append_left (by simp [tkV]; omega)]
    rfl
  | t :: u, i + 1, hi, j, hj => by
    have hi' : i < u.length := by simpa using hi
    rw [List.flatMap_cons, List.getElem?_append_right (by simp [tkV]; omega)]
    have e : (i + 1) * 4 + j - (tkV t).length = i * 4 + j := by simp [tkV]; omega
    rw [e, flat_get u i hi' j hj]
    simp

theorem Tk.at {w : World} {base : Nat} {v : Value} {l : List ATok} (h : Tk w base v l) (hl : 0 < l.length) :
    ∃ g cap, v = .slice (some ⟨g, 0, none⟩) l.length cap ∧ base ≤ g ∧ g < w.heap.size ∧ l.length ≤ cap ∧ ∀ i (hi : i < l.length), w.cell? ⟨g, i * 4, none⟩ = some (.int .i64 l[i].1) ∧ w.cell? ⟨g, i * 4 + 1, none⟩ = some (.string (strOfNums l[i].2.1)) ∧ w.cell? ⟨g, i * 4 + 2, none⟩ = some (.int .i64 l[i].2.2.1) ∧ w.cell? ⟨g, i * 4 + 3, none⟩ = some (.int .i64 l[i].2.2.2) := by
  rcases h.2 with ⟨_, h0⟩ | ⟨g, cap, cur, rfl, hb, hg, hnc, hmx, hsz, htake⟩
  · omega
  · refine ⟨g, cap, rfl, hb, (Array.getElem?_eq_some_iff.1 hg).1, hnc, fun i hi => ?_⟩
    have key : ∀ j, j < 4 → w.cell? ⟨g, i * 4 + j, none⟩ = (tkV l[i])[j]? := by
      intro j hj
      rw [cell_of_row w g (i * 4 + j) cur _ (0, 0) hg, ← flat_get l i hi j hj, ← htake, List.getElem?_take, if_pos (by omega)]
      simp
    have k0 := key 0 (by omega)
    have k1 := key 1 (by omega)
    have k2 := key 2 (by omega)
    have k3 := key 3 (by omega)
    exact ⟨k0, k1, k2, k3⟩

theorem cell_bw {w w' : World} {b i : Nat} (h : Bw w w') (hb : b < w.heap.size) : w'.cell? ⟨b, i, none⟩ = w.cell? ⟨b, i, none⟩ :=
  World.cell?_of_block (w := w) (w' := w') (a := ⟨b, i, none⟩) (h.block b hb)

theorem by_alloc (w : World) (l : List Int) (fr : Nat × Nat) (hl : l.length ≤ 9223372036854775807) (hb : ∀ c ∈ l, 0 ≤ c ∧ c ≤ 255) : By (w.alloc (.cells (l.map (Value.int .u8)).toArray 5 fr)) (.slice (some ⟨w.heap.size, 0, none⟩) l.length l.length) l := by
  refine ⟨⟨by simp, _, _, rfl, ⟨Nat.le_refl _, fun h => by cases h⟩, .inr ⟨w.heap.size, 0, rfl, by simp, trivial, fun i hi => ?_⟩⟩, hb, hl⟩
  rw [World.cell?_alloc_mark]
  simp

theorem lex1 : lexA [97, 60, 61, 98] = ([(1, [97], 0, 0), (5, [60, 61], 0, 1), (1, [98], 0, 3), (0, [], 0, 4)], 0, 4) := by decide +kernel
theorem lex2 : lexA [120, 49, 32, 61, 32, 48, 55] = ([], 6, 6) := by decide +kernel
theorem lex3 : lexA [34, 97, 92, 120, 52, 49, 34] = ([(4, [97, 65], 0, 0), (0, [], 0, 7)], 0, 7) := by decide +kernel

theorem tk1 {w : World} {base : Nat} {r : Value} (h : Tk w base r [(1, [97], 0, 0), (5, [60, 61], 0, 1), (1, [98], 0, 3), (0, [], 0, 4)]) :
    ∃ g cap, r = .slice (some ⟨g, 0, none⟩) 4 cap ∧ Hid (g < w.heap.size ∧ w.cell? ⟨g, 5, none⟩ = some (.string ⟨#[60, 61]⟩) ∧ w.cell? ⟨g, 15, none⟩ = some (.int .i64 4)) := by
  obtain ⟨g, cap, e, _, hg, _, hc⟩ := h.at (by decide)
  exact ⟨g, cap, e, hid ⟨hg, (hc 1 (by decide)).2.1, (hc 3 (by decide)).2.2.2⟩⟩

theorem tk3 {w : World} {base : Nat} {r : Value} (h : Tk w base r [(4, [97, 65], 0, 0), (0, [], 0, 7)]) :
    ∃ g cap, r = .slice (some ⟨g, 0, none⟩) 2 cap ∧ Hid (g < w.heap.size ∧ w.cell? ⟨g, 1, none⟩ = some (.string ⟨#[97, 65]⟩)) := by
  obtain ⟨g, cap, e, _, hg, _, hc⟩ := h.at (by decide)
  exact ⟨g, cap, e, hid ⟨hg, (hc 0 (by decide)).2.1⟩⟩

theorem tk2 {w : World} {base : Nat} {r : Value} (h : Tk w base r []) : r = .slice none 0 0 ∨ ∃ g cap, r = .slice (some ⟨g, 0, none⟩) 0 cap := by
  rcases h.2 with ⟨rfl, _⟩ | ⟨g, cap, cur, rfl, _⟩
  · exact .inl rfl
  · exact .inr ⟨g, cap, rfl⟩

theorem name_fm (w : World) : Calls Tryd.prog 16 #[.string ⟨#[102, 109]⟩] w fun e w' => e = .returned (.bool true) ∧ w' = w := by
  have h := xName_any [102, 109] (by decide) (by decide) w
  rw [show isName [102, 109] = true by decide] at h
  exact h

set_option maxHeartbeats 8000000 in
theorem live_any (w : World) (hs : Sg w) : Calls Tryd.prog 9 #[] w fun e w' => e = .returned (.bool true) ∧ Bw w w' := by
  have HS := hid hs
  clear hs
  have hcv := fun (W : World) (C : Array Value) (n c : Nat) => Lib.run_convert_bytes_const (P := Tryd.prog) W 22 5 C n c under22 under5
  go_enter Tryd.func9, Tryd.ntmps9
  go_upto_region 2 with (first
    | (go_at_call 10; refine (xLex_any _ [97, 60, 61, 98] _ (by_alloc w [97, 60, 61, 98] _ (by decide) (by decide)) (HS.out.bw (Bw.alloc (Bw.refl _) _)) (by decide)).mono ?_; rw [lex1]; rintro e w1 ⟨r1, rfl, ht1, hb1⟩; have HB1 := hid (Bw.trans (Bw.alloc (Bw.refl w) _) hb1); obtain ⟨g1, cp1, e1, H1⟩ := tk1 ht1; subst e1; clear ht1 hb1))
  go_upto_region 3 with (first
    | (go_at_call 10; refine (xLex_any _ [120, 49, 32, 61, 32, 48, 55] _ (by_alloc w1 [120, 49, 32, 61, 32, 48, 55] _ (by decide) (by decide)) (HS.out.bw (Bw.alloc HB1.out _)) (by decide)).mono ?_; rw [lex2]; rintro e w2 ⟨r2, rfl, ht2, hb2⟩; have HB2 := hid (Bw.trans (Bw.alloc (Bw.refl w1) _) hb2); obtain ⟨a2, c2, e2⟩ := ht2.form; subst e2; clear ht2 hb2))
  go_upto_region 4 with (first
    | (go_at_call 10; refine (xLex_any _ [34, 97, 92, 120, 52, 49, 34] _ (by_alloc w2 [34, 97, 92, 120, 52, 49, 34] _ (by decide) (by decide)) (HS.out.bw (Bw.alloc (HB1.out.trans HB2.out) _)) (by decide)).mono ?_; rw [lex3]; rintro e w3 ⟨r3, rfl, ht3, hb3⟩; have HB3 := hid (Bw.trans (Bw.alloc (Bw.refl w2) _) hb3); obtain ⟨g3, cp3, e3, H3⟩ := tk3 ht3; subst e3; clear ht3 hb3))
  have c1 : w3.cell? ⟨g1, 5, none⟩ = some (.string ⟨#[60, 61]⟩) := (cell_bw (HB2.out.trans HB3.out) H1.out.1).trans H1.out.2.1
  have c2 : w3.cell? ⟨g1, 15, none⟩ = some (.int .i64 4) := (cell_bw (HB2.out.trans HB3.out) H1.out.1).trans H1.out.2.2
  have c3 : w3.cell? ⟨g3, 1, none⟩ = some (.string ⟨#[97, 65]⟩) := H3.out.2
  clear hcv
  go_wp2_with (first
    | (go_at_call 13; refine (num_any _ _).mono ?_; rintro e w' ⟨rfl, hw'⟩; subst w')
    | (go_at_call 14; refine (xWord_1 _).mono ?_; rintro e w' ⟨rfl, hw'⟩; subst w')
    | (go_at_call 16; refine (name_fm _).mono ?_; rintro e w' ⟨rfl, hw'⟩; subst w'))
  all_goals go_ret
  all_goals exact ⟨rfl, HB1.out.trans (HB2.out.trans HB3.out)⟩

end Go.Proofs.YtkeijgafmbdnlaaDoor
