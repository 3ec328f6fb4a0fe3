/- live: the contract. -/
import Derived.Test.YtaeifhfhahcoiaaPj
set_option linter.unusedSimpArgs false
set_option linter.unusedVariables false
namespace Go.Proofs.Ytaeifhfhahcoiaa
open Go Go.RowKit

theorem ints_eq (l : List Nat) : ints l = (l.map (fun (i : Nat) => (i : Int))).map (Value.int .i64) := by simp [ints]

theorem addE_0 : addE 2 1 [] 0 [(0, 20)] = 0 := by
  have h1 : nms 1 [(0, 20)] = true := nms_one 1 0 20 (by decide) (by decide)
  have h2 : oneOf 0 2 = true := by decide
  simp [addE, h1, h2, all, idx, cnt]
theorem addL_0 : addL 2 1 [] 0 [(0, 20)] = [⟨0, [(0, 20)], true⟩] := by unfold addL; rw [addE_0]; rfl
theorem wrote_0 : all (hit 0 20) [⟨0, [(0, 20)], true⟩] = [] ∧ wroteL 0 20 [⟨0, [(0, 20)], true⟩] = [⟨0, [(0, 20)], true⟩] := by constructor <;> rfl
theorem wrote_1 : all (hit 0 24) [⟨0, [(0, 20)], true⟩] = [0] ∧ wroteL 0 24 [⟨0, [(0, 20)], true⟩] = [⟨0, [(0, 20)], false⟩] := by constructor <;> rfl
theorem addE_1 : addE 2 1 [⟨0, [(0, 20)], false⟩] 0 [] = 0 := by
  have h1 : nms 1 [] = true := nms_nil 1
  have h2 : oneOf 0 2 = true := by decide
  simp [addE, h1, h2, all, idx, cnt, vof, aof]
theorem addL_1 : addL 2 1 [⟨0, [(0, 20)], false⟩] 0 [] = [⟨0, [(0, 20)], false⟩, ⟨0, [], true⟩] := by unfold addL; rw [addE_1]; rfl

theorem own_ex {w w' : World} {bs : List Nat} {base : Nat} {e : TypeId} {size : Nat} {v : Value} {n : Nat} {xs : List Value} (h : w.ownsRow base e size v n xs) (k : Ex bs w w') (hb : ∀ b ∈ bs, b < base) : w'.ownsRow base e size v n xs :=
  own_keep h (fun b hv => k.block b (h.lt b hv).2 (fun hm => by have := (h.lt b hv).1; have := hb b hm; omega))

theorem map_len {L : List (VV × Value)} {K : List VV} (h : L.map Prod.fst = K) : L.length = K.length := by rw [← h]; simp

set_option maxRecDepth 100000 in
set_option maxHeartbeats 2000000 in
theorem live_any (w : World) : Calls Try.prog 9 #[] w fun e w' => e = .returned (.bool true) ∧ Bw w w' := by
  have hN := fun w => New_yes 2 1 w (by decide) (by decide) (by decide)
  go_enter Try.func9, Try.ntmps9
  go_wp2_with (first
    | (go_at_call 10; refine (hN _).mono ?_; rintro e w1 ⟨p, rfl, hp1, hb1, b1⟩; have HP1 := hid hp1; have HB1 := hid hb1; have hbs := hid b1; clear hp1 hb1 b1)
    | (go_at_call 12; refine (num_any _ _).mono ?_; rintro e w9 ⟨rfl, hw9⟩; subst w9)
    | (go_at_call 16; (fail_if_success (have _g := m1)); have m1 := hid trivial; refine (Add_any (HP1.out.bw (Bw.alloc (Bw.refl _) _)) (by decide) 0 [(0, 20)] (sl_new w1 (fun _ => True) [.int .i64 0, .int .u64 20] 61 1 2 rfl trivial) (by decide) (by decide)).mono ?_; rintro e w2 ⟨bs2, rv2, L2, he, hd2, hn2, hl2⟩; have he2 : e = .returned (.tuple #[.int .i64 0, .int .i64 0]) := (by rw [he]; simp [addE_0]); subst he2; clear he; have HP2 := hid hd2; have HN2 := hid hn2; have HL2 := hid (show L2.map Prod.fst = [⟨0, [(0, 20)], true⟩] from (by rw [hl2]; exact addL_0)); clear hd2 hn2 hl2)
    | (go_at_call 17; (fail_if_success (have _g := m2)); have m2 := hid trivial; refine (Wrote_yes HP2.out 0 20 (by decide)).mono ?_; rintro e w3 ⟨r, L3, rfl, ho3, hd3, hn3, hl3⟩; have e3 := ho3; rw [HL2.out, wrote_0.1] at e3; obtain ⟨ar, cr, e⟩ := own_form e3; simp only [List.length_nil] at e; subst e; have HP3 := hid hd3; have HN3 := hid (HN2.out.trans hn3); have HL3 := hid (show L3.map Prod.fst = [⟨0, [(0, 20)], true⟩] from (by rw [hl3, HL2.out]; exact wrote_0.2)); clear hd3 hn3 hl3 ho3 e3)
    | (go_at_call 15; (fail_if_success (have _g := m3)); have m3 := hid trivial; refine (Valid_any HP3.out 0).mono ?_; rw [HL3.out]; rintro e w9 ⟨rfl, hw9⟩; subst w9)
    | (go_at_call 17; (fail_if_success (have _g := m4)); have m4 := hid trivial; refine (Wrote_yes HP3.out 0 24 (by decide)).mono ?_; rintro e w4 ⟨r, L4, rfl, ho4, hd4, hn4, hl4⟩; have e4 := ho4; rw [HL3.out, wrote_1.1] at e4; obtain ⟨ar4, cr4, e⟩ := own_form e4; simp only [List.length_cons, List.length_nil] at e; subst e; have HO4 := hid e4; have HP4 := hid hd4; have HN4 := hid (HN3.out.trans hn4); have HL4 := hid (show L4.map Prod.fst = [⟨0, [(0, 20)], false⟩] from (by rw [hl4, HL3.out]; exact wrote_1.2)); clear hd4 hn4 hl4 ho4 e4)
    | (go_at_call 16; have _g := m4; clear _g; refine (Add_any HP4.out (by decide) 0 (a := none) (c := 0) [] (Sl.nil _ (fun _ => True) 2) (by decide) (by have := map_len HL4.out; simp at this; omega)).mono ?_; rintro e w5 ⟨bs5, rv5, L5, he, hd5, hn5, hl5⟩; have he5 : e = .returned (.tuple #[.int .i64 1, .int .i64 0]) := (by rw [he, HL4.out, addE_1]; have := map_len HL4.out; simp at this; simp [this]); subst he5; clear he; have HP5 := hid hd5; have HN5 := hid (HN4.out.trans hn5); have HL5 := hid (show L5.map Prod.fst = [⟨0, [(0, 20)], false⟩, ⟨0, [], true⟩] from (by rw [hl5, HL4.out]; exact addL_1)); have HO5 := hid (own_sl (G := fun _ => True) (own_ex HO4.out hn5.ex (fun b hb => HP3.out.lt b hb)) (fun _ _ => trivial)); have HB5 := hid (Bw.ex (Bw.alloc HB1.out _) HN5.out.ex (fun x hx => by simp at hx; subst hx; exact hbs.out)); clear hd5 hn5 hl5)
    | (go_at_call 23; refine (sameInts_any (G := fun _ => True) (G' := fun _ => True) _ _ [0] (HO5.out.below (Bw.alloc (Bw.refl _) _)) (sl_new w5 _ [.int .i64 0] 3 1 1 rfl trivial) (by decide)).mono ?_; rintro e w6 ⟨rfl, hd6⟩; have HB6 := hid ((Bw.alloc HB5.out _).trans hd6.bw); have HP6 := hid (HP5.out.bw ((Bw.alloc (Bw.refl _) _).trans hd6.bw)); clear hd6)
    | (go_at_call 15; (fail_if_success (have _g := m6)); have m6 := hid trivial; refine (Valid_any HP6.out 0).mono ?_; rw [HL5.out]; rintro e w9 ⟨rfl, hw9⟩; subst w9)
    | (go_at_call 15; have _g := m6; clear _g; refine (Valid_any HP6.out 1).mono ?_; rw [HL5.out]; rintro e w9 ⟨rfl, hw9⟩; subst w9)
    | fail)
  all_goals go_ret
  all_goals exact ⟨rfl, HB6.out⟩

end Go.Proofs.Ytaeifhfhahcoiaa
