/- The shower's calls, while there is room: an array's entries, what stands about them, an object that one is within. -/
import Derived.Test.YtimidonagbfjcaaGreatDoorK8
set_option linter.unusedSimpArgs false
set_option linter.unusedVariables false
namespace Go.Proofs.YtimidonagbfjcaaGreatDoor
open Go Go.RowKit

/-- What the program puts between two. -/
def btS (i : Int) : ByteArray := if i = 0 then ⟨#[]⟩ else ⟨#[44, 32]⟩

theorem btS_any (i : Int) (w : World) : Calls Tryz.prog 79 #[.int .i64 i] w fun e w' => e = .returned (.string (btS i)) ∧ w' = w := between_any i w

theorem btw_cells (k : Nat) : Lib.strCells (btS k) = btw k := by
  unfold btw btS
  by_cases h : k = 0
  · subst h; rfl
  · rw [if_neg (by omega), if_neg h]; rfl

set_option maxRecDepth 100000 in
set_option maxHeartbeats 8000000 in
theorem parts_arr {b0 : Nat} {H : AHeap} {bs : List Nat} {sb mb bt base : Nat} {W : List Int} {xs t : List Value} (v : Int) (hU : U v) (w : World) (h : SI w b0 H bs sb mb bt base W xs)
    (hk : kk H v = 2) (hr : xs.length + t.length + 2 ≤ 65536)
    (he : ∀ w1, St mb bt base w w1 → SI w1 b0 H bs sb mb bt base W (xs ++ [.int .u8 91]) → Calls Tryz.prog 71 #[.pointer (some ⟨sb, 0, none⟩), .int .u64 v] w1 fun e w2 => e = .returned (.bool true) ∧ SI w2 b0 H bs sb mb bt base W (xs ++ [.int .u8 91] ++ t) ∧ St mb bt base w1 w2) :
    Calls Tryz.prog 62 #[.pointer (some ⟨sb, 0, none⟩), .int .u64 v] w fun e w' => e = .returned (.bool true) ∧ SI w' b0 H bs sb mb bt base W (xs ++ ([.int .u8 91] ++ t ++ [.int .u8 93])) ∧ St mb bt base w w' := by
  have HI := hid h
  have HU := hid hU
  have HE := hid he
  have z0 := h.c0
  have z2 := h.c2
  have hlen := hid hr
  clear h he hU hr
  go_enter Tryz.func62, Tryz.ntmps62
  go_wp2_with (first
    | (go_at_call 31; refine (kind_hs4 _ HU.out _ HI.out.hs).mono ?_; rintro e w' ⟨rfl, hw'⟩; subst w'; rw [hk])
    | (go_at_call_of 26 (Value.string ⟨#[91]⟩); refine (put_si ⟨#[91]⟩ HI.out (by have := hlen.out; show xs.length + 1 ≤ 65536; omega)).mono ?_; rintro e w1 ⟨rfl, hi1, hs1⟩; have y0 := hi1.c0; have y2 := hi1.c2; have HI1 := hid hi1; have HT1 := hid hs1; clear hi1 hs1)
    | (go_at_call 71; refine (HE.out _ HT1.out HI1.out).mono ?_; rintro e w2 ⟨rfl, hi2, hs2⟩; have yy0 := hi2.c0; have yy2 := hi2.c2; have HI2 := hid hi2; have HT2 := hid hs2; clear hi2 hs2)
    | (go_at_call_of 26 (Value.string ⟨#[93]⟩); refine (put_si ⟨#[93]⟩ HI2.out (by have := hlen.out; simp only [List.length_append, List.length_cons, List.length_nil]; show xs.length + 1 + t.length + 1 ≤ 65536; omega)).mono ?_; rintro e w3 ⟨rfl, hi3, hs3⟩; have HI3 := hid hi3; have HT3 := hid hs3; clear hi3 hs3)
    | fail)
  all_goals go_ret
  all_goals exact ⟨rfl, by simpa [List.append_assoc, show Lib.strCells ⟨#[93]⟩ = [.int .u8 93] from rfl] using HI3.out, (HT1.out.trans HT2.out).trans HT3.out⟩

set_option maxRecDepth 100000 in
set_option maxHeartbeats 8000000 in
theorem entries_any {b0 : Nat} {H : AHeap} {bs : List Nat} {sb mb bt base : Nat} {W : List Int} {xs : List Value} (f : Int → Option (List Value)) (v : Int) (hU : U v) (w : World) (h : SI w b0 H bs sb mb bt base W xs)
    (hk : kk H v = 2) (T : List Value) (hT : lks f 0 (ob H v).vals = some T) (hr : xs.length + T.length ≤ 65536)
    (hf : ∀ x t, f x = some t → U x → ∀ w1 ys, St mb bt base w w1 → SI w1 b0 H bs sb mb bt base W ys → ys.length + t.length ≤ 65536 → Calls Tryz.prog 27 #[.pointer (some ⟨sb, 0, none⟩), .int .u64 x] w1 fun e w2 => e = .returned (.bool true) ∧ SI w2 b0 H bs sb mb bt base W (ys ++ t) ∧ St mb bt base w1 w2) :
    Calls Tryz.prog 71 #[.pointer (some ⟨sb, 0, none⟩), .int .u64 v] w fun e w' => e = .returned (.bool true) ∧ SI w' b0 H bs sb mb bt base W (xs ++ T) ∧ St mb bt base w w' := by
  have hoo := ob_ok (v := v) h.hs.ok hU (kk_ref (by omega)).2.1
  have HOV := hid hoo.2.2.2.1
  have hvl : (ob H v).vals.length ≤ 1000000 := hoo.2.2.2.2.2.2.1
  have HI := hid h
  have HU := hid hU
  have HK := hid hk
  have HF := hid hf
  have HTT := hid hT
  have HR := hid hr
  have z0 := h.c0
  clear h hf hU hT hoo hk hr
  generalize hvs : (ob H v).vals = l at HOV hvl HTT
  go_enter Tryz.func71, Tryz.ntmps71
  go_wp2_with (first
    | (go_at_call 57; refine (len_list _ HU.out _ HI.out.hs (.inl HK.out)).mono ?_; rw [hvs]; rintro e w1 ⟨rfl, hl1⟩; have hi1 := HI.out.bw hl1.bw; have y0 := hi1.c0; have HI1 := hid hi1; have HT1 := hid (HI.out.st hl1.bw); clear hl1 hi1)
    | fail)
  go_loopw [20] (fun j wr => ∃ (k : Nat) (A B : List Value), k ≤ l.length ∧ j = .int .i64 k ∧ lks f k (l.drop k) = some B ∧ A ++ B = T ∧ SI wr b0 H bs sb mb bt base W (xs ++ A) ∧ St mb bt base w wr) (fun j _ => l.length - (intOf j).toNat)
  case atStart => exact ⟨0, [], T, Nat.zero_le _, rfl, by simpa using HTT.out, rfl, by simpa using HI1.out, HT1.out⟩
  case round =>
    obtain ⟨k, A, B, hkl, rfl, hB, hAB, hi, hst⟩ := hrel
    have HIr := hid hi
    have HTr := hid hst
    have HAB := hid hAB
    by_cases hlt : k < l.length
    · have hd : l.drop k = l[k] :: l.drop (k + 1) := List.drop_eq_getElem_cons hlt
      rw [hd, lks] at hB
      have HUx := hid (HOV.out _ (List.getElem_mem hlt))
      have hgd : l.getD k 0 = l[k] := by simp [hlt]
      generalize l[k] = x at hB HUx hgd
      cases hfx : f x with
      | none => rw [hfx] at hB; simp at hB
      | some a =>
        cases hls : lks f (k + 1) (l.drop (k + 1)) with
        | none => rw [hfx, hls] at hB; simp at hB
        | some b =>
          rw [hfx, hls] at hB
          simp only [Option.some.injEq] at hB
          have HLS := hid hls
          have HFX := hid hfx
          have HL : Hid ((xs ++ A).length + (btw k).length ≤ 65536 ∧ (xs ++ A ++ btw k).length + a.length ≤ 65536) := by
            have h1 := HR.out
            rw [← HAB.out, ← hB] at h1
            simp only [List.length_append] at h1 ⊢
            exact ⟨by omega, by omega⟩
          have HB := hid hB
          have c0 := hi.c0
          have c2 := hi.c2
          have hb1 : (0 : Int) ≤ (k : Int) := by omega
          have hb2 : (k : Int) < (l.length : Int) := by omega
          clear hfx hls hB hd hi hst hAB
          go_wp2_with (first
            | (go_at_call 73; refine (at_arr _ _ HU.out _ HIr.out.hs (.inl HK.out) (by rw [hvs]; omega)).mono ?_; rw [hvs, show (k : Int).toNat = k from rfl, hgd]; rintro e w1 ⟨rfl, hl1⟩; have hi2 := HIr.out.bw hl1.bw; have y0 := hi2.c0; have y2 := hi2.c2; have HI2 := hid hi2; have HT2 := hid (HTr.out.trans (HIr.out.st hl1.bw)); clear hl1 hi2)
            | fail)
          go_region_held3 (fun w' => w'.cell? ⟨sb, 2, none⟩ = some (.func (.func 26) #[] #[.pointer (some ⟨bt, 0, none⟩)])) (first | (simp [go_sem, *]; done) | exact yyy2 | exact yy2 | exact y2)
            (first
              | (go_at_call 79; refine (btS_any _ _).mono ?_; rintro e w' ⟨rfl, hw'⟩; subst w')
              | (go_at_call 26; refine (put_si (btS k) (HI2.out.bw (by repeat (first | exact Bw.refl _ | apply Bw.drew))) (by have := HL.out.1; rw [← btw_cells k, Lib.strCells_length] at this; exact this)).mono ?_; rw [btw_cells]; rintro e w3 ⟨rfl, hi3, hst3⟩; have yy2 := hi3.c2; have HI3 := hid hi3; have HT3 := hid (HT2.out.trans ((HI2.out.st (by repeat (first | exact Bw.refl _ | apply Bw.drew))).trans hst3)); clear hi3 hst3)
              | (go_at_call 27; refine (HF.out _ _ HFX.out HUx.out _ _ (HT3.out.trans (HI3.out.st (by repeat (first | exact Bw.refl _ | apply Bw.drew)))) (HI3.out.bw (by repeat (first | exact Bw.refl _ | apply Bw.drew))) HL.out.2).mono ?_; rintro e w4 ⟨rfl, hi4, hst4⟩; have yyy2 := hi4.c2; have HI4 := hid hi4; have HT4 := hid (HT3.out.trans ((HI3.out.st (by repeat (first | exact Bw.refl _ | apply Bw.drew))).trans hst4)); clear hi4 hst4)
              | fail)
          go_wp2
          go_roundw
          case rel => exact ⟨k + 1, A ++ (btw k ++ a), b, by omega, by go_num, HLS.out, by rw [← HAB.out, ← HB.out]; simp [List.append_assoc], by simpa [List.append_assoc] using HI4.out, HT4.out⟩
          case measure => simp [intOf]; omega
    · have hk0 : k = l.length := by omega
      subst hk0
      rw [List.drop_length, lks] at hB
      simp only [Option.some.injEq] at hB
      subst hB
      have hA : A = T := by simpa using hAB
      subst hA
      clear hi hst hAB
      go_wp2
      all_goals go_ret
      all_goals exact ⟨rfl, HIr.out, HTr.out⟩

end Go.Proofs.YtimidonagbfjcaaGreatDoor

