/- What a word looks like, where there may be no room: an array's entries, what stands about them; a cell. -/
import Derived.Test.YtimidonagbfjcaaGreatDoorVAk
import Derived.Test.YtimidonagbfjcaaGreatDoorWA
set_option linter.unusedSimpArgs false
set_option linter.unusedVariables false
namespace Go.Proofs.YtimidonagbfjcaaGreatDoor
open Go Go.RowKit

/-- What a row of words looks like, f saying it of one. -/
def txs (f : Int → List Value) : Nat → List Int → List Value
  | _, [] => []
  | i, x :: r => btw i ++ (f x ++ txs f (i + 1) r)

theorem bt_size (k : Int) : (btS k).size ≤ 1000000000 := by
  unfold btS
  split <;> decide

theorem sd_no {b0 : Nat} {H : AHeap} {bs : List Nat} {sb mb bt base : Nat} {W : List Int} {xs t : List Value} {w w' : World} (hf : fits xs t = false) (hst : Sz mb bt base w w') : Sd b0 H bs sb mb bt base W xs t w (.returned (.bool false)) w' :=
  ⟨by rw [hf], hst, fun k => by rw [hf] at k; cases k⟩

theorem sd_yes {b0 : Nat} {H : AHeap} {bs : List Nat} {sb mb bt base : Nat} {W : List Int} {xs t : List Value} {w w' : World} (hf : fits xs t = true) (hst : Sz mb bt base w w') (hi : SI w' b0 H bs sb mb bt base W (xs ++ t)) : Sd b0 H bs sb mb bt base W xs t w (.returned (.bool true)) w' :=
  ⟨by rw [hf], hst, fun _ => hi⟩

set_option maxRecDepth 100000 in
set_option maxHeartbeats 16000000 in
theorem parts_two {b0 : Nat} {H : AHeap} {bs : List Nat} {sb mb bt base : Nat} {W : List Int} {xs t : List Value} (v : Int) (hU : U v) (w : World) (h : SI w b0 H bs sb mb bt base W xs) (hx : xs.length ≤ 65536)
    (hk : kk H v = 2)
    (he : ∀ w1, Sz mb bt base w w1 → SI w1 b0 H bs sb mb bt base W (xs ++ [.int .u8 91]) → (xs ++ [Value.int .u8 91]).length ≤ 65536 → Calls Tryz.prog 71 #[.pointer (some ⟨sb, 0, none⟩), .int .u64 v] w1 (Sd b0 H bs sb mb bt base W (xs ++ [.int .u8 91]) t w1)) :
    Calls Tryz.prog 62 #[.pointer (some ⟨sb, 0, none⟩), .int .u64 v] w (Sd b0 H bs sb mb bt base W xs ([.int .u8 91] ++ (t ++ [.int .u8 93])) w) := by
  have HI := hid h
  have HU := hid hU
  have HE := hid he
  have HX := hid hx
  have z0 := h.c0
  have z2 := h.c2
  clear h he hU hx
  have e91 : Lib.strCells ⟨#[91]⟩ = [.int .u8 91] := rfl
  have e93 : Lib.strCells ⟨#[93]⟩ = [.int .u8 93] := rfl
  have hp1 := hid (fun (w1 : World) (h1 : SI w1 b0 H bs sb mb bt base W xs) => put_two ⟨#[91]⟩ h1 HX.out (by decide))
  rw [e91] at hp1
  cases f1 : fits xs [Value.int .u8 91]
  · have FF := hid (fits_fst (b := t ++ [.int .u8 93]) f1)
    have F1 := hid f1
    clear f1
    go_enter Tryz.func62, Tryz.ntmps62
    go_wp2_with (first
      | (go_at_call 31; refine (kind_hs4 _ HU.out _ HI.out.hs).mono ?_; rintro e w' ⟨rfl, hw'⟩; subst w'; rw [hk])
      | (go_at_call_of 26 (Value.string ⟨#[91]⟩); refine (hp1.out _ HI.out).mono ?_; rintro e w1 ⟨he1, hs1, _⟩; rw [F1.out] at he1; subst he1; have HT1 := hid hs1; clear hs1)
      | fail)
    all_goals go_ret
    all_goals exact sd_no FF.out HT1.out
  · have F1 := hid f1
    have hl1 : (xs ++ [Value.int .u8 91]).length ≤ 65536 := by have := fits_le f1; simpa using this
    have HL1 := hid hl1
    have FA := hid (fits_app (b := t ++ [.int .u8 93]) f1)
    cases f2 : fits (xs ++ [Value.int .u8 91]) t
    · have FF := hid (FA.out.trans (fits_fst f2))
      have F2 := hid f2
      clear f1 f2 hl1
      go_enter Tryz.func62, Tryz.ntmps62
      go_wp2_with (first
        | (go_at_call 31; refine (kind_hs4 _ HU.out _ HI.out.hs).mono ?_; rintro e w' ⟨rfl, hw'⟩; subst w'; rw [hk])
        | (go_at_call_of 26 (Value.string ⟨#[91]⟩); refine (hp1.out _ HI.out).mono ?_; rintro e w1 ⟨he1, hs1, hi1⟩; rw [F1.out] at he1; subst he1; have HI1 := hid (hi1 F1.out); have y0 := HI1.out.c0; have y2 := HI1.out.c2; have HT1 := hid hs1; clear hs1 hi1)
        | (go_at_call 71; refine (HE.out _ HT1.out HI1.out HL1.out).mono ?_; rintro e w2 ⟨he2, hs2, _⟩; rw [F2.out] at he2; subst he2; have HT2 := hid hs2; clear hs2)
        | fail)
      all_goals go_ret
      all_goals exact sd_no FF.out (HT1.out.trans HT2.out)
    · have F2 := hid f2
      have hl2 : (xs ++ [Value.int .u8 91] ++ t).length ≤ 65536 := by have := fits_le f2; simp only [List.length_append, List.length_cons, List.length_nil] at this ⊢; omega
      have HL2 := hid hl2
      obtain ⟨q, hq⟩ : ∃ q, fits (xs ++ [Value.int .u8 91] ++ t) [Value.int .u8 93] = q := ⟨_, rfl⟩
      have FF := hid ((FA.out.trans (fits_app (b := [.int .u8 93]) f2)).trans hq)
      have hp2 : Hid (∀ (w1 : World), SI w1 b0 H bs sb mb bt base W (xs ++ [Value.int .u8 91] ++ t) → Calls Tryz.prog 26 #[.string ⟨#[93]⟩, .pointer (some ⟨bt, 0, none⟩)] w1 fun e w' => e = .returned (.bool q) ∧ Sz mb bt base w1 w' ∧ (q = true → SI w' b0 H bs sb mb bt base W (xs ++ [Value.int .u8 91] ++ t ++ [Value.int .u8 93]))) := fun w1 h1 => by
        have h2 := put_two ⟨#[93]⟩ h1 HL2.out (by decide)
        unfold Sd at h2
        rw [e93, hq] at h2
        exact h2
      clear hq
      clear f1 f2 hl1 hl2
      go_enter Tryz.func62, Tryz.ntmps62
      go_wp2_with (first
        | (go_at_call 31; refine (kind_hs4 _ HU.out _ HI.out.hs).mono ?_; rintro e w' ⟨rfl, hw'⟩; subst w'; rw [hk])
        | (go_at_call_of 26 (Value.string ⟨#[91]⟩); refine (hp1.out _ HI.out).mono ?_; rintro e w1 ⟨he1, hs1, hi1⟩; rw [F1.out] at he1; subst he1; have HI1 := hid (hi1 F1.out); have y0 := HI1.out.c0; have y2 := HI1.out.c2; have HT1 := hid hs1; clear hs1 hi1)
        | (go_at_call 71; refine (HE.out _ HT1.out HI1.out HL1.out).mono ?_; rintro e w2 ⟨he2, hs2, hi2⟩; rw [F2.out] at he2; subst he2; have HI2 := hid (hi2 F2.out); have yy0 := HI2.out.c0; have yy2 := HI2.out.c2; have HT2 := hid hs2; clear hs2 hi2)
        | (go_at_call_of 26 (Value.string ⟨#[93]⟩); refine (hp2.out _ HI2.out).mono ?_; rintro e w3 ⟨he3, hs3, hi3⟩; subst he3; have HI3 := hid hi3; have HT3 := hid hs3; clear hs3 hi3)
        | fail)
      all_goals go_ret
      all_goals exact ⟨ret_bool FF.out.symm, (HT1.out.trans HT2.out).trans HT3.out, fun k => by have k' := FF.out.symm.trans k; simpa [List.append_assoc] using HI3.out k'⟩

set_option maxRecDepth 100000 in
set_option maxHeartbeats 16000000 in
theorem entries_two {b0 : Nat} {H : AHeap} {bs : List Nat} {sb mb bt base : Nat} {W : List Int} {xs : List Value} (f : Int → List Value) (v : Int) (hU : U v) (w : World) (h : SI w b0 H bs sb mb bt base W xs) (hx : xs.length ≤ 65536)
    (hk : kk H v = 2)
    (hf : ∀ x, x ∈ (ob H v).vals → U x → ∀ w1 ys, Sz mb bt base w w1 → SI w1 b0 H bs sb mb bt base W ys → ys.length ≤ 65536 → Calls Tryz.prog 27 #[.pointer (some ⟨sb, 0, none⟩), .int .u64 x] w1 (Sd b0 H bs sb mb bt base W ys (f x) w1)) :
    Calls Tryz.prog 71 #[.pointer (some ⟨sb, 0, none⟩), .int .u64 v] w (Sd b0 H bs sb mb bt base W xs (txs f 0 (ob H v).vals) w) := by
  have hoo := ob_ok (v := v) h.hs.ok hU (kk_ref (by omega)).2.1
  have HOV := hid hoo.2.2.2.1
  have hvl : (ob H v).vals.length ≤ 1000000 := hoo.2.2.2.2.2.2.1
  have HI := hid h
  have HU := hid hU
  have HK := hid hk
  have HF := hid hf
  have HX := hid hx
  have z0 := h.c0
  clear h hf hU hoo hk hx
  generalize hvs : (ob H v).vals = l at HOV hvl HF ⊢
  go_enter Tryz.func71, Tryz.ntmps71
  go_wp2_with (first
    | (go_at_call 57; refine (len_list _ HU.out _ HI.out.hs (.inl HK.out)).mono ?_; rw [hvs]; rintro e w1 ⟨rfl, hl1⟩; have hi1 := HI.out.bw hl1.bw; have y0 := hi1.c0; have HI1 := hid hi1; have HT1 := hid (HI.out.sz hl1.bw); clear hl1 hi1)
    | fail)
  go_loopw [20] (fun j wr => ∃ (k : Nat) (A : List Value), k ≤ l.length ∧ j = .int .i64 k ∧ A ++ txs f k (l.drop k) = txs f 0 l ∧ (xs ++ A).length ≤ 65536 ∧ SI wr b0 H bs sb mb bt base W (xs ++ A) ∧ Sz mb bt base w wr) (fun j _ => l.length - (intOf j).toNat)
  case atStart => exact ⟨0, [], Nat.zero_le _, rfl, by simp, by simpa using HX.out, by simpa using HI1.out, HT1.out⟩
  case round =>
    obtain ⟨k, A, hkl, rfl, hAB, hxa, hi, hst⟩ := hrel
    have HIr := hid hi
    have HTr := hid hst
    have HXA := hid hxa
    by_cases hlt : k < l.length
    · have hd : l.drop k = l[k] :: l.drop (k + 1) := List.drop_eq_getElem_cons hlt
      rw [hd, txs] at hAB
      have HAB := hid hAB
      have HUx := hid (HOV.out _ (List.getElem_mem hlt))
      have HMx := hid (List.getElem_mem hlt)
      have hgd : l.getD k 0 = l[k] := by simp [hlt]
      generalize l[k] = x at HAB HUx hgd HMx
      have c0 := hi.c0
      have c2 := hi.c2
      have hb1 : (0 : Int) ≤ (k : Int) := by omega
      have hb2 : (k : Int) < (l.length : Int) := by omega
      have hpb := hid (fun (w1 : World) (h1 : SI w1 b0 H bs sb mb bt base W (xs ++ A)) => put_two (btS k) h1 HXA.out (bt_size k))
      rw [btw_cells] at hpb
      have HWA : Hid (∀ B C, A ++ B = C → fits xs C = fits (xs ++ A) B) := by
        intro B C e
        subst e
        unfold fits
        simp only [List.length_append, Nat.add_assoc]
      clear hd hi hst hAB hxa
      cases f1 : fits (xs ++ A) (btw k)
      · have FF := hid ((HWA.out _ _ HAB.out).trans (fits_fst f1))
        have F1 := hid f1
        clear f1
        go_wp2_with (first
          | (go_at_call 73; refine (at_arr _ _ HU.out _ HIr.out.hs (.inl HK.out) (by rw [hvs]; omega)).mono ?_; rw [hvs, show (k : Int).toNat = k from rfl, hgd]; rintro e w1 ⟨rfl, hl1⟩; have hi2 := HIr.out.bw hl1.bw; have y0 := hi2.c0; have y2 := hi2.c2; have HI2 := hid hi2; have HT2 := hid (HTr.out.trans (HIr.out.sz hl1.bw)); clear hl1 hi2)
          | fail)
        refine wp_region_W (fun w' => w'.cell? ⟨sb, 2, none⟩ = some (.func (.func 26) #[] #[.pointer (some ⟨bt, 0, none⟩)])) (fun j => if j == 5 || j == 6 then 0 else 1) (by kernel_rfl) ?_
        refine wpAnyW_take (i := 0) (oi := { dst := some 33, op := Op.move (Operand.tmp 0), type := 96, pos := "text.go:100", after := #[], guard := none }) (v := ?_) rfl (by kernel_rfl) (by kernel_rfl) (by kernel_rfl) (by kernel_rfl) (fun _ _ _ h => h) (Or.inl ⟨by rfl, fun w _ => ?_⟩) ?_
        rotate_left
        · (go_simp; first | done | with_reducible rfl)
        try simp only [Act.put, List.setIfInBounds_toArray, List.set_cons_zero, List.set_cons_succ]
        refine wpAnyW_take (i := 1) (oi := { dst := some 34, op := Op.nilCheck (Operand.tmp 33), type := 0, pos := "text.go:100", after := #[{ on := 0, ground := Ground.data }], guard := none }) (v := ?_) rfl (by kernel_rfl) (by kernel_rfl) (by kernel_rfl) (by kernel_rfl) (fun _ _ _ h => h) (Or.inl ⟨by rfl, fun w _ => ?_⟩) ?_
        rotate_left
        · (go_simp; first | done | with_reducible rfl)
        try simp only [Act.put, List.setIfInBounds_toArray, List.set_cons_zero, List.set_cons_succ]
        refine wpAnyW_take (i := 2) (oi := { dst := some 35, op := Op.fieldAddr 72 (Operand.tmp 34) 2, type := 0, pos := "text.go:100", after := #[{ on := 1, ground := Ground.data }], guard := none }) (v := ?_) rfl (by kernel_rfl) (by kernel_rfl) (by kernel_rfl) (by kernel_rfl) (fun _ _ _ h => h) (Or.inl ⟨by rfl, fun w _ => ?_⟩) ?_
        rotate_left
        · (go_simp; first | done | with_reducible rfl)
        try simp only [Act.put, List.setIfInBounds_toArray, List.set_cons_zero, List.set_cons_succ]
        refine wpAnyW_load (i := 3) (oi := { dst := some 36, op := Op.load 69 (Operand.tmp 35), type := 69, pos := "text.go:100", after := #[{ on := 2, ground := Ground.data }], guard := none }) (v := ?_) rfl (by kernel_rfl) (by kernel_rfl) (by kernel_rfl) (by kernel_rfl) (by kernel_rfl) (fun _ _ _ h => h) (Or.inl ⟨by rfl, fun w hS => ?_⟩) y2 ?_
        rotate_left
        · (skip; go_simp; first | done | with_reducible rfl)
        try simp only [Act.put, List.setIfInBounds_toArray, List.set_cons_zero, List.set_cons_succ]
        refine wpAnyW_take (i := 4) (oi := { dst := some 37, op := Op.move (Operand.tmp 7), type := 3, pos := "text.go:100", after := #[], guard := none }) (v := ?_) rfl (by kernel_rfl) (by kernel_rfl) (by kernel_rfl) (by kernel_rfl) (fun _ _ _ h => h) (Or.inl ⟨by rfl, fun w _ => ?_⟩) ?_
        rotate_left
        · (go_simp; first | done | with_reducible rfl)
        try simp only [Act.put, List.setIfInBounds_toArray, List.set_cons_zero, List.set_cons_succ]
        refine wpAnyW_ready (rs := [5]) (by kernel_rfl) (by simp) ?_
        refine (AllReadyW.cons (o := { dst := some 38, op := Op.call { callee := Callee.value (Operand.func 79), args := #[Operand.tmp 37], argTypes := #[3] }, type := 9, pos := "text.go:100", after := #[{ on := 4, ground := Ground.data }], guard := none }) rfl (fun K hK => ?_) AllReadyW.nil)
        go_simp
        refine (btS_any _ _).mono ?_
        rintro e w' ⟨rfl, hw'⟩
        subst w'
        refine hK.out _ _ y2 ?_
        clear hK K
        try simp only [Act.put, List.setIfInBounds_toArray, List.set_cons_zero, List.set_cons_succ]
        refine wpAnyW_ready (rs := [6]) (by kernel_rfl) (by simp) ?_
        refine (AllReadyW.cons (o := { dst := some 39, op := Op.call { callee := Callee.value (Operand.tmp 36), args := #[Operand.tmp 38], argTypes := #[9] }, type := 4, pos := "text.go:100", after := #[{ on := 3, ground := Ground.data }, { on := 5, ground := Ground.data }, { on := 5, ground := Ground.chain }], guard := none }) rfl (fun K hK => ?_) AllReadyW.nil)
        go_simp
        refine (hpb.out _ (HI2.out.bw (by repeat (first | exact Bw.refl _ | apply Bw.drew)))).mono ?_
        rintro e w3 ⟨he3, hst3, _⟩
        rw [F1.out] at he3
        subst he3
        obtain ⟨_, _, yy2⟩ := HI2.out.cs ((HI2.out.sz (by repeat (first | exact Bw.refl _ | apply Bw.drew))).trans hst3)
        have HT3 := hid (HT2.out.trans ((HI2.out.sz (by repeat (first | exact Bw.refl _ | apply Bw.drew))).trans hst3))
        clear hst3
        refine hK.out _ _ yy2 ?_
        clear hK K
        try simp only [Act.put, List.setIfInBounds_toArray, List.set_cons_zero, List.set_cons_succ]
        refine wpAnyW_take (i := 7) (oi := { dst := some 40, op := Op.unOp UnOp.not 4 (Operand.tmp 39), type := 4, pos := "text.go:100", after := #[{ on := 6, ground := Ground.data }], guard := none }) (v := ?_) rfl (by kernel_rfl) (by kernel_rfl) (by kernel_rfl) (by kernel_rfl) (fun _ _ _ h => h) (Or.inl ⟨by rfl, fun w _ => ?_⟩) ?_
        rotate_left
        · (go_simp; first | done | with_reducible rfl)
        try simp only [Act.put, List.setIfInBounds_toArray, List.set_cons_zero, List.set_cons_succ]
        refine wpAnyW_take (i := 8) (oi := { dst := some 41, op := Op.move (Operand.tmp 40), type := 4, pos := "text.go:100", after := #[{ on := 7, ground := Ground.data }, { on := 6, ground := Ground.chain }], guard := none }) (v := ?_) rfl (by kernel_rfl) (by kernel_rfl) (by kernel_rfl) (by kernel_rfl) (fun _ _ _ h => h) (Or.inl ⟨by rfl, fun w _ => ?_⟩) ?_
        rotate_left
        · (go_simp; first | done | with_reducible rfl)
        try simp only [Act.put, List.setIfInBounds_toArray, List.set_cons_zero, List.set_cons_succ]
        refine wpAnyW_take (i := 9) (oi := { dst := some 42, op := Op.move (Operand.tmp 0), type := 96, pos := "text.go:100", after := #[{ on := 8, ground := Ground.guard }], guard := some (8, false) }) (v := undef) rfl (by kernel_rfl) (by kernel_rfl) (by kernel_rfl) (by kernel_rfl) (fun _ _ _ h => h) (Or.inr ⟨by rfl, rfl⟩) ?_
        try simp only [Act.put, List.setIfInBounds_toArray, List.set_cons_zero, List.set_cons_succ]
        refine wpAnyW_take (i := 10) (oi := { dst := some 43, op := Op.move (Operand.tmp 8), type := 27, pos := "text.go:100", after := #[{ on := 8, ground := Ground.guard }], guard := some (8, false) }) (v := undef) rfl (by kernel_rfl) (by kernel_rfl) (by kernel_rfl) (by kernel_rfl) (fun _ _ _ h => h) (Or.inr ⟨by rfl, rfl⟩) ?_
        try simp only [Act.put, List.setIfInBounds_toArray, List.set_cons_zero, List.set_cons_succ]
        refine wpAnyW_take (i := 11) (oi := { dst := some 44, op := Op.call { callee := Callee.value (Operand.func 27), args := #[Operand.tmp 42, Operand.tmp 43], argTypes := #[96, 27] }, type := 4, pos := "text.go:100", after := #[{ on := 9, ground := Ground.data }, { on := 10, ground := Ground.data }, { on := 8, ground := Ground.chain }, { on := 8, ground := Ground.guard }], guard := some (8, false) }) (v := undef) rfl (by kernel_rfl) (by kernel_rfl) (by kernel_rfl) (by kernel_rfl) (fun _ _ _ h => h) (Or.inr ⟨by rfl, rfl⟩) ?_
        try simp only [Act.put, List.setIfInBounds_toArray, List.set_cons_zero, List.set_cons_succ]
        refine wpAnyW_take (i := 12) (oi := { dst := some 45, op := Op.unOp UnOp.not 4 (Operand.tmp 44), type := 4, pos := "text.go:100", after := #[{ on := 11, ground := Ground.data }, { on := 8, ground := Ground.guard }], guard := some (8, false) }) (v := undef) rfl (by kernel_rfl) (by kernel_rfl) (by kernel_rfl) (by kernel_rfl) (fun _ _ _ h => h) (Or.inr ⟨by rfl, rfl⟩) ?_
        try simp only [Act.put, List.setIfInBounds_toArray, List.set_cons_zero, List.set_cons_succ]
        refine wpAnyW_take (i := 13) (oi := { dst := some 46, op := Op.pick (Operand.tmp 41) (Operand.const (Value.bool true)) (Operand.tmp 45), type := 4, pos := "text.go:100", after := #[{ on := 8, ground := Ground.data }, { on := 12, ground := Ground.data }], guard := none }) (v := ?_) rfl (by kernel_rfl) (by kernel_rfl) (by kernel_rfl) (by kernel_rfl) (fun _ _ _ h => h) (Or.inl ⟨by rfl, fun w _ => ?_⟩) ?_
        rotate_left
        · (go_simp; first | done | with_reducible rfl)
        try simp only [Act.put, List.setIfInBounds_toArray, List.set_cons_zero, List.set_cons_succ]
        refine wpAnyW_done (by kernel_rfl) ?_ _
        go_wp2
        all_goals go_ret
        all_goals exact sd_no FF.out HT3.out
      · have F1 := hid f1
        have HL1 : Hid ((xs ++ A ++ btw k).length ≤ 65536) := (by have := fits_le f1; show (xs ++ A ++ btw k).length ≤ 65536; rw [List.length_append]; exact this)
        have FA := hid ((HWA.out _ _ HAB.out).trans (fits_app f1))
        cases f2 : fits (xs ++ A ++ btw k) (f x)
        · have FF := hid (FA.out.trans (fits_fst f2))
          have F2 := hid f2
          clear f1 f2
          go_wp2_with (first
            | (go_at_call 73; refine (at_arr _ _ HU.out _ HIr.out.hs (.inl HK.out) (by rw [hvs]; omega)).mono ?_; rw [hvs, show (k : Int).toNat = k from rfl, hgd]; rintro e w1 ⟨rfl, hl1⟩; have hi2 := HIr.out.bw hl1.bw; have y0 := hi2.c0; have y2 := hi2.c2; have HI2 := hid hi2; have HT2 := hid (HTr.out.trans (HIr.out.sz hl1.bw)); clear hl1 hi2)
            | fail)
          go_region_held3 (fun w' => w'.cell? ⟨sb, 2, none⟩ = some (.func (.func 26) #[] #[.pointer (some ⟨bt, 0, none⟩)])) (first | (simp [go_sem, *]; done) | exact yyy2 | exact yy2 | exact y2)
            (first
              | (go_at_call 79; refine (btS_any _ _).mono ?_; rintro e w' ⟨rfl, hw'⟩; subst w')
              | (go_at_call 26; refine (hpb.out _ (HI2.out.bw (by repeat (first | exact Bw.refl _ | apply Bw.drew)))).mono ?_; rintro e w3 ⟨he3, hst3, hi3⟩; rw [F1.out] at he3; subst he3; have HI3 := hid (hi3 F1.out); have yy2 := HI3.out.c2; have HT3 := hid (HT2.out.trans ((HI2.out.sz (by repeat (first | exact Bw.refl _ | apply Bw.drew))).trans hst3)); clear hst3 hi3)
              | (go_at_call 27; refine (HF.out _ HMx.out HUx.out _ _ (HT3.out.trans (HI3.out.sz (by repeat (first | exact Bw.refl _ | apply Bw.drew)))) (HI3.out.bw (by repeat (first | exact Bw.refl _ | apply Bw.drew))) HL1.out).mono ?_; rintro e w4 ⟨he4, hst4, _⟩; rw [F2.out] at he4; subst he4; obtain ⟨_, _, yyy2⟩ := HI3.out.cs ((HI3.out.sz (by repeat (first | exact Bw.refl _ | apply Bw.drew))).trans hst4); have HT4 := hid (HT3.out.trans ((HI3.out.sz (by repeat (first | exact Bw.refl _ | apply Bw.drew))).trans hst4)); clear hst4)
              | fail)
          go_wp2
          all_goals go_ret
          all_goals exact sd_no FF.out HT4.out
        · have F2 := hid f2
          have HL2 : Hid ((xs ++ (A ++ (btw k ++ f x))).length ≤ 65536) := (by have := fits_le f2; show (xs ++ (A ++ (btw k ++ f x))).length ≤ 65536; simp only [List.length_append] at this ⊢; omega)
          clear f1 f2
          go_wp2_with (first
            | (go_at_call 73; refine (at_arr _ _ HU.out _ HIr.out.hs (.inl HK.out) (by rw [hvs]; omega)).mono ?_; rw [hvs, show (k : Int).toNat = k from rfl, hgd]; rintro e w1 ⟨rfl, hl1⟩; have hi2 := HIr.out.bw hl1.bw; have y0 := hi2.c0; have y2 := hi2.c2; have HI2 := hid hi2; have HT2 := hid (HTr.out.trans (HIr.out.sz hl1.bw)); clear hl1 hi2)
            | fail)
          go_region_held3 (fun w' => w'.cell? ⟨sb, 2, none⟩ = some (.func (.func 26) #[] #[.pointer (some ⟨bt, 0, none⟩)])) (first | (simp [go_sem, *]; done) | exact yyy2 | exact yy2 | exact y2)
            (first
              | (go_at_call 79; refine (btS_any _ _).mono ?_; rintro e w' ⟨rfl, hw'⟩; subst w')
              | (go_at_call 26; refine (hpb.out _ (HI2.out.bw (by repeat (first | exact Bw.refl _ | apply Bw.drew)))).mono ?_; rintro e w3 ⟨he3, hst3, hi3⟩; rw [F1.out] at he3; subst he3; have HI3 := hid (hi3 F1.out); have yy2 := HI3.out.c2; have HT3 := hid (HT2.out.trans ((HI2.out.sz (by repeat (first | exact Bw.refl _ | apply Bw.drew))).trans hst3)); clear hst3 hi3)
              | (go_at_call 27; refine (HF.out _ HMx.out HUx.out _ _ (HT3.out.trans (HI3.out.sz (by repeat (first | exact Bw.refl _ | apply Bw.drew)))) (HI3.out.bw (by repeat (first | exact Bw.refl _ | apply Bw.drew))) HL1.out).mono ?_; rintro e w4 ⟨he4, hst4, hi4⟩; rw [F2.out] at he4; subst he4; have HI4 := hid (hi4 F2.out); have yyy2 := HI4.out.c2; have HT4 := hid (HT3.out.trans ((HI3.out.sz (by repeat (first | exact Bw.refl _ | apply Bw.drew))).trans hst4)); clear hst4 hi4)
              | fail)
          go_wp2
          go_roundw
          case rel => exact ⟨k + 1, A ++ (btw k ++ f x), by omega, by go_num, by rw [← HAB.out]; simp [List.append_assoc], HL2.out, by simpa [List.append_assoc] using HI4.out, HT4.out⟩
          case measure => simp [intOf]; omega
    · have hk0 : k = l.length := by omega
      subst hk0
      rw [List.drop_length, txs, List.append_nil] at hAB
      subst hAB
      have FF : Hid (fits xs (txs f 0 l) = true) := fits_yes (by have := HXA.out; rw [List.length_append] at this; exact this)
      clear hi hst hxa
      go_wp2
      all_goals go_ret
      all_goals exact sd_yes FF.out HTr.out HIr.out

set_option maxRecDepth 100000 in
set_option maxHeartbeats 16000000 in
theorem parts_cell2 {b0 : Nat} {H : AHeap} {bs : List Nat} {sb mb bt base : Nat} {W : List Int} {xs t : List Value} (v : Int) (hU : U v) (w : World) (h : SI w b0 H bs sb mb bt base W xs) (hx : xs.length ≤ 65536)
    (hk : kk H v = 4)
    (he : ∀ w1, Sz mb bt base w w1 → SI w1 b0 H bs sb mb bt base W (xs ++ [.int .u8 38]) → (xs ++ [Value.int .u8 38]).length ≤ 65536 → Calls Tryz.prog 27 #[.pointer (some ⟨sb, 0, none⟩), .int .u64 (aAtV H v 0)] w1 (Sd b0 H bs sb mb bt base W (xs ++ [.int .u8 38]) t w1)) :
    Calls Tryz.prog 62 #[.pointer (some ⟨sb, 0, none⟩), .int .u64 v] w (Sd b0 H bs sb mb bt base W xs ([.int .u8 38] ++ t) w) := by
  have HI := hid h
  have HU := hid hU
  have HE := hid he
  have HX := hid hx
  have z0 := h.c0
  have z2 := h.c2
  clear h he hU hx
  have e38 : Lib.strCells ⟨#[38]⟩ = [.int .u8 38] := rfl
  have hp1 := hid (fun (w1 : World) (h1 : SI w1 b0 H bs sb mb bt base W xs) => put_two ⟨#[38]⟩ h1 HX.out (by decide))
  rw [e38] at hp1
  cases f1 : fits xs [Value.int .u8 38]
  · have FF := hid (fits_fst (b := t) f1)
    have F1 := hid f1
    clear f1
    go_enter Tryz.func62, Tryz.ntmps62
    go_wp2_with (first
      | (go_at_call 31; refine (kind_hs4 _ HU.out _ HI.out.hs).mono ?_; rintro e w' ⟨rfl, hw'⟩; subst w'; rw [hk])
      | (go_at_call 73; refine (at_any _ _ HU.out _ HI.out.hs).mono ?_; rintro e w2 ⟨rfl, hl2⟩; have HI2 := hid (HI.out.bw hl2.bw); have y0 := HI2.out.c0; have y2 := HI2.out.c2; have HT2 := hid (HI.out.sz hl2.bw); clear hl2)
      | (go_at_call_of 26 (Value.string ⟨#[38]⟩); refine (hp1.out _ HI2.out).mono ?_; rintro e w1 ⟨he1, hs1, _⟩; rw [F1.out] at he1; subst he1; have HT1 := hid hs1; clear hs1)
      | fail)
    all_goals go_ret
    all_goals exact sd_no FF.out (HT2.out.trans HT1.out)
  · have F1 := hid f1
    have hl1 : (xs ++ [Value.int .u8 38]).length ≤ 65536 := by have := fits_le f1; simpa using this
    have HL1 := hid hl1
    obtain ⟨q, hq⟩ : ∃ q, fits (xs ++ [Value.int .u8 38]) t = q := ⟨_, rfl⟩
    have FA := hid ((fits_app (b := t) f1).trans hq)
    have HE' : Hid (∀ w1, Sz mb bt base w w1 → SI w1 b0 H bs sb mb bt base W (xs ++ [.int .u8 38]) → Calls Tryz.prog 27 #[.pointer (some ⟨sb, 0, none⟩), .int .u64 (aAtV H v 0)] w1 fun e w' => e = .returned (.bool q) ∧ Sz mb bt base w1 w' ∧ (q = true → SI w' b0 H bs sb mb bt base W (xs ++ [Value.int .u8 38] ++ t))) := fun w1 h1 h2 => by
      have h3 := HE.out w1 h1 h2 HL1.out
      unfold Sd at h3
      rw [hq] at h3
      exact h3
    clear f1 hl1 hq
    go_enter Tryz.func62, Tryz.ntmps62
    go_wp2_with (first
      | (go_at_call 31; refine (kind_hs4 _ HU.out _ HI.out.hs).mono ?_; rintro e w' ⟨rfl, hw'⟩; subst w'; rw [hk])
      | (go_at_call 73; refine (at_any _ _ HU.out _ HI.out.hs).mono ?_; rintro e w2 ⟨rfl, hl2⟩; have HI2 := hid (HI.out.bw hl2.bw); have y0 := HI2.out.c0; have y2 := HI2.out.c2; have HT2 := hid (HI.out.sz hl2.bw); clear hl2)
      | (go_at_call_of 26 (Value.string ⟨#[38]⟩); refine (hp1.out _ HI2.out).mono ?_; rintro e w1 ⟨he1, hs1, hi1⟩; rw [F1.out] at he1; subst he1; have HI1 := hid (hi1 F1.out); have yy0 := HI1.out.c0; have yy2 := HI1.out.c2; have HT1 := hid (HT2.out.trans hs1); clear hs1 hi1)
      | (go_at_call 27; refine (HE'.out _ HT1.out HI1.out).mono ?_; rintro e w3 ⟨he3, hs3, hi3⟩; subst he3; have HI3 := hid hi3; have HT3 := hid hs3; clear hs3 hi3)
      | fail)
    all_goals go_ret
    all_goals exact ⟨ret_bool FA.out.symm, HT1.out.trans HT3.out, fun k => by have k' := FA.out.symm.trans k; simpa [List.append_assoc] using HI3.out k'⟩

end Go.Proofs.YtimidonagbfjcaaGreatDoor

