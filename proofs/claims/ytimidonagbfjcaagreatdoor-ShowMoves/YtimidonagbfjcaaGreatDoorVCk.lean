/- What a word looks like, where there may be no room: a record's fields, what stands about them. -/
import Derived.Test.YtimidonagbfjcaaGreatDoorVBk
set_option linter.unusedSimpArgs false
set_option linter.unusedVariables false
namespace Go.Proofs.YtimidonagbfjcaaGreatDoor
open Go Go.RowKit

theorem field_U {H : AHeap} {v : Int} {s : ByteArray} (hok : HOK H) (hU : U v) (hk : kk H v = 3) : U (aFieldV H v s) := by
  have ho := ob_ok (v := v) hok hU (kk_ref (by omega)).2.1
  have u0 : U 0 := ⟨by decide, by decide⟩
  unfold aFieldV
  rw [if_pos hk]
  split
  · rw [List.getD_eq_getElem?_getD]
    cases h : (ob H v).vals[(aKey (ob H v).keys s).toNat]? with
    | none => exact u0
    | some x => exact ho.2.2.2.1 x (List.mem_of_getElem? h)
  · exact u0

/-- What a row of fields looks like, f saying it of a word. -/
def fxs (f : Int → List Value) : Nat → List (ByteArray × Int) → List Value
  | _, [] => []
  | i, p :: r => btw i ++ (Lib.strCells p.1 ++ ([.int .u8 58, .int .u8 32] ++ (f p.2 ++ fxs f (i + 1) r)))

/-- A record's fields in their order. -/
def flds (H : AHeap) (v : Int) : List (ByteArray × Int) := (ob H v).keys.map fun s => (s, aFieldV H v s)

/-- A row of texts that the call has made. -/
def Kr (lo : Nat) (w : World) (r : Value) (ks : List ByteArray) : Prop := w.ownsRow lo 9 1 r ks.length (ks.map Value.string)

theorem Kr.sz {lo : Nat} {w w' : World} {r : Value} {ks : List ByteArray} {mb bt base : Nat} (h : Kr lo w r ks) (hz : Sz mb bt base w w') (h1 : mb < lo) (h2 : bt < lo) : Kr lo w' r ks := by
  refine own_same h (fun g hg => ?_)
  have hlt := World.ownsRow.lt h g hg
  rcases h.2 with ⟨rfl, _⟩ | ⟨g', cap, cur, rfl, _, hgc, _⟩
  · simp [Value.ownBlock] at hg
  · have e : g' = g := by simpa [Value.ownBlock] using hg
    subst e
    exact hz.keep g' hlt.2 (by omega) (by omega) (fun cur' e => by rw [hgc] at e; simp at e)

set_option maxRecDepth 100000 in
set_option maxHeartbeats 16000000 in
theorem parts_rec2 {b0 : Nat} {H : AHeap} {bs : List Nat} {sb mb bt base : Nat} {W : List Int} {xs t : List Value} (v : Int) (hU : U v) (w : World) (h : SI w b0 H bs sb mb bt base W xs) (hx : xs.length ≤ 65536)
    (hk : kk H v = 3)
    (he : ∀ w1, Sz mb bt base w w1 → SI w1 b0 H bs sb mb bt base W (xs ++ [.int .u8 123]) → (xs ++ [Value.int .u8 123]).length ≤ 65536 → Calls Tryz.prog 72 #[.pointer (some ⟨sb, 0, none⟩), .int .u64 v] w1 (Sd b0 H bs sb mb bt base W (xs ++ [.int .u8 123]) t w1)) :
    Calls Tryz.prog 62 #[.pointer (some ⟨sb, 0, none⟩), .int .u64 v] w (Sd b0 H bs sb mb bt base W xs ([.int .u8 123] ++ (t ++ [.int .u8 125])) w) := by
  have HI := hid h
  have HU := hid hU
  have HE := hid he
  have HX := hid hx
  have z0 := h.c0
  have z2 := h.c2
  clear h he hU hx
  have e91 : Lib.strCells ⟨#[123]⟩ = [.int .u8 123] := rfl
  have e93 : Lib.strCells ⟨#[125]⟩ = [.int .u8 125] := rfl
  have hp1 := hid (fun (w1 : World) (h1 : SI w1 b0 H bs sb mb bt base W xs) => put_two ⟨#[123]⟩ h1 HX.out (by decide))
  rw [e91] at hp1
  cases f1 : fits xs [Value.int .u8 123]
  · have FF := hid (fits_fst (b := t ++ [.int .u8 125]) f1)
    have F1 := hid f1
    clear f1
    go_enter Tryz.func62, Tryz.ntmps62
    go_wp2_with (first
      | (go_at_call 31; refine (kind_hs4 _ HU.out _ HI.out.hs).mono ?_; rintro e w' ⟨rfl, hw'⟩; subst w'; rw [hk])
      | (go_at_call_of 26 (Value.string ⟨#[123]⟩); refine (hp1.out _ HI.out).mono ?_; rintro e w1 ⟨he1, hs1, _⟩; rw [F1.out] at he1; subst he1; have HT1 := hid hs1; clear hs1)
      | fail)
    all_goals go_ret
    all_goals exact sd_no FF.out HT1.out
  · have F1 := hid f1
    have hl1 : (xs ++ [Value.int .u8 123]).length ≤ 65536 := by have := fits_le f1; simpa using this
    have HL1 := hid hl1
    have FA := hid (fits_app (b := t ++ [.int .u8 125]) f1)
    cases f2 : fits (xs ++ [Value.int .u8 123]) t
    · have FF := hid (FA.out.trans (fits_fst f2))
      have F2 := hid f2
      clear f1 f2 hl1
      go_enter Tryz.func62, Tryz.ntmps62
      go_wp2_with (first
        | (go_at_call 31; refine (kind_hs4 _ HU.out _ HI.out.hs).mono ?_; rintro e w' ⟨rfl, hw'⟩; subst w'; rw [hk])
        | (go_at_call_of 26 (Value.string ⟨#[123]⟩); refine (hp1.out _ HI.out).mono ?_; rintro e w1 ⟨he1, hs1, hi1⟩; rw [F1.out] at he1; subst he1; have HI1 := hid (hi1 F1.out); have y0 := HI1.out.c0; have y2 := HI1.out.c2; have HT1 := hid hs1; clear hs1 hi1)
        | (go_at_call 72; refine (HE.out _ HT1.out HI1.out HL1.out).mono ?_; rintro e w2 ⟨he2, hs2, _⟩; rw [F2.out] at he2; subst he2; have HT2 := hid hs2; clear hs2)
        | fail)
      all_goals go_ret
      all_goals exact sd_no FF.out (HT1.out.trans HT2.out)
    · have F2 := hid f2
      have hl2 : (xs ++ [Value.int .u8 123] ++ t).length ≤ 65536 := by have := fits_le f2; simp only [List.length_append, List.length_cons, List.length_nil] at this ⊢; omega
      have HL2 := hid hl2
      obtain ⟨q, hq⟩ : ∃ q, fits (xs ++ [Value.int .u8 123] ++ t) [Value.int .u8 125] = q := ⟨_, rfl⟩
      have FF := hid ((FA.out.trans (fits_app (b := [.int .u8 125]) f2)).trans hq)
      have hp2 : Hid (∀ (w1 : World), SI w1 b0 H bs sb mb bt base W (xs ++ [Value.int .u8 123] ++ t) → Calls Tryz.prog 26 #[.string ⟨#[125]⟩, .pointer (some ⟨bt, 0, none⟩)] w1 fun e w' => e = .returned (.bool q) ∧ Sz mb bt base w1 w' ∧ (q = true → SI w' b0 H bs sb mb bt base W (xs ++ [Value.int .u8 123] ++ t ++ [Value.int .u8 125]))) := fun w1 h1 => by
        have h2 := put_two ⟨#[125]⟩ h1 HL2.out (by decide)
        unfold Sd at h2
        rw [e93, hq] at h2
        exact h2
      clear hq
      clear f1 f2 hl1 hl2
      go_enter Tryz.func62, Tryz.ntmps62
      go_wp2_with (first
        | (go_at_call 31; refine (kind_hs4 _ HU.out _ HI.out.hs).mono ?_; rintro e w' ⟨rfl, hw'⟩; subst w'; rw [hk])
        | (go_at_call_of 26 (Value.string ⟨#[123]⟩); refine (hp1.out _ HI.out).mono ?_; rintro e w1 ⟨he1, hs1, hi1⟩; rw [F1.out] at he1; subst he1; have HI1 := hid (hi1 F1.out); have y0 := HI1.out.c0; have y2 := HI1.out.c2; have HT1 := hid hs1; clear hs1 hi1)
        | (go_at_call 72; refine (HE.out _ HT1.out HI1.out HL1.out).mono ?_; rintro e w2 ⟨he2, hs2, hi2⟩; rw [F2.out] at he2; subst he2; have HI2 := hid (hi2 F2.out); have yy0 := HI2.out.c0; have yy2 := HI2.out.c2; have HT2 := hid hs2; clear hs2 hi2)
        | (go_at_call_of 26 (Value.string ⟨#[125]⟩); refine (hp2.out _ HI2.out).mono ?_; rintro e w3 ⟨he3, hs3, hi3⟩; subst he3; have HI3 := hid hi3; have HT3 := hid hs3; clear hs3 hi3)
        | fail)
      all_goals go_ret
      all_goals exact ⟨ret_bool FF.out.symm, (HT1.out.trans HT2.out).trans HT3.out, fun k => by have k' := FF.out.symm.trans k; simpa [List.append_assoc] using HI3.out k'⟩

set_option maxRecDepth 100000 in
set_option maxHeartbeats 40000000 in
theorem fields_two {b0 : Nat} {H : AHeap} {bs : List Nat} {sb mb bt base : Nat} {W : List Int} {xs : List Value} (f : Int → List Value) (v : Int) (hU : U v) (w : World) (h : SI w b0 H bs sb mb bt base W xs) (hx : xs.length ≤ 65536)
    (hk : kk H v = 3) (hks : ∀ s ∈ (ob H v).keys, s.size ≤ 1000000000)
    (hf : ∀ s, s ∈ (ob H v).keys → U (aFieldV H v s) → ∀ w1 ys, Sz mb bt base w w1 → SI w1 b0 H bs sb mb bt base W ys → ys.length ≤ 65536 → Calls Tryz.prog 27 #[.pointer (some ⟨sb, 0, none⟩), .int .u64 (aFieldV H v s)] w1 (Sd b0 H bs sb mb bt base W ys (f (aFieldV H v s)) w1)) :
    Calls Tryz.prog 72 #[.pointer (some ⟨sb, 0, none⟩), .int .u64 v] w (Sd b0 H bs sb mb bt base W xs (fxs f 0 (flds H v)) w) := by
  have hoo := ob_ok (v := v) h.hs.ok hU (kk_ref (by omega)).2.1
  have hkl : (ob H v).keys.length ≤ 1000000 := hoo.2.2.2.2.2.2.2
  have HUF := hid (fun s => field_U (s := s) h.hs.ok hU hk)
  have HI := hid h
  have HU := hid hU
  have HK := hid hk
  have HF0 := hid hf
  have HX := hid hx
  have HKS := hid hks
  have HLO := hid (show mb < w.heap.size ∧ bt < w.heap.size from ⟨by have h1 := h.mbn; have h2 := h.top; omega, by have h1 := h.btn; have h2 := h.top; omega⟩)
  have HKY := hid (fun w1 (h1 : HS w1 b0 H bs) => keys_yes v hU w1 h1 hk)
  have z0 := h.c0
  clear h hf hU hoo hk hx hks
  unfold flds
  generalize hvs : (ob H v).keys = l at hkl HF0 HKS HKY ⊢
  go_enter Tryz.func72, Tryz.ntmps72
  go_wp2_with (first
    | (go_at_call 80; refine (HKY.out _ HI.out.hs).mono ?_; rintro e w1 ⟨r, rfl, ho1, hb1⟩; have hkr : Kr w.heap.size w1 r l := ho1; obtain ⟨ar, cr, er⟩ := own_form ho1; subst er; have HI1 := hid (HI.out.bw hb1); have HT1 := hid (HI.out.sz hb1); have HKR1 := hid hkr; clear ho1 hb1 hkr)
    | fail)
  go_loopw [22, 7, 8, 9, 10] (fun j _ _ _ _ wr => ∃ (k : Nat) (A : List Value), k ≤ l.length ∧ j = .int .i64 k ∧ A ++ fxs f k ((l.map fun s => (s, aFieldV H v s)).drop k) = fxs f 0 (l.map fun s => (s, aFieldV H v s)) ∧ (xs ++ A).length ≤ 65536 ∧ SI wr b0 H bs sb mb bt base W (xs ++ A) ∧ Sz mb bt base w wr ∧ Kr w.heap.size wr (.slice ar l.length cr) l) (fun j _ _ _ _ _ => l.length - (intOf j).toNat)
  case atStart => exact ⟨0, [], Nat.zero_le _, rfl, by simp, by simpa using HX.out, by simpa using HI1.out, HT1.out, HKR1.out⟩
  case round =>
    obtain ⟨k, A, hkl', rfl, hAB, hxa, hi, hst, hkr⟩ := hrel
    have HIr := hid hi
    have HTr := hid hst
    have HXA := hid hxa
    have HKR := hid hkr
    by_cases hlt : k < l.length
    · have hd : (l.map fun s => (s, aFieldV H v s)).drop k = (l[k], aFieldV H v l[k]) :: (l.map fun s => (s, aFieldV H v s)).drop (k + 1) := by
        rw [List.drop_eq_getElem_cons (by simpa using hlt), List.getElem_map]
      rw [hd, fxs] at hAB
      have HAB := hid hAB
      obtain ⟨gk, ok, rfl, hgk, ck⟩ := (own_sl (G := fun _ => True) hkr (fun _ _ => trivial)).at hlt
      have ck1 : wr.cell? ⟨gk, ok + k, none⟩ = some (.string l[k]) := by rw [ck]; simp [hlt]
      have HMx := hid (List.getElem_mem hlt)
      have HUx := hid (HUF.out l[k])
      have HKs := hid (HKS.out _ (List.getElem_mem hlt))
      have HF := hid (HF0.out (l[k]'hlt))
      generalize l[k] = z at HAB HUx HMx ck1 HKs HF
      obtain ⟨x, hxe⟩ : ∃ x, x = aFieldV H v z := ⟨_, rfl⟩
      have HFD := hid (fun w1 (h1 : HS w1 b0 H bs) => field_any v z HU.out w1 h1)
      rw [← hxe] at HAB HUx HF HFD
      simp only at HAB
      have c0 := hi.c0
      have c2 := hi.c2
      have hb1 : (0 : Int) ≤ (k : Int) := by omega
      have hb2 : (k : Int) < (l.length : Int) := by omega
      have hpb := hid (fun (w1 : World) (h1 : SI w1 b0 H bs sb mb bt base W (xs ++ A)) => put_two (btS k) h1 HXA.out (bt_size k))
      rw [btw_cells] at hpb
      have HWA : Hid (∀ B C, A ++ B = C → fits xs C = fits (xs ++ A) B) := by
        intro B C e
        subst e
        unfold fits
        simp only [List.length_append, Nat.add_assoc]
      clear hd hi hst hAB hxa hkr ck hxe
      go_upto_region 6 with (first
        | (go_at_call 81; refine (HFD.out _ HIr.out.hs).mono ?_; rintro e w1 ⟨rfl, hl1⟩; have hi2 := HIr.out.bw hl1.bw; have y0 := hi2.c0; have y2 := hi2.c2; have HI2 := hid hi2; have HT2 := hid (HTr.out.trans (HIr.out.sz hl1.bw)); have HKR2 := hid (HKR.out.sz (HIr.out.sz hl1.bw) HLO.out.1 HLO.out.2); clear hl1 hi2)
        | fail)
      cases f1 : fits (xs ++ A) (btw k)
      · have FF := hid ((HWA.out _ _ HAB.out).trans (fits_fst f1))
        have F1 := hid f1
        clear f1
        as_aux_lemma =>
          refine wp_region_W (fun w' => w'.cell? ⟨sb, 2, none⟩ = some (.func (.func 26) #[] #[.pointer (some ⟨bt, 0, none⟩)])) (fun j => if j == 5 || j == 6 then 0 else 1) (by kernel_rfl) ?_
          refine wpAnyW_take (i := 0) (oi := { dst := some 37, op := Op.move (Operand.tmp 0), type := 96, pos := "text.go:112", after := #[], guard := none }) (v := ?_) rfl (by kernel_rfl) (by kernel_rfl) (by kernel_rfl) (by kernel_rfl) (fun _ _ _ h => h) (Or.inl ⟨by rfl, fun w _ => ?_⟩) ?_
          rotate_left
          · (go_simp; first | done | with_reducible rfl)
          try simp only [Act.put, List.setIfInBounds_toArray, List.set_cons_zero, List.set_cons_succ]
          refine wpAnyW_take (i := 1) (oi := { dst := some 38, op := Op.nilCheck (Operand.tmp 37), type := 0, pos := "text.go:112", after := #[{ on := 0, ground := Ground.data }], guard := none }) (v := ?_) rfl (by kernel_rfl) (by kernel_rfl) (by kernel_rfl) (by kernel_rfl) (fun _ _ _ h => h) (Or.inl ⟨by rfl, fun w _ => ?_⟩) ?_
          rotate_left
          · (go_simp; first | done | with_reducible rfl)
          try simp only [Act.put, List.setIfInBounds_toArray, List.set_cons_zero, List.set_cons_succ]
          refine wpAnyW_take (i := 2) (oi := { dst := some 39, op := Op.fieldAddr 72 (Operand.tmp 38) 2, type := 0, pos := "text.go:112", after := #[{ on := 1, ground := Ground.data }], guard := none }) (v := ?_) rfl (by kernel_rfl) (by kernel_rfl) (by kernel_rfl) (by kernel_rfl) (fun _ _ _ h => h) (Or.inl ⟨by rfl, fun w _ => ?_⟩) ?_
          rotate_left
          · (go_simp; first | done | with_reducible rfl)
          try simp only [Act.put, List.setIfInBounds_toArray, List.set_cons_zero, List.set_cons_succ]
          refine wpAnyW_load (i := 3) (oi := { dst := some 40, op := Op.load 69 (Operand.tmp 39), type := 69, pos := "text.go:112", after := #[{ on := 2, ground := Ground.data }], guard := none }) (v := ?_) rfl (by kernel_rfl) (by kernel_rfl) (by kernel_rfl) (by kernel_rfl) (by kernel_rfl) (fun _ _ _ h => h) (Or.inl ⟨by rfl, fun w hS => ?_⟩) y2 ?_
          rotate_left
          · (skip; go_simp; first | done | with_reducible rfl)
          try simp only [Act.put, List.setIfInBounds_toArray, List.set_cons_zero, List.set_cons_succ]
          refine wpAnyW_take (i := 4) (oi := { dst := some 41, op := Op.move (Operand.tmp 7), type := 3, pos := "text.go:112", after := #[], guard := none }) (v := ?_) rfl (by kernel_rfl) (by kernel_rfl) (by kernel_rfl) (by kernel_rfl) (fun _ _ _ h => h) (Or.inl ⟨by rfl, fun w _ => ?_⟩) ?_
          rotate_left
          · (go_simp; first | done | with_reducible rfl)
          try simp only [Act.put, List.setIfInBounds_toArray, List.set_cons_zero, List.set_cons_succ]
          refine wpAnyW_ready (rs := [5]) (by kernel_rfl) (by simp) ?_
          refine (AllReadyW.cons (o := { dst := some 42, op := Op.call { callee := Callee.value (Operand.func 79), args := #[Operand.tmp 41], argTypes := #[3] }, type := 9, pos := "text.go:112", after := #[{ on := 4, ground := Ground.data }], guard := none }) rfl (fun K hK => ?_) AllReadyW.nil)
          go_simp
          refine (btS_any _ _).mono ?_
          rintro e w' ⟨rfl, hw'⟩
          subst w'
          refine hK.out _ _ y2 ?_
          clear hK K
          try simp only [Act.put, List.setIfInBounds_toArray, List.set_cons_zero, List.set_cons_succ]
          refine wpAnyW_ready (rs := [6]) (by kernel_rfl) (by simp) ?_
          refine (AllReadyW.cons (o := { dst := some 43, op := Op.call { callee := Callee.value (Operand.tmp 40), args := #[Operand.tmp 42], argTypes := #[9] }, type := 4, pos := "text.go:112", after := #[{ on := 3, ground := Ground.data }, { on := 5, ground := Ground.data }, { on := 5, ground := Ground.chain }], guard := none }) rfl (fun K hK => ?_) AllReadyW.nil)
          go_simp
          refine (hpb.out _ (HI2.out.bw (by repeat (first | exact Bw.refl _ | apply Bw.drew)))).mono ?_
          rintro e w3 ⟨he3, hst3, _⟩
          rw [F1.out] at he3
          subst he3
          obtain ⟨_, _, p2⟩ := HI2.out.cs ((HI2.out.sz (by repeat (first | exact Bw.refl _ | apply Bw.drew))).trans hst3)
          have HKR3 := hid (HKR2.out.sz ((HI2.out.sz (by repeat (first | exact Bw.refl _ | apply Bw.drew))).trans hst3) HLO.out.1 HLO.out.2)
          have HT3 := hid (HT2.out.trans ((HI2.out.sz (by repeat (first | exact Bw.refl _ | apply Bw.drew))).trans hst3))
          clear hst3
          refine hK.out _ _ p2 ?_
          clear hK K
          try simp only [Act.put, List.setIfInBounds_toArray, List.set_cons_zero, List.set_cons_succ]
          refine wpAnyW_take (i := 7) (oi := { dst := some 44, op := Op.unOp UnOp.not 4 (Operand.tmp 43), type := 4, pos := "text.go:112", after := #[{ on := 6, ground := Ground.data }], guard := none }) (v := ?_) rfl (by kernel_rfl) (by kernel_rfl) (by kernel_rfl) (by kernel_rfl) (fun _ _ _ h => h) (Or.inl ⟨by rfl, fun w _ => ?_⟩) ?_
          rotate_left
          · (go_simp; first | done | with_reducible rfl)
          try simp only [Act.put, List.setIfInBounds_toArray, List.set_cons_zero, List.set_cons_succ]
          refine wpAnyW_take (i := 8) (oi := { dst := some 45, op := Op.move (Operand.tmp 44), type := 4, pos := "text.go:112", after := #[{ on := 7, ground := Ground.data }, { on := 6, ground := Ground.chain }], guard := none }) (v := ?_) rfl (by kernel_rfl) (by kernel_rfl) (by kernel_rfl) (by kernel_rfl) (fun _ _ _ h => h) (Or.inl ⟨by rfl, fun w _ => ?_⟩) ?_
          rotate_left
          · (go_simp; first | done | with_reducible rfl)
          try simp only [Act.put, List.setIfInBounds_toArray, List.set_cons_zero, List.set_cons_succ]
          refine wpAnyW_take (i := 9) (oi := { dst := some 46, op := Op.move (Operand.tmp 0), type := 96, pos := "text.go:112", after := #[{ on := 8, ground := Ground.guard }], guard := some (8, false) }) (v := undef) rfl (by kernel_rfl) (by kernel_rfl) (by kernel_rfl) (by kernel_rfl) (fun _ _ _ h => h) (Or.inr ⟨by rfl, rfl⟩) ?_
          try simp only [Act.put, List.setIfInBounds_toArray, List.set_cons_zero, List.set_cons_succ]
          refine wpAnyW_take (i := 10) (oi := { dst := some 47, op := Op.nilCheck (Operand.tmp 46), type := 0, pos := "text.go:112", after := #[{ on := 9, ground := Ground.data }, { on := 8, ground := Ground.guard }], guard := some (8, false) }) (v := undef) rfl (by kernel_rfl) (by kernel_rfl) (by kernel_rfl) (by kernel_rfl) (fun _ _ _ h => h) (Or.inr ⟨by rfl, rfl⟩) ?_
          try simp only [Act.put, List.setIfInBounds_toArray, List.set_cons_zero, List.set_cons_succ]
          refine wpAnyW_take (i := 11) (oi := { dst := some 48, op := Op.fieldAddr 72 (Operand.tmp 47) 2, type := 0, pos := "text.go:112", after := #[{ on := 10, ground := Ground.data }, { on := 8, ground := Ground.guard }], guard := some (8, false) }) (v := undef) rfl (by kernel_rfl) (by kernel_rfl) (by kernel_rfl) (by kernel_rfl) (fun _ _ _ h => h) (Or.inr ⟨by rfl, rfl⟩) ?_
          try simp only [Act.put, List.setIfInBounds_toArray, List.set_cons_zero, List.set_cons_succ]
          refine wpAnyW_take (i := 12) (oi := { dst := some 49, op := Op.load 69 (Operand.tmp 48), type := 69, pos := "text.go:112", after := #[{ on := 11, ground := Ground.data }, { on := 8, ground := Ground.guard }], guard := some (8, false) }) (v := undef) rfl (by kernel_rfl) (by kernel_rfl) (by kernel_rfl) (by kernel_rfl) (fun _ _ _ h => h) (Or.inr ⟨by rfl, rfl⟩) ?_
          try simp only [Act.put, List.setIfInBounds_toArray, List.set_cons_zero, List.set_cons_succ]
          refine wpAnyW_take (i := 13) (oi := { dst := some 50, op := Op.move (Operand.tmp 8), type := 9, pos := "text.go:112", after := #[{ on := 8, ground := Ground.guard }], guard := some (8, false) }) (v := undef) rfl (by kernel_rfl) (by kernel_rfl) (by kernel_rfl) (by kernel_rfl) (fun _ _ _ h => h) (Or.inr ⟨by rfl, rfl⟩) ?_
          try simp only [Act.put, List.setIfInBounds_toArray, List.set_cons_zero, List.set_cons_succ]
          refine wpAnyW_take (i := 14) (oi := { dst := some 51, op := Op.call { callee := Callee.value (Operand.tmp 49), args := #[Operand.tmp 50], argTypes := #[9] }, type := 4, pos := "text.go:112", after := #[{ on := 12, ground := Ground.data }, { on := 13, ground := Ground.data }, { on := 8, ground := Ground.chain }, { on := 8, ground := Ground.guard }], guard := some (8, false) }) (v := undef) rfl (by kernel_rfl) (by kernel_rfl) (by kernel_rfl) (by kernel_rfl) (fun _ _ _ h => h) (Or.inr ⟨by rfl, rfl⟩) ?_
          try simp only [Act.put, List.setIfInBounds_toArray, List.set_cons_zero, List.set_cons_succ]
          refine wpAnyW_take (i := 15) (oi := { dst := some 52, op := Op.unOp UnOp.not 4 (Operand.tmp 51), type := 4, pos := "text.go:112", after := #[{ on := 14, ground := Ground.data }, { on := 8, ground := Ground.guard }], guard := some (8, false) }) (v := undef) rfl (by kernel_rfl) (by kernel_rfl) (by kernel_rfl) (by kernel_rfl) (fun _ _ _ h => h) (Or.inr ⟨by rfl, rfl⟩) ?_
          try simp only [Act.put, List.setIfInBounds_toArray, List.set_cons_zero, List.set_cons_succ]
          refine wpAnyW_take (i := 16) (oi := { dst := some 53, op := Op.pick (Operand.tmp 45) (Operand.const (Value.bool true)) (Operand.tmp 52), type := 4, pos := "text.go:112", after := #[{ on := 8, ground := Ground.data }, { on := 15, ground := Ground.data }], guard := none }) (v := ?_) rfl (by kernel_rfl) (by kernel_rfl) (by kernel_rfl) (by kernel_rfl) (fun _ _ _ h => h) (Or.inl ⟨by rfl, fun w _ => ?_⟩) ?_
          rotate_left
          · (go_simp; first | done | with_reducible rfl)
          try simp only [Act.put, List.setIfInBounds_toArray, List.set_cons_zero, List.set_cons_succ]
          refine wpAnyW_take (i := 17) (oi := { dst := some 54, op := Op.move (Operand.tmp 53), type := 4, pos := "text.go:112", after := #[{ on := 16, ground := Ground.data }, { on := 14, ground := Ground.chain }], guard := none }) (v := ?_) rfl (by kernel_rfl) (by kernel_rfl) (by kernel_rfl) (by kernel_rfl) (fun _ _ _ h => h) (Or.inl ⟨by rfl, fun w _ => ?_⟩) ?_
          rotate_left
          · (go_simp; first | done | with_reducible rfl)
          try simp only [Act.put, List.setIfInBounds_toArray, List.set_cons_zero, List.set_cons_succ]
          refine wpAnyW_take (i := 18) (oi := { dst := some 55, op := Op.move (Operand.tmp 0), type := 96, pos := "text.go:112", after := #[{ on := 17, ground := Ground.guard }], guard := some (17, false) }) (v := undef) rfl (by kernel_rfl) (by kernel_rfl) (by kernel_rfl) (by kernel_rfl) (fun _ _ _ h => h) (Or.inr ⟨by rfl, rfl⟩) ?_
          try simp only [Act.put, List.setIfInBounds_toArray, List.set_cons_zero, List.set_cons_succ]
          refine wpAnyW_take (i := 19) (oi := { dst := some 56, op := Op.nilCheck (Operand.tmp 55), type := 0, pos := "text.go:112", after := #[{ on := 18, ground := Ground.data }, { on := 17, ground := Ground.guard }], guard := some (17, false) }) (v := undef) rfl (by kernel_rfl) (by kernel_rfl) (by kernel_rfl) (by kernel_rfl) (fun _ _ _ h => h) (Or.inr ⟨by rfl, rfl⟩) ?_
          try simp only [Act.put, List.setIfInBounds_toArray, List.set_cons_zero, List.set_cons_succ]
          refine wpAnyW_take (i := 20) (oi := { dst := some 57, op := Op.fieldAddr 72 (Operand.tmp 56) 2, type := 0, pos := "text.go:112", after := #[{ on := 19, ground := Ground.data }, { on := 17, ground := Ground.guard }], guard := some (17, false) }) (v := undef) rfl (by kernel_rfl) (by kernel_rfl) (by kernel_rfl) (by kernel_rfl) (fun _ _ _ h => h) (Or.inr ⟨by rfl, rfl⟩) ?_
          try simp only [Act.put, List.setIfInBounds_toArray, List.set_cons_zero, List.set_cons_succ]
          refine wpAnyW_take (i := 21) (oi := { dst := some 58, op := Op.load 69 (Operand.tmp 57), type := 69, pos := "text.go:112", after := #[{ on := 20, ground := Ground.data }, { on := 17, ground := Ground.guard }], guard := some (17, false) }) (v := undef) rfl (by kernel_rfl) (by kernel_rfl) (by kernel_rfl) (by kernel_rfl) (fun _ _ _ h => h) (Or.inr ⟨by rfl, rfl⟩) ?_
          try simp only [Act.put, List.setIfInBounds_toArray, List.set_cons_zero, List.set_cons_succ]
          refine wpAnyW_take (i := 22) (oi := { dst := some 59, op := Op.call { callee := Callee.value (Operand.tmp 58), args := #[Operand.const (Value.string { data := #[58, 32] })], argTypes := #[9] }, type := 4, pos := "text.go:112", after := #[{ on := 21, ground := Ground.data }, { on := 17, ground := Ground.chain }, { on := 17, ground := Ground.guard }], guard := some (17, false) }) (v := undef) rfl (by kernel_rfl) (by kernel_rfl) (by kernel_rfl) (by kernel_rfl) (fun _ _ _ h => h) (Or.inr ⟨by rfl, rfl⟩) ?_
          try simp only [Act.put, List.setIfInBounds_toArray, List.set_cons_zero, List.set_cons_succ]
          refine wpAnyW_take (i := 23) (oi := { dst := some 60, op := Op.unOp UnOp.not 4 (Operand.tmp 59), type := 4, pos := "text.go:112", after := #[{ on := 22, ground := Ground.data }, { on := 17, ground := Ground.guard }], guard := some (17, false) }) (v := undef) rfl (by kernel_rfl) (by kernel_rfl) (by kernel_rfl) (by kernel_rfl) (fun _ _ _ h => h) (Or.inr ⟨by rfl, rfl⟩) ?_
          try simp only [Act.put, List.setIfInBounds_toArray, List.set_cons_zero, List.set_cons_succ]
          refine wpAnyW_take (i := 24) (oi := { dst := some 61, op := Op.pick (Operand.tmp 54) (Operand.const (Value.bool true)) (Operand.tmp 60), type := 4, pos := "text.go:112", after := #[{ on := 17, ground := Ground.data }, { on := 23, ground := Ground.data }], guard := none }) (v := ?_) rfl (by kernel_rfl) (by kernel_rfl) (by kernel_rfl) (by kernel_rfl) (fun _ _ _ h => h) (Or.inl ⟨by rfl, fun w _ => ?_⟩) ?_
          rotate_left
          · (go_simp; first | done | with_reducible rfl)
          try simp only [Act.put, List.setIfInBounds_toArray, List.set_cons_zero, List.set_cons_succ]
          refine wpAnyW_take (i := 25) (oi := { dst := some 62, op := Op.move (Operand.tmp 61), type := 4, pos := "text.go:112", after := #[{ on := 24, ground := Ground.data }, { on := 22, ground := Ground.chain }], guard := none }) (v := ?_) rfl (by kernel_rfl) (by kernel_rfl) (by kernel_rfl) (by kernel_rfl) (fun _ _ _ h => h) (Or.inl ⟨by rfl, fun w _ => ?_⟩) ?_
          rotate_left
          · (go_simp; first | done | with_reducible rfl)
          try simp only [Act.put, List.setIfInBounds_toArray, List.set_cons_zero, List.set_cons_succ]
          refine wpAnyW_take (i := 26) (oi := { dst := some 63, op := Op.move (Operand.tmp 0), type := 96, pos := "text.go:112", after := #[{ on := 25, ground := Ground.guard }], guard := some (25, false) }) (v := undef) rfl (by kernel_rfl) (by kernel_rfl) (by kernel_rfl) (by kernel_rfl) (fun _ _ _ h => h) (Or.inr ⟨by rfl, rfl⟩) ?_
          try simp only [Act.put, List.setIfInBounds_toArray, List.set_cons_zero, List.set_cons_succ]
          refine wpAnyW_take (i := 27) (oi := { dst := some 64, op := Op.move (Operand.tmp 9), type := 27, pos := "text.go:112", after := #[{ on := 25, ground := Ground.guard }], guard := some (25, false) }) (v := undef) rfl (by kernel_rfl) (by kernel_rfl) (by kernel_rfl) (by kernel_rfl) (fun _ _ _ h => h) (Or.inr ⟨by rfl, rfl⟩) ?_
          try simp only [Act.put, List.setIfInBounds_toArray, List.set_cons_zero, List.set_cons_succ]
          refine wpAnyW_take (i := 28) (oi := { dst := some 65, op := Op.call { callee := Callee.value (Operand.func 27), args := #[Operand.tmp 63, Operand.tmp 64], argTypes := #[96, 27] }, type := 4, pos := "text.go:112", after := #[{ on := 26, ground := Ground.data }, { on := 27, ground := Ground.data }, { on := 25, ground := Ground.chain }, { on := 25, ground := Ground.guard }], guard := some (25, false) }) (v := undef) rfl (by kernel_rfl) (by kernel_rfl) (by kernel_rfl) (by kernel_rfl) (fun _ _ _ h => h) (Or.inr ⟨by rfl, rfl⟩) ?_
          try simp only [Act.put, List.setIfInBounds_toArray, List.set_cons_zero, List.set_cons_succ]
          refine wpAnyW_take (i := 29) (oi := { dst := some 66, op := Op.unOp UnOp.not 4 (Operand.tmp 65), type := 4, pos := "text.go:112", after := #[{ on := 28, ground := Ground.data }, { on := 25, ground := Ground.guard }], guard := some (25, false) }) (v := undef) rfl (by kernel_rfl) (by kernel_rfl) (by kernel_rfl) (by kernel_rfl) (fun _ _ _ h => h) (Or.inr ⟨by rfl, rfl⟩) ?_
          try simp only [Act.put, List.setIfInBounds_toArray, List.set_cons_zero, List.set_cons_succ]
          refine wpAnyW_take (i := 30) (oi := { dst := some 67, op := Op.pick (Operand.tmp 62) (Operand.const (Value.bool true)) (Operand.tmp 66), type := 4, pos := "text.go:112", after := #[{ on := 25, ground := Ground.data }, { on := 29, ground := Ground.data }], guard := none }) (v := ?_) rfl (by kernel_rfl) (by kernel_rfl) (by kernel_rfl) (by kernel_rfl) (fun _ _ _ h => h) (Or.inl ⟨by rfl, fun w _ => ?_⟩) ?_
          rotate_left
          · (go_simp; first | done | with_reducible rfl)
          try simp only [Act.put, List.setIfInBounds_toArray, List.set_cons_zero, List.set_cons_succ]
          refine wpAnyW_done (by kernel_rfl) ?_ _
          go_wp2
          all_goals go_ret
          all_goals exact sd_no FF.out HT3.out
      · have F1 := hid f1
        have hl1 : (xs ++ A ++ btw k).length ≤ 65536 := by have := fits_le f1; rw [List.length_append]; exact this
        have FA := hid ((HWA.out _ _ HAB.out).trans (fits_app f1))
        have hpk := hid (fun (w1 : World) (h1 : SI w1 b0 H bs sb mb bt base W (xs ++ A ++ btw k)) => put_two z h1 hl1 HKs.out)
        cases f2 : fits (xs ++ A ++ btw k) (Lib.strCells z)
        · have FF := hid (FA.out.trans (fits_fst f2))
          have F2 := hid f2
          clear f1 f2 hl1
          as_aux_lemma =>
            refine wp_region_W (fun w' => w'.cell? ⟨sb, 2, none⟩ = some (.func (.func 26) #[] #[.pointer (some ⟨bt, 0, none⟩)])) (fun j => if j == 5 || j == 6 || j == 14 then 0 else 1) (by kernel_rfl) ?_
            refine wpAnyW_take (i := 0) (oi := { dst := some 37, op := Op.move (Operand.tmp 0), type := 96, pos := "text.go:112", after := #[], guard := none }) (v := ?_) rfl (by kernel_rfl) (by kernel_rfl) (by kernel_rfl) (by kernel_rfl) (fun _ _ _ h => h) (Or.inl ⟨by rfl, fun w _ => ?_⟩) ?_
            rotate_left
            · (go_simp; first | done | with_reducible rfl)
            try simp only [Act.put, List.setIfInBounds_toArray, List.set_cons_zero, List.set_cons_succ]
            refine wpAnyW_take (i := 1) (oi := { dst := some 38, op := Op.nilCheck (Operand.tmp 37), type := 0, pos := "text.go:112", after := #[{ on := 0, ground := Ground.data }], guard := none }) (v := ?_) rfl (by kernel_rfl) (by kernel_rfl) (by kernel_rfl) (by kernel_rfl) (fun _ _ _ h => h) (Or.inl ⟨by rfl, fun w _ => ?_⟩) ?_
            rotate_left
            · (go_simp; first | done | with_reducible rfl)
            try simp only [Act.put, List.setIfInBounds_toArray, List.set_cons_zero, List.set_cons_succ]
            refine wpAnyW_take (i := 2) (oi := { dst := some 39, op := Op.fieldAddr 72 (Operand.tmp 38) 2, type := 0, pos := "text.go:112", after := #[{ on := 1, ground := Ground.data }], guard := none }) (v := ?_) rfl (by kernel_rfl) (by kernel_rfl) (by kernel_rfl) (by kernel_rfl) (fun _ _ _ h => h) (Or.inl ⟨by rfl, fun w _ => ?_⟩) ?_
            rotate_left
            · (go_simp; first | done | with_reducible rfl)
            try simp only [Act.put, List.setIfInBounds_toArray, List.set_cons_zero, List.set_cons_succ]
            refine wpAnyW_load (i := 3) (oi := { dst := some 40, op := Op.load 69 (Operand.tmp 39), type := 69, pos := "text.go:112", after := #[{ on := 2, ground := Ground.data }], guard := none }) (v := ?_) rfl (by kernel_rfl) (by kernel_rfl) (by kernel_rfl) (by kernel_rfl) (by kernel_rfl) (fun _ _ _ h => h) (Or.inl ⟨by rfl, fun w hS => ?_⟩) y2 ?_
            rotate_left
            · (skip; go_simp; first | done | with_reducible rfl)
            try simp only [Act.put, List.setIfInBounds_toArray, List.set_cons_zero, List.set_cons_succ]
            refine wpAnyW_take (i := 4) (oi := { dst := some 41, op := Op.move (Operand.tmp 7), type := 3, pos := "text.go:112", after := #[], guard := none }) (v := ?_) rfl (by kernel_rfl) (by kernel_rfl) (by kernel_rfl) (by kernel_rfl) (fun _ _ _ h => h) (Or.inl ⟨by rfl, fun w _ => ?_⟩) ?_
            rotate_left
            · (go_simp; first | done | with_reducible rfl)
            try simp only [Act.put, List.setIfInBounds_toArray, List.set_cons_zero, List.set_cons_succ]
            refine wpAnyW_ready (rs := [5]) (by kernel_rfl) (by simp) ?_
            refine (AllReadyW.cons (o := { dst := some 42, op := Op.call { callee := Callee.value (Operand.func 79), args := #[Operand.tmp 41], argTypes := #[3] }, type := 9, pos := "text.go:112", after := #[{ on := 4, ground := Ground.data }], guard := none }) rfl (fun K hK => ?_) AllReadyW.nil)
            go_simp
            refine (btS_any _ _).mono ?_
            rintro e w' ⟨rfl, hw'⟩
            subst w'
            refine hK.out _ _ y2 ?_
            clear hK K
            try simp only [Act.put, List.setIfInBounds_toArray, List.set_cons_zero, List.set_cons_succ]
            refine wpAnyW_ready (rs := [6]) (by kernel_rfl) (by simp) ?_
            refine (AllReadyW.cons (o := { dst := some 43, op := Op.call { callee := Callee.value (Operand.tmp 40), args := #[Operand.tmp 42], argTypes := #[9] }, type := 4, pos := "text.go:112", after := #[{ on := 3, ground := Ground.data }, { on := 5, ground := Ground.data }, { on := 5, ground := Ground.chain }], guard := none }) rfl (fun K hK => ?_) AllReadyW.nil)
            go_simp
            refine (hpb.out _ (HI2.out.bw (by repeat (first | exact Bw.refl _ | apply Bw.drew)))).mono ?_
            rintro e w3 ⟨he3, hst3, hi3⟩
            rw [F1.out] at he3
            subst he3
            have HI3 := hid (hi3 F1.out)
            have p2 := HI3.out.c2
            have HKR3 := hid (HKR2.out.sz ((HI2.out.sz (by repeat (first | exact Bw.refl _ | apply Bw.drew))).trans hst3) HLO.out.1 HLO.out.2)
            have HT3 := hid (HT2.out.trans ((HI2.out.sz (by repeat (first | exact Bw.refl _ | apply Bw.drew))).trans hst3))
            clear hst3 hi3
            refine hK.out _ _ p2 ?_
            clear hK K
            try simp only [Act.put, List.setIfInBounds_toArray, List.set_cons_zero, List.set_cons_succ]
            refine wpAnyW_take (i := 7) (oi := { dst := some 44, op := Op.unOp UnOp.not 4 (Operand.tmp 43), type := 4, pos := "text.go:112", after := #[{ on := 6, ground := Ground.data }], guard := none }) (v := ?_) rfl (by kernel_rfl) (by kernel_rfl) (by kernel_rfl) (by kernel_rfl) (fun _ _ _ h => h) (Or.inl ⟨by rfl, fun w _ => ?_⟩) ?_
            rotate_left
            · (go_simp; first | done | with_reducible rfl)
            try simp only [Act.put, List.setIfInBounds_toArray, List.set_cons_zero, List.set_cons_succ]
            refine wpAnyW_take (i := 8) (oi := { dst := some 45, op := Op.move (Operand.tmp 44), type := 4, pos := "text.go:112", after := #[{ on := 7, ground := Ground.data }, { on := 6, ground := Ground.chain }], guard := none }) (v := ?_) rfl (by kernel_rfl) (by kernel_rfl) (by kernel_rfl) (by kernel_rfl) (fun _ _ _ h => h) (Or.inl ⟨by rfl, fun w _ => ?_⟩) ?_
            rotate_left
            · (go_simp; first | done | with_reducible rfl)
            try simp only [Act.put, List.setIfInBounds_toArray, List.set_cons_zero, List.set_cons_succ]
            refine wpAnyW_take (i := 9) (oi := { dst := some 46, op := Op.move (Operand.tmp 0), type := 96, pos := "text.go:112", after := #[{ on := 8, ground := Ground.guard }], guard := some (8, false) }) (v := ?_) rfl (by kernel_rfl) (by kernel_rfl) (by kernel_rfl) (by kernel_rfl) (fun _ _ _ h => h) (Or.inl ⟨by rfl, fun w _ => ?_⟩) ?_
            rotate_left
            · (go_simp; first | done | with_reducible rfl)
            try simp only [Act.put, List.setIfInBounds_toArray, List.set_cons_zero, List.set_cons_succ]
            refine wpAnyW_take (i := 10) (oi := { dst := some 47, op := Op.nilCheck (Operand.tmp 46), type := 0, pos := "text.go:112", after := #[{ on := 9, ground := Ground.data }, { on := 8, ground := Ground.guard }], guard := some (8, false) }) (v := ?_) rfl (by kernel_rfl) (by kernel_rfl) (by kernel_rfl) (by kernel_rfl) (fun _ _ _ h => h) (Or.inl ⟨by rfl, fun w _ => ?_⟩) ?_
            rotate_left
            · (go_simp; first | done | with_reducible rfl)
            try simp only [Act.put, List.setIfInBounds_toArray, List.set_cons_zero, List.set_cons_succ]
            refine wpAnyW_take (i := 11) (oi := { dst := some 48, op := Op.fieldAddr 72 (Operand.tmp 47) 2, type := 0, pos := "text.go:112", after := #[{ on := 10, ground := Ground.data }, { on := 8, ground := Ground.guard }], guard := some (8, false) }) (v := ?_) rfl (by kernel_rfl) (by kernel_rfl) (by kernel_rfl) (by kernel_rfl) (fun _ _ _ h => h) (Or.inl ⟨by rfl, fun w _ => ?_⟩) ?_
            rotate_left
            · (go_simp; first | done | with_reducible rfl)
            try simp only [Act.put, List.setIfInBounds_toArray, List.set_cons_zero, List.set_cons_succ]
            refine wpAnyW_load (i := 12) (oi := { dst := some 49, op := Op.load 69 (Operand.tmp 48), type := 69, pos := "text.go:112", after := #[{ on := 11, ground := Ground.data }, { on := 8, ground := Ground.guard }], guard := some (8, false) }) (v := ?_) rfl (by kernel_rfl) (by kernel_rfl) (by kernel_rfl) (by kernel_rfl) (by kernel_rfl) (fun _ _ _ h => h) (Or.inl ⟨by rfl, fun w hS => ?_⟩) p2 ?_
            rotate_left
            · (skip; go_simp; first | done | with_reducible rfl)
            try simp only [Act.put, List.setIfInBounds_toArray, List.set_cons_zero, List.set_cons_succ]
            refine wpAnyW_take (i := 13) (oi := { dst := some 50, op := Op.move (Operand.tmp 8), type := 9, pos := "text.go:112", after := #[{ on := 8, ground := Ground.guard }], guard := some (8, false) }) (v := ?_) rfl (by kernel_rfl) (by kernel_rfl) (by kernel_rfl) (by kernel_rfl) (fun _ _ _ h => h) (Or.inl ⟨by rfl, fun w _ => ?_⟩) ?_
            rotate_left
            · (go_simp; first | done | with_reducible rfl)
            try simp only [Act.put, List.setIfInBounds_toArray, List.set_cons_zero, List.set_cons_succ]
            refine wpAnyW_ready (rs := [14]) (by kernel_rfl) (by simp) ?_
            refine (AllReadyW.cons (o := { dst := some 51, op := Op.call { callee := Callee.value (Operand.tmp 49), args := #[Operand.tmp 50], argTypes := #[9] }, type := 4, pos := "text.go:112", after := #[{ on := 12, ground := Ground.data }, { on := 13, ground := Ground.data }, { on := 8, ground := Ground.chain }, { on := 8, ground := Ground.guard }], guard := some (8, false) }) rfl (fun K hK => ?_) AllReadyW.nil)
            go_simp
            refine (hpk.out _ HI3.out).mono ?_
            rintro e HI4w ⟨he3, hst3, _⟩
            rw [F2.out] at he3
            subst he3
            obtain ⟨_, _, p3⟩ := HI3.out.cs hst3
            have HKR4 := hid (HKR3.out.sz hst3 HLO.out.1 HLO.out.2)
            have HT4 := hid (HT3.out.trans hst3)
            clear hst3
            refine hK.out _ _ p3 ?_
            clear hK K
            try simp only [Act.put, List.setIfInBounds_toArray, List.set_cons_zero, List.set_cons_succ]
            refine wpAnyW_take (i := 15) (oi := { dst := some 52, op := Op.unOp UnOp.not 4 (Operand.tmp 51), type := 4, pos := "text.go:112", after := #[{ on := 14, ground := Ground.data }, { on := 8, ground := Ground.guard }], guard := some (8, false) }) (v := ?_) rfl (by kernel_rfl) (by kernel_rfl) (by kernel_rfl) (by kernel_rfl) (fun _ _ _ h => h) (Or.inl ⟨by rfl, fun w _ => ?_⟩) ?_
            rotate_left
            · (go_simp; first | done | with_reducible rfl)
            try simp only [Act.put, List.setIfInBounds_toArray, List.set_cons_zero, List.set_cons_succ]
            refine wpAnyW_take (i := 16) (oi := { dst := some 53, op := Op.pick (Operand.tmp 45) (Operand.const (Value.bool true)) (Operand.tmp 52), type := 4, pos := "text.go:112", after := #[{ on := 8, ground := Ground.data }, { on := 15, ground := Ground.data }], guard := none }) (v := ?_) rfl (by kernel_rfl) (by kernel_rfl) (by kernel_rfl) (by kernel_rfl) (fun _ _ _ h => h) (Or.inl ⟨by rfl, fun w _ => ?_⟩) ?_
            rotate_left
            · (go_simp; first | done | with_reducible rfl)
            try simp only [Act.put, List.setIfInBounds_toArray, List.set_cons_zero, List.set_cons_succ]
            refine wpAnyW_take (i := 17) (oi := { dst := some 54, op := Op.move (Operand.tmp 53), type := 4, pos := "text.go:112", after := #[{ on := 16, ground := Ground.data }, { on := 14, ground := Ground.chain }], guard := none }) (v := ?_) rfl (by kernel_rfl) (by kernel_rfl) (by kernel_rfl) (by kernel_rfl) (fun _ _ _ h => h) (Or.inl ⟨by rfl, fun w _ => ?_⟩) ?_
            rotate_left
            · (go_simp; first | done | with_reducible rfl)
            try simp only [Act.put, List.setIfInBounds_toArray, List.set_cons_zero, List.set_cons_succ]
            refine wpAnyW_take (i := 18) (oi := { dst := some 55, op := Op.move (Operand.tmp 0), type := 96, pos := "text.go:112", after := #[{ on := 17, ground := Ground.guard }], guard := some (17, false) }) (v := undef) rfl (by kernel_rfl) (by kernel_rfl) (by kernel_rfl) (by kernel_rfl) (fun _ _ _ h => h) (Or.inr ⟨by rfl, rfl⟩) ?_
            try simp only [Act.put, List.setIfInBounds_toArray, List.set_cons_zero, List.set_cons_succ]
            refine wpAnyW_take (i := 19) (oi := { dst := some 56, op := Op.nilCheck (Operand.tmp 55), type := 0, pos := "text.go:112", after := #[{ on := 18, ground := Ground.data }, { on := 17, ground := Ground.guard }], guard := some (17, false) }) (v := undef) rfl (by kernel_rfl) (by kernel_rfl) (by kernel_rfl) (by kernel_rfl) (fun _ _ _ h => h) (Or.inr ⟨by rfl, rfl⟩) ?_
            try simp only [Act.put, List.setIfInBounds_toArray, List.set_cons_zero, List.set_cons_succ]
            refine wpAnyW_take (i := 20) (oi := { dst := some 57, op := Op.fieldAddr 72 (Operand.tmp 56) 2, type := 0, pos := "text.go:112", after := #[{ on := 19, ground := Ground.data }, { on := 17, ground := Ground.guard }], guard := some (17, false) }) (v := undef) rfl (by kernel_rfl) (by kernel_rfl) (by kernel_rfl) (by kernel_rfl) (fun _ _ _ h => h) (Or.inr ⟨by rfl, rfl⟩) ?_
            try simp only [Act.put, List.setIfInBounds_toArray, List.set_cons_zero, List.set_cons_succ]
            refine wpAnyW_take (i := 21) (oi := { dst := some 58, op := Op.load 69 (Operand.tmp 57), type := 69, pos := "text.go:112", after := #[{ on := 20, ground := Ground.data }, { on := 17, ground := Ground.guard }], guard := some (17, false) }) (v := undef) rfl (by kernel_rfl) (by kernel_rfl) (by kernel_rfl) (by kernel_rfl) (fun _ _ _ h => h) (Or.inr ⟨by rfl, rfl⟩) ?_
            try simp only [Act.put, List.setIfInBounds_toArray, List.set_cons_zero, List.set_cons_succ]
            refine wpAnyW_take (i := 22) (oi := { dst := some 59, op := Op.call { callee := Callee.value (Operand.tmp 58), args := #[Operand.const (Value.string { data := #[58, 32] })], argTypes := #[9] }, type := 4, pos := "text.go:112", after := #[{ on := 21, ground := Ground.data }, { on := 17, ground := Ground.chain }, { on := 17, ground := Ground.guard }], guard := some (17, false) }) (v := undef) rfl (by kernel_rfl) (by kernel_rfl) (by kernel_rfl) (by kernel_rfl) (fun _ _ _ h => h) (Or.inr ⟨by rfl, rfl⟩) ?_
            try simp only [Act.put, List.setIfInBounds_toArray, List.set_cons_zero, List.set_cons_succ]
            refine wpAnyW_take (i := 23) (oi := { dst := some 60, op := Op.unOp UnOp.not 4 (Operand.tmp 59), type := 4, pos := "text.go:112", after := #[{ on := 22, ground := Ground.data }, { on := 17, ground := Ground.guard }], guard := some (17, false) }) (v := undef) rfl (by kernel_rfl) (by kernel_rfl) (by kernel_rfl) (by kernel_rfl) (fun _ _ _ h => h) (Or.inr ⟨by rfl, rfl⟩) ?_
            try simp only [Act.put, List.setIfInBounds_toArray, List.set_cons_zero, List.set_cons_succ]
            refine wpAnyW_take (i := 24) (oi := { dst := some 61, op := Op.pick (Operand.tmp 54) (Operand.const (Value.bool true)) (Operand.tmp 60), type := 4, pos := "text.go:112", after := #[{ on := 17, ground := Ground.data }, { on := 23, ground := Ground.data }], guard := none }) (v := ?_) rfl (by kernel_rfl) (by kernel_rfl) (by kernel_rfl) (by kernel_rfl) (fun _ _ _ h => h) (Or.inl ⟨by rfl, fun w _ => ?_⟩) ?_
            rotate_left
            · (go_simp; first | done | with_reducible rfl)
            try simp only [Act.put, List.setIfInBounds_toArray, List.set_cons_zero, List.set_cons_succ]
            refine wpAnyW_take (i := 25) (oi := { dst := some 62, op := Op.move (Operand.tmp 61), type := 4, pos := "text.go:112", after := #[{ on := 24, ground := Ground.data }, { on := 22, ground := Ground.chain }], guard := none }) (v := ?_) rfl (by kernel_rfl) (by kernel_rfl) (by kernel_rfl) (by kernel_rfl) (fun _ _ _ h => h) (Or.inl ⟨by rfl, fun w _ => ?_⟩) ?_
            rotate_left
            · (go_simp; first | done | with_reducible rfl)
            try simp only [Act.put, List.setIfInBounds_toArray, List.set_cons_zero, List.set_cons_succ]
            refine wpAnyW_take (i := 26) (oi := { dst := some 63, op := Op.move (Operand.tmp 0), type := 96, pos := "text.go:112", after := #[{ on := 25, ground := Ground.guard }], guard := some (25, false) }) (v := undef) rfl (by kernel_rfl) (by kernel_rfl) (by kernel_rfl) (by kernel_rfl) (fun _ _ _ h => h) (Or.inr ⟨by rfl, rfl⟩) ?_
            try simp only [Act.put, List.setIfInBounds_toArray, List.set_cons_zero, List.set_cons_succ]
            refine wpAnyW_take (i := 27) (oi := { dst := some 64, op := Op.move (Operand.tmp 9), type := 27, pos := "text.go:112", after := #[{ on := 25, ground := Ground.guard }], guard := some (25, false) }) (v := undef) rfl (by kernel_rfl) (by kernel_rfl) (by kernel_rfl) (by kernel_rfl) (fun _ _ _ h => h) (Or.inr ⟨by rfl, rfl⟩) ?_
            try simp only [Act.put, List.setIfInBounds_toArray, List.set_cons_zero, List.set_cons_succ]
            refine wpAnyW_take (i := 28) (oi := { dst := some 65, op := Op.call { callee := Callee.value (Operand.func 27), args := #[Operand.tmp 63, Operand.tmp 64], argTypes := #[96, 27] }, type := 4, pos := "text.go:112", after := #[{ on := 26, ground := Ground.data }, { on := 27, ground := Ground.data }, { on := 25, ground := Ground.chain }, { on := 25, ground := Ground.guard }], guard := some (25, false) }) (v := undef) rfl (by kernel_rfl) (by kernel_rfl) (by kernel_rfl) (by kernel_rfl) (fun _ _ _ h => h) (Or.inr ⟨by rfl, rfl⟩) ?_
            try simp only [Act.put, List.setIfInBounds_toArray, List.set_cons_zero, List.set_cons_succ]
            refine wpAnyW_take (i := 29) (oi := { dst := some 66, op := Op.unOp UnOp.not 4 (Operand.tmp 65), type := 4, pos := "text.go:112", after := #[{ on := 28, ground := Ground.data }, { on := 25, ground := Ground.guard }], guard := some (25, false) }) (v := undef) rfl (by kernel_rfl) (by kernel_rfl) (by kernel_rfl) (by kernel_rfl) (fun _ _ _ h => h) (Or.inr ⟨by rfl, rfl⟩) ?_
            try simp only [Act.put, List.setIfInBounds_toArray, List.set_cons_zero, List.set_cons_succ]
            refine wpAnyW_take (i := 30) (oi := { dst := some 67, op := Op.pick (Operand.tmp 62) (Operand.const (Value.bool true)) (Operand.tmp 66), type := 4, pos := "text.go:112", after := #[{ on := 25, ground := Ground.data }, { on := 29, ground := Ground.data }], guard := none }) (v := ?_) rfl (by kernel_rfl) (by kernel_rfl) (by kernel_rfl) (by kernel_rfl) (fun _ _ _ h => h) (Or.inl ⟨by rfl, fun w _ => ?_⟩) ?_
            rotate_left
            · (go_simp; first | done | with_reducible rfl)
            try simp only [Act.put, List.setIfInBounds_toArray, List.set_cons_zero, List.set_cons_succ]
            refine wpAnyW_done (by kernel_rfl) ?_ _
            go_wp2
            all_goals go_ret
            all_goals exact sd_no FF.out HT4.out
        · have F2 := hid f2
          have hl2 : (xs ++ A ++ btw k ++ Lib.strCells z).length ≤ 65536 := by have := fits_le f2; rw [List.length_append]; exact this
          have FB := hid (FA.out.trans (fits_app f2))
          have hpc := hid (fun (w1 : World) (h1 : SI w1 b0 H bs sb mb bt base W (xs ++ A ++ btw k ++ Lib.strCells z)) => put_two ⟨#[58, 32]⟩ h1 hl2 (by decide))
          have e58 : Lib.strCells ⟨#[58, 32]⟩ = [.int .u8 58, .int .u8 32] := rfl
          rw [e58] at hpc
          cases f3 : fits (xs ++ A ++ btw k ++ Lib.strCells z) [Value.int .u8 58, Value.int .u8 32]
          · have FF := hid (FB.out.trans (fits_fst f3))
            have F3 := hid f3
            clear f1 f2 f3 hl1 hl2
            as_aux_lemma =>
              refine wp_region_W (fun w' => w'.cell? ⟨sb, 2, none⟩ = some (.func (.func 26) #[] #[.pointer (some ⟨bt, 0, none⟩)])) (fun j => if j == 5 || j == 6 || j == 14 || j == 22 then 0 else 1) (by kernel_rfl) ?_
              refine wpAnyW_take (i := 0) (oi := { dst := some 37, op := Op.move (Operand.tmp 0), type := 96, pos := "text.go:112", after := #[], guard := none }) (v := ?_) rfl (by kernel_rfl) (by kernel_rfl) (by kernel_rfl) (by kernel_rfl) (fun _ _ _ h => h) (Or.inl ⟨by rfl, fun w _ => ?_⟩) ?_
              rotate_left
              · (go_simp; first | done | with_reducible rfl)
              try simp only [Act.put, List.setIfInBounds_toArray, List.set_cons_zero, List.set_cons_succ]
              refine wpAnyW_take (i := 1) (oi := { dst := some 38, op := Op.nilCheck (Operand.tmp 37), type := 0, pos := "text.go:112", after := #[{ on := 0, ground := Ground.data }], guard := none }) (v := ?_) rfl (by kernel_rfl) (by kernel_rfl) (by kernel_rfl) (by kernel_rfl) (fun _ _ _ h => h) (Or.inl ⟨by rfl, fun w _ => ?_⟩) ?_
              rotate_left
              · (go_simp; first | done | with_reducible rfl)
              try simp only [Act.put, List.setIfInBounds_toArray, List.set_cons_zero, List.set_cons_succ]
              refine wpAnyW_take (i := 2) (oi := { dst := some 39, op := Op.fieldAddr 72 (Operand.tmp 38) 2, type := 0, pos := "text.go:112", after := #[{ on := 1, ground := Ground.data }], guard := none }) (v := ?_) rfl (by kernel_rfl) (by kernel_rfl) (by kernel_rfl) (by kernel_rfl) (fun _ _ _ h => h) (Or.inl ⟨by rfl, fun w _ => ?_⟩) ?_
              rotate_left
              · (go_simp; first | done | with_reducible rfl)
              try simp only [Act.put, List.setIfInBounds_toArray, List.set_cons_zero, List.set_cons_succ]
              refine wpAnyW_load (i := 3) (oi := { dst := some 40, op := Op.load 69 (Operand.tmp 39), type := 69, pos := "text.go:112", after := #[{ on := 2, ground := Ground.data }], guard := none }) (v := ?_) rfl (by kernel_rfl) (by kernel_rfl) (by kernel_rfl) (by kernel_rfl) (by kernel_rfl) (fun _ _ _ h => h) (Or.inl ⟨by rfl, fun w hS => ?_⟩) y2 ?_
              rotate_left
              · (skip; go_simp; first | done | with_reducible rfl)
              try simp only [Act.put, List.setIfInBounds_toArray, List.set_cons_zero, List.set_cons_succ]
              refine wpAnyW_take (i := 4) (oi := { dst := some 41, op := Op.move (Operand.tmp 7), type := 3, pos := "text.go:112", after := #[], guard := none }) (v := ?_) rfl (by kernel_rfl) (by kernel_rfl) (by kernel_rfl) (by kernel_rfl) (fun _ _ _ h => h) (Or.inl ⟨by rfl, fun w _ => ?_⟩) ?_
              rotate_left
              · (go_simp; first | done | with_reducible rfl)
              try simp only [Act.put, List.setIfInBounds_toArray, List.set_cons_zero, List.set_cons_succ]
              refine wpAnyW_ready (rs := [5]) (by kernel_rfl) (by simp) ?_
              refine (AllReadyW.cons (o := { dst := some 42, op := Op.call { callee := Callee.value (Operand.func 79), args := #[Operand.tmp 41], argTypes := #[3] }, type := 9, pos := "text.go:112", after := #[{ on := 4, ground := Ground.data }], guard := none }) rfl (fun K hK => ?_) AllReadyW.nil)
              go_simp
              refine (btS_any _ _).mono ?_
              rintro e w' ⟨rfl, hw'⟩
              subst w'
              refine hK.out _ _ y2 ?_
              clear hK K
              try simp only [Act.put, List.setIfInBounds_toArray, List.set_cons_zero, List.set_cons_succ]
              refine wpAnyW_ready (rs := [6]) (by kernel_rfl) (by simp) ?_
              refine (AllReadyW.cons (o := { dst := some 43, op := Op.call { callee := Callee.value (Operand.tmp 40), args := #[Operand.tmp 42], argTypes := #[9] }, type := 4, pos := "text.go:112", after := #[{ on := 3, ground := Ground.data }, { on := 5, ground := Ground.data }, { on := 5, ground := Ground.chain }], guard := none }) rfl (fun K hK => ?_) AllReadyW.nil)
              go_simp
              refine (hpb.out _ (HI2.out.bw (by repeat (first | exact Bw.refl _ | apply Bw.drew)))).mono ?_
              rintro e w3 ⟨he3, hst3, hi3⟩
              rw [F1.out] at he3
              subst he3
              have HI3 := hid (hi3 F1.out)
              have p2 := HI3.out.c2
              have HKR3 := hid (HKR2.out.sz ((HI2.out.sz (by repeat (first | exact Bw.refl _ | apply Bw.drew))).trans hst3) HLO.out.1 HLO.out.2)
              have HT3 := hid (HT2.out.trans ((HI2.out.sz (by repeat (first | exact Bw.refl _ | apply Bw.drew))).trans hst3))
              clear hst3 hi3
              refine hK.out _ _ p2 ?_
              clear hK K
              try simp only [Act.put, List.setIfInBounds_toArray, List.set_cons_zero, List.set_cons_succ]
              refine wpAnyW_take (i := 7) (oi := { dst := some 44, op := Op.unOp UnOp.not 4 (Operand.tmp 43), type := 4, pos := "text.go:112", after := #[{ on := 6, ground := Ground.data }], guard := none }) (v := ?_) rfl (by kernel_rfl) (by kernel_rfl) (by kernel_rfl) (by kernel_rfl) (fun _ _ _ h => h) (Or.inl ⟨by rfl, fun w _ => ?_⟩) ?_
              rotate_left
              · (go_simp; first | done | with_reducible rfl)
              try simp only [Act.put, List.setIfInBounds_toArray, List.set_cons_zero, List.set_cons_succ]
              refine wpAnyW_take (i := 8) (oi := { dst := some 45, op := Op.move (Operand.tmp 44), type := 4, pos := "text.go:112", after := #[{ on := 7, ground := Ground.data }, { on := 6, ground := Ground.chain }], guard := none }) (v := ?_) rfl (by kernel_rfl) (by kernel_rfl) (by kernel_rfl) (by kernel_rfl) (fun _ _ _ h => h) (Or.inl ⟨by rfl, fun w _ => ?_⟩) ?_
              rotate_left
              · (go_simp; first | done | with_reducible rfl)
              try simp only [Act.put, List.setIfInBounds_toArray, List.set_cons_zero, List.set_cons_succ]
              refine wpAnyW_take (i := 9) (oi := { dst := some 46, op := Op.move (Operand.tmp 0), type := 96, pos := "text.go:112", after := #[{ on := 8, ground := Ground.guard }], guard := some (8, false) }) (v := ?_) rfl (by kernel_rfl) (by kernel_rfl) (by kernel_rfl) (by kernel_rfl) (fun _ _ _ h => h) (Or.inl ⟨by rfl, fun w _ => ?_⟩) ?_
              rotate_left
              · (go_simp; first | done | with_reducible rfl)
              try simp only [Act.put, List.setIfInBounds_toArray, List.set_cons_zero, List.set_cons_succ]
              refine wpAnyW_take (i := 10) (oi := { dst := some 47, op := Op.nilCheck (Operand.tmp 46), type := 0, pos := "text.go:112", after := #[{ on := 9, ground := Ground.data }, { on := 8, ground := Ground.guard }], guard := some (8, false) }) (v := ?_) rfl (by kernel_rfl) (by kernel_rfl) (by kernel_rfl) (by kernel_rfl) (fun _ _ _ h => h) (Or.inl ⟨by rfl, fun w _ => ?_⟩) ?_
              rotate_left
              · (go_simp; first | done | with_reducible rfl)
              try simp only [Act.put, List.setIfInBounds_toArray, List.set_cons_zero, List.set_cons_succ]
              refine wpAnyW_take (i := 11) (oi := { dst := some 48, op := Op.fieldAddr 72 (Operand.tmp 47) 2, type := 0, pos := "text.go:112", after := #[{ on := 10, ground := Ground.data }, { on := 8, ground := Ground.guard }], guard := some (8, false) }) (v := ?_) rfl (by kernel_rfl) (by kernel_rfl) (by kernel_rfl) (by kernel_rfl) (fun _ _ _ h => h) (Or.inl ⟨by rfl, fun w _ => ?_⟩) ?_
              rotate_left
              · (go_simp; first | done | with_reducible rfl)
              try simp only [Act.put, List.setIfInBounds_toArray, List.set_cons_zero, List.set_cons_succ]
              refine wpAnyW_load (i := 12) (oi := { dst := some 49, op := Op.load 69 (Operand.tmp 48), type := 69, pos := "text.go:112", after := #[{ on := 11, ground := Ground.data }, { on := 8, ground := Ground.guard }], guard := some (8, false) }) (v := ?_) rfl (by kernel_rfl) (by kernel_rfl) (by kernel_rfl) (by kernel_rfl) (by kernel_rfl) (fun _ _ _ h => h) (Or.inl ⟨by rfl, fun w hS => ?_⟩) p2 ?_
              rotate_left
              · (skip; go_simp; first | done | with_reducible rfl)
              try simp only [Act.put, List.setIfInBounds_toArray, List.set_cons_zero, List.set_cons_succ]
              refine wpAnyW_take (i := 13) (oi := { dst := some 50, op := Op.move (Operand.tmp 8), type := 9, pos := "text.go:112", after := #[{ on := 8, ground := Ground.guard }], guard := some (8, false) }) (v := ?_) rfl (by kernel_rfl) (by kernel_rfl) (by kernel_rfl) (by kernel_rfl) (fun _ _ _ h => h) (Or.inl ⟨by rfl, fun w _ => ?_⟩) ?_
              rotate_left
              · (go_simp; first | done | with_reducible rfl)
              try simp only [Act.put, List.setIfInBounds_toArray, List.set_cons_zero, List.set_cons_succ]
              refine wpAnyW_ready (rs := [14]) (by kernel_rfl) (by simp) ?_
              refine (AllReadyW.cons (o := { dst := some 51, op := Op.call { callee := Callee.value (Operand.tmp 49), args := #[Operand.tmp 50], argTypes := #[9] }, type := 4, pos := "text.go:112", after := #[{ on := 12, ground := Ground.data }, { on := 13, ground := Ground.data }, { on := 8, ground := Ground.chain }, { on := 8, ground := Ground.guard }], guard := some (8, false) }) rfl (fun K hK => ?_) AllReadyW.nil)
              go_simp
              refine (hpk.out _ HI3.out).mono ?_
              rintro e HI4w ⟨he3, hst3, hi3⟩
              rw [F2.out] at he3
              subst he3
              have HI4 := hid (hi3 F2.out)
              have p3 := HI4.out.c2
              have HKR4 := hid (HKR3.out.sz hst3 HLO.out.1 HLO.out.2)
              have HT4 := hid (HT3.out.trans hst3)
              clear hst3 hi3
              refine hK.out _ _ p3 ?_
              clear hK K
              try simp only [Act.put, List.setIfInBounds_toArray, List.set_cons_zero, List.set_cons_succ]
              refine wpAnyW_take (i := 15) (oi := { dst := some 52, op := Op.unOp UnOp.not 4 (Operand.tmp 51), type := 4, pos := "text.go:112", after := #[{ on := 14, ground := Ground.data }, { on := 8, ground := Ground.guard }], guard := some (8, false) }) (v := ?_) rfl (by kernel_rfl) (by kernel_rfl) (by kernel_rfl) (by kernel_rfl) (fun _ _ _ h => h) (Or.inl ⟨by rfl, fun w _ => ?_⟩) ?_
              rotate_left
              · (go_simp; first | done | with_reducible rfl)
              try simp only [Act.put, List.setIfInBounds_toArray, List.set_cons_zero, List.set_cons_succ]
              refine wpAnyW_take (i := 16) (oi := { dst := some 53, op := Op.pick (Operand.tmp 45) (Operand.const (Value.bool true)) (Operand.tmp 52), type := 4, pos := "text.go:112", after := #[{ on := 8, ground := Ground.data }, { on := 15, ground := Ground.data }], guard := none }) (v := ?_) rfl (by kernel_rfl) (by kernel_rfl) (by kernel_rfl) (by kernel_rfl) (fun _ _ _ h => h) (Or.inl ⟨by rfl, fun w _ => ?_⟩) ?_
              rotate_left
              · (go_simp; first | done | with_reducible rfl)
              try simp only [Act.put, List.setIfInBounds_toArray, List.set_cons_zero, List.set_cons_succ]
              refine wpAnyW_take (i := 17) (oi := { dst := some 54, op := Op.move (Operand.tmp 53), type := 4, pos := "text.go:112", after := #[{ on := 16, ground := Ground.data }, { on := 14, ground := Ground.chain }], guard := none }) (v := ?_) rfl (by kernel_rfl) (by kernel_rfl) (by kernel_rfl) (by kernel_rfl) (fun _ _ _ h => h) (Or.inl ⟨by rfl, fun w _ => ?_⟩) ?_
              rotate_left
              · (go_simp; first | done | with_reducible rfl)
              try simp only [Act.put, List.setIfInBounds_toArray, List.set_cons_zero, List.set_cons_succ]
              refine wpAnyW_take (i := 18) (oi := { dst := some 55, op := Op.move (Operand.tmp 0), type := 96, pos := "text.go:112", after := #[{ on := 17, ground := Ground.guard }], guard := some (17, false) }) (v := ?_) rfl (by kernel_rfl) (by kernel_rfl) (by kernel_rfl) (by kernel_rfl) (fun _ _ _ h => h) (Or.inl ⟨by rfl, fun w _ => ?_⟩) ?_
              rotate_left
              · (go_simp; first | done | with_reducible rfl)
              try simp only [Act.put, List.setIfInBounds_toArray, List.set_cons_zero, List.set_cons_succ]
              refine wpAnyW_take (i := 19) (oi := { dst := some 56, op := Op.nilCheck (Operand.tmp 55), type := 0, pos := "text.go:112", after := #[{ on := 18, ground := Ground.data }, { on := 17, ground := Ground.guard }], guard := some (17, false) }) (v := ?_) rfl (by kernel_rfl) (by kernel_rfl) (by kernel_rfl) (by kernel_rfl) (fun _ _ _ h => h) (Or.inl ⟨by rfl, fun w _ => ?_⟩) ?_
              rotate_left
              · (go_simp; first | done | with_reducible rfl)
              try simp only [Act.put, List.setIfInBounds_toArray, List.set_cons_zero, List.set_cons_succ]
              refine wpAnyW_take (i := 20) (oi := { dst := some 57, op := Op.fieldAddr 72 (Operand.tmp 56) 2, type := 0, pos := "text.go:112", after := #[{ on := 19, ground := Ground.data }, { on := 17, ground := Ground.guard }], guard := some (17, false) }) (v := ?_) rfl (by kernel_rfl) (by kernel_rfl) (by kernel_rfl) (by kernel_rfl) (fun _ _ _ h => h) (Or.inl ⟨by rfl, fun w _ => ?_⟩) ?_
              rotate_left
              · (go_simp; first | done | with_reducible rfl)
              try simp only [Act.put, List.setIfInBounds_toArray, List.set_cons_zero, List.set_cons_succ]
              refine wpAnyW_load (i := 21) (oi := { dst := some 58, op := Op.load 69 (Operand.tmp 57), type := 69, pos := "text.go:112", after := #[{ on := 20, ground := Ground.data }, { on := 17, ground := Ground.guard }], guard := some (17, false) }) (v := ?_) rfl (by kernel_rfl) (by kernel_rfl) (by kernel_rfl) (by kernel_rfl) (by kernel_rfl) (fun _ _ _ h => h) (Or.inl ⟨by rfl, fun w hS => ?_⟩) p3 ?_
              rotate_left
              · (skip; go_simp; first | done | with_reducible rfl)
              try simp only [Act.put, List.setIfInBounds_toArray, List.set_cons_zero, List.set_cons_succ]
              refine wpAnyW_ready (rs := [22]) (by kernel_rfl) (by simp) ?_
              refine (AllReadyW.cons (o := { dst := some 59, op := Op.call { callee := Callee.value (Operand.tmp 58), args := #[Operand.const (Value.string { data := #[58, 32] })], argTypes := #[9] }, type := 4, pos := "text.go:112", after := #[{ on := 21, ground := Ground.data }, { on := 17, ground := Ground.chain }, { on := 17, ground := Ground.guard }], guard := some (17, false) }) rfl (fun K hK => ?_) AllReadyW.nil)
              go_simp
              refine (hpc.out _ HI4.out).mono ?_
              rintro e HI5w ⟨he3, hst3, _⟩
              rw [F3.out] at he3
              subst he3
              obtain ⟨_, _, p4⟩ := HI4.out.cs hst3
              have HKR5 := hid (HKR4.out.sz hst3 HLO.out.1 HLO.out.2)
              have HT5 := hid (HT4.out.trans hst3)
              clear hst3
              refine hK.out _ _ p4 ?_
              clear hK K
              try simp only [Act.put, List.setIfInBounds_toArray, List.set_cons_zero, List.set_cons_succ]
              refine wpAnyW_take (i := 23) (oi := { dst := some 60, op := Op.unOp UnOp.not 4 (Operand.tmp 59), type := 4, pos := "text.go:112", after := #[{ on := 22, ground := Ground.data }, { on := 17, ground := Ground.guard }], guard := some (17, false) }) (v := ?_) rfl (by kernel_rfl) (by kernel_rfl) (by kernel_rfl) (by kernel_rfl) (fun _ _ _ h => h) (Or.inl ⟨by rfl, fun w _ => ?_⟩) ?_
              rotate_left
              · (go_simp; first | done | with_reducible rfl)
              try simp only [Act.put, List.setIfInBounds_toArray, List.set_cons_zero, List.set_cons_succ]
              refine wpAnyW_take (i := 24) (oi := { dst := some 61, op := Op.pick (Operand.tmp 54) (Operand.const (Value.bool true)) (Operand.tmp 60), type := 4, pos := "text.go:112", after := #[{ on := 17, ground := Ground.data }, { on := 23, ground := Ground.data }], guard := none }) (v := ?_) rfl (by kernel_rfl) (by kernel_rfl) (by kernel_rfl) (by kernel_rfl) (fun _ _ _ h => h) (Or.inl ⟨by rfl, fun w _ => ?_⟩) ?_
              rotate_left
              · (go_simp; first | done | with_reducible rfl)
              try simp only [Act.put, List.setIfInBounds_toArray, List.set_cons_zero, List.set_cons_succ]
              refine wpAnyW_take (i := 25) (oi := { dst := some 62, op := Op.move (Operand.tmp 61), type := 4, pos := "text.go:112", after := #[{ on := 24, ground := Ground.data }, { on := 22, ground := Ground.chain }], guard := none }) (v := ?_) rfl (by kernel_rfl) (by kernel_rfl) (by kernel_rfl) (by kernel_rfl) (fun _ _ _ h => h) (Or.inl ⟨by rfl, fun w _ => ?_⟩) ?_
              rotate_left
              · (go_simp; first | done | with_reducible rfl)
              try simp only [Act.put, List.setIfInBounds_toArray, List.set_cons_zero, List.set_cons_succ]
              refine wpAnyW_take (i := 26) (oi := { dst := some 63, op := Op.move (Operand.tmp 0), type := 96, pos := "text.go:112", after := #[{ on := 25, ground := Ground.guard }], guard := some (25, false) }) (v := undef) rfl (by kernel_rfl) (by kernel_rfl) (by kernel_rfl) (by kernel_rfl) (fun _ _ _ h => h) (Or.inr ⟨by rfl, rfl⟩) ?_
              try simp only [Act.put, List.setIfInBounds_toArray, List.set_cons_zero, List.set_cons_succ]
              refine wpAnyW_take (i := 27) (oi := { dst := some 64, op := Op.move (Operand.tmp 9), type := 27, pos := "text.go:112", after := #[{ on := 25, ground := Ground.guard }], guard := some (25, false) }) (v := undef) rfl (by kernel_rfl) (by kernel_rfl) (by kernel_rfl) (by kernel_rfl) (fun _ _ _ h => h) (Or.inr ⟨by rfl, rfl⟩) ?_
              try simp only [Act.put, List.setIfInBounds_toArray, List.set_cons_zero, List.set_cons_succ]
              refine wpAnyW_take (i := 28) (oi := { dst := some 65, op := Op.call { callee := Callee.value (Operand.func 27), args := #[Operand.tmp 63, Operand.tmp 64], argTypes := #[96, 27] }, type := 4, pos := "text.go:112", after := #[{ on := 26, ground := Ground.data }, { on := 27, ground := Ground.data }, { on := 25, ground := Ground.chain }, { on := 25, ground := Ground.guard }], guard := some (25, false) }) (v := undef) rfl (by kernel_rfl) (by kernel_rfl) (by kernel_rfl) (by kernel_rfl) (fun _ _ _ h => h) (Or.inr ⟨by rfl, rfl⟩) ?_
              try simp only [Act.put, List.setIfInBounds_toArray, List.set_cons_zero, List.set_cons_succ]
              refine wpAnyW_take (i := 29) (oi := { dst := some 66, op := Op.unOp UnOp.not 4 (Operand.tmp 65), type := 4, pos := "text.go:112", after := #[{ on := 28, ground := Ground.data }, { on := 25, ground := Ground.guard }], guard := some (25, false) }) (v := undef) rfl (by kernel_rfl) (by kernel_rfl) (by kernel_rfl) (by kernel_rfl) (fun _ _ _ h => h) (Or.inr ⟨by rfl, rfl⟩) ?_
              try simp only [Act.put, List.setIfInBounds_toArray, List.set_cons_zero, List.set_cons_succ]
              refine wpAnyW_take (i := 30) (oi := { dst := some 67, op := Op.pick (Operand.tmp 62) (Operand.const (Value.bool true)) (Operand.tmp 66), type := 4, pos := "text.go:112", after := #[{ on := 25, ground := Ground.data }, { on := 29, ground := Ground.data }], guard := none }) (v := ?_) rfl (by kernel_rfl) (by kernel_rfl) (by kernel_rfl) (by kernel_rfl) (fun _ _ _ h => h) (Or.inl ⟨by rfl, fun w _ => ?_⟩) ?_
              rotate_left
              · (go_simp; first | done | with_reducible rfl)
              try simp only [Act.put, List.setIfInBounds_toArray, List.set_cons_zero, List.set_cons_succ]
              refine wpAnyW_done (by kernel_rfl) ?_ _
              go_wp2
              all_goals go_ret
              all_goals exact sd_no FF.out HT5.out
          · have F3 := hid f3
            have hl3 : (xs ++ A ++ btw k ++ Lib.strCells z ++ [Value.int .u8 58, Value.int .u8 32]).length ≤ 65536 := by have := fits_le f3; rw [List.length_append]; exact this
            have HL3 := hid hl3
            have FC := hid (FB.out.trans (fits_app f3))
            cases f4 : fits (xs ++ A ++ btw k ++ Lib.strCells z ++ [Value.int .u8 58, Value.int .u8 32]) (f x)
            · have FF := hid (FC.out.trans (fits_fst f4))
              have F4 := hid f4
              clear f1 f2 f3 f4 hl1 hl2 hl3
              as_aux_lemma =>
                refine wp_region_W (fun w' => w'.cell? ⟨sb, 2, none⟩ = some (.func (.func 26) #[] #[.pointer (some ⟨bt, 0, none⟩)])) (fun j => if j == 5 || j == 6 || j == 14 || j == 22 || j == 28 then 0 else 1) (by kernel_rfl) ?_
                refine wpAnyW_take (i := 0) (oi := { dst := some 37, op := Op.move (Operand.tmp 0), type := 96, pos := "text.go:112", after := #[], guard := none }) (v := ?_) rfl (by kernel_rfl) (by kernel_rfl) (by kernel_rfl) (by kernel_rfl) (fun _ _ _ h => h) (Or.inl ⟨by rfl, fun w _ => ?_⟩) ?_
                rotate_left
                · (go_simp; first | done | with_reducible rfl)
                try simp only [Act.put, List.setIfInBounds_toArray, List.set_cons_zero, List.set_cons_succ]
                refine wpAnyW_take (i := 1) (oi := { dst := some 38, op := Op.nilCheck (Operand.tmp 37), type := 0, pos := "text.go:112", after := #[{ on := 0, ground := Ground.data }], guard := none }) (v := ?_) rfl (by kernel_rfl) (by kernel_rfl) (by kernel_rfl) (by kernel_rfl) (fun _ _ _ h => h) (Or.inl ⟨by rfl, fun w _ => ?_⟩) ?_
                rotate_left
                · (go_simp; first | done | with_reducible rfl)
                try simp only [Act.put, List.setIfInBounds_toArray, List.set_cons_zero, List.set_cons_succ]
                refine wpAnyW_take (i := 2) (oi := { dst := some 39, op := Op.fieldAddr 72 (Operand.tmp 38) 2, type := 0, pos := "text.go:112", after := #[{ on := 1, ground := Ground.data }], guard := none }) (v := ?_) rfl (by kernel_rfl) (by kernel_rfl) (by kernel_rfl) (by kernel_rfl) (fun _ _ _ h => h) (Or.inl ⟨by rfl, fun w _ => ?_⟩) ?_
                rotate_left
                · (go_simp; first | done | with_reducible rfl)
                try simp only [Act.put, List.setIfInBounds_toArray, List.set_cons_zero, List.set_cons_succ]
                refine wpAnyW_load (i := 3) (oi := { dst := some 40, op := Op.load 69 (Operand.tmp 39), type := 69, pos := "text.go:112", after := #[{ on := 2, ground := Ground.data }], guard := none }) (v := ?_) rfl (by kernel_rfl) (by kernel_rfl) (by kernel_rfl) (by kernel_rfl) (by kernel_rfl) (fun _ _ _ h => h) (Or.inl ⟨by rfl, fun w hS => ?_⟩) y2 ?_
                rotate_left
                · (skip; go_simp; first | done | with_reducible rfl)
                try simp only [Act.put, List.setIfInBounds_toArray, List.set_cons_zero, List.set_cons_succ]
                refine wpAnyW_take (i := 4) (oi := { dst := some 41, op := Op.move (Operand.tmp 7), type := 3, pos := "text.go:112", after := #[], guard := none }) (v := ?_) rfl (by kernel_rfl) (by kernel_rfl) (by kernel_rfl) (by kernel_rfl) (fun _ _ _ h => h) (Or.inl ⟨by rfl, fun w _ => ?_⟩) ?_
                rotate_left
                · (go_simp; first | done | with_reducible rfl)
                try simp only [Act.put, List.setIfInBounds_toArray, List.set_cons_zero, List.set_cons_succ]
                refine wpAnyW_ready (rs := [5]) (by kernel_rfl) (by simp) ?_
                refine (AllReadyW.cons (o := { dst := some 42, op := Op.call { callee := Callee.value (Operand.func 79), args := #[Operand.tmp 41], argTypes := #[3] }, type := 9, pos := "text.go:112", after := #[{ on := 4, ground := Ground.data }], guard := none }) rfl (fun K hK => ?_) AllReadyW.nil)
                go_simp
                refine (btS_any _ _).mono ?_
                rintro e w' ⟨rfl, hw'⟩
                subst w'
                refine hK.out _ _ y2 ?_
                clear hK K
                try simp only [Act.put, List.setIfInBounds_toArray, List.set_cons_zero, List.set_cons_succ]
                refine wpAnyW_ready (rs := [6]) (by kernel_rfl) (by simp) ?_
                refine (AllReadyW.cons (o := { dst := some 43, op := Op.call { callee := Callee.value (Operand.tmp 40), args := #[Operand.tmp 42], argTypes := #[9] }, type := 4, pos := "text.go:112", after := #[{ on := 3, ground := Ground.data }, { on := 5, ground := Ground.data }, { on := 5, ground := Ground.chain }], guard := none }) rfl (fun K hK => ?_) AllReadyW.nil)
                go_simp
                refine (hpb.out _ (HI2.out.bw (by repeat (first | exact Bw.refl _ | apply Bw.drew)))).mono ?_
                rintro e w3 ⟨he3, hst3, hi3⟩
                rw [F1.out] at he3
                subst he3
                have HI3 := hid (hi3 F1.out)
                have p2 := HI3.out.c2
                have HKR3 := hid (HKR2.out.sz ((HI2.out.sz (by repeat (first | exact Bw.refl _ | apply Bw.drew))).trans hst3) HLO.out.1 HLO.out.2)
                have HT3 := hid (HT2.out.trans ((HI2.out.sz (by repeat (first | exact Bw.refl _ | apply Bw.drew))).trans hst3))
                clear hst3 hi3
                refine hK.out _ _ p2 ?_
                clear hK K
                try simp only [Act.put, List.setIfInBounds_toArray, List.set_cons_zero, List.set_cons_succ]
                refine wpAnyW_take (i := 7) (oi := { dst := some 44, op := Op.unOp UnOp.not 4 (Operand.tmp 43), type := 4, pos := "text.go:112", after := #[{ on := 6, ground := Ground.data }], guard := none }) (v := ?_) rfl (by kernel_rfl) (by kernel_rfl) (by kernel_rfl) (by kernel_rfl) (fun _ _ _ h => h) (Or.inl ⟨by rfl, fun w _ => ?_⟩) ?_
                rotate_left
                · (go_simp; first | done | with_reducible rfl)
                try simp only [Act.put, List.setIfInBounds_toArray, List.set_cons_zero, List.set_cons_succ]
                refine wpAnyW_take (i := 8) (oi := { dst := some 45, op := Op.move (Operand.tmp 44), type := 4, pos := "text.go:112", after := #[{ on := 7, ground := Ground.data }, { on := 6, ground := Ground.chain }], guard := none }) (v := ?_) rfl (by kernel_rfl) (by kernel_rfl) (by kernel_rfl) (by kernel_rfl) (fun _ _ _ h => h) (Or.inl ⟨by rfl, fun w _ => ?_⟩) ?_
                rotate_left
                · (go_simp; first | done | with_reducible rfl)
                try simp only [Act.put, List.setIfInBounds_toArray, List.set_cons_zero, List.set_cons_succ]
                refine wpAnyW_take (i := 9) (oi := { dst := some 46, op := Op.move (Operand.tmp 0), type := 96, pos := "text.go:112", after := #[{ on := 8, ground := Ground.guard }], guard := some (8, false) }) (v := ?_) rfl (by kernel_rfl) (by kernel_rfl) (by kernel_rfl) (by kernel_rfl) (fun _ _ _ h => h) (Or.inl ⟨by rfl, fun w _ => ?_⟩) ?_
                rotate_left
                · (go_simp; first | done | with_reducible rfl)
                try simp only [Act.put, List.setIfInBounds_toArray, List.set_cons_zero, List.set_cons_succ]
                refine wpAnyW_take (i := 10) (oi := { dst := some 47, op := Op.nilCheck (Operand.tmp 46), type := 0, pos := "text.go:112", after := #[{ on := 9, ground := Ground.data }, { on := 8, ground := Ground.guard }], guard := some (8, false) }) (v := ?_) rfl (by kernel_rfl) (by kernel_rfl) (by kernel_rfl) (by kernel_rfl) (fun _ _ _ h => h) (Or.inl ⟨by rfl, fun w _ => ?_⟩) ?_
                rotate_left
                · (go_simp; first | done | with_reducible rfl)
                try simp only [Act.put, List.setIfInBounds_toArray, List.set_cons_zero, List.set_cons_succ]
                refine wpAnyW_take (i := 11) (oi := { dst := some 48, op := Op.fieldAddr 72 (Operand.tmp 47) 2, type := 0, pos := "text.go:112", after := #[{ on := 10, ground := Ground.data }, { on := 8, ground := Ground.guard }], guard := some (8, false) }) (v := ?_) rfl (by kernel_rfl) (by kernel_rfl) (by kernel_rfl) (by kernel_rfl) (fun _ _ _ h => h) (Or.inl ⟨by rfl, fun w _ => ?_⟩) ?_
                rotate_left
                · (go_simp; first | done | with_reducible rfl)
                try simp only [Act.put, List.setIfInBounds_toArray, List.set_cons_zero, List.set_cons_succ]
                refine wpAnyW_load (i := 12) (oi := { dst := some 49, op := Op.load 69 (Operand.tmp 48), type := 69, pos := "text.go:112", after := #[{ on := 11, ground := Ground.data }, { on := 8, ground := Ground.guard }], guard := some (8, false) }) (v := ?_) rfl (by kernel_rfl) (by kernel_rfl) (by kernel_rfl) (by kernel_rfl) (by kernel_rfl) (fun _ _ _ h => h) (Or.inl ⟨by rfl, fun w hS => ?_⟩) p2 ?_
                rotate_left
                · (skip; go_simp; first | done | with_reducible rfl)
                try simp only [Act.put, List.setIfInBounds_toArray, List.set_cons_zero, List.set_cons_succ]
                refine wpAnyW_take (i := 13) (oi := { dst := some 50, op := Op.move (Operand.tmp 8), type := 9, pos := "text.go:112", after := #[{ on := 8, ground := Ground.guard }], guard := some (8, false) }) (v := ?_) rfl (by kernel_rfl) (by kernel_rfl) (by kernel_rfl) (by kernel_rfl) (fun _ _ _ h => h) (Or.inl ⟨by rfl, fun w _ => ?_⟩) ?_
                rotate_left
                · (go_simp; first | done | with_reducible rfl)
                try simp only [Act.put, List.setIfInBounds_toArray, List.set_cons_zero, List.set_cons_succ]
                refine wpAnyW_ready (rs := [14]) (by kernel_rfl) (by simp) ?_
                refine (AllReadyW.cons (o := { dst := some 51, op := Op.call { callee := Callee.value (Operand.tmp 49), args := #[Operand.tmp 50], argTypes := #[9] }, type := 4, pos := "text.go:112", after := #[{ on := 12, ground := Ground.data }, { on := 13, ground := Ground.data }, { on := 8, ground := Ground.chain }, { on := 8, ground := Ground.guard }], guard := some (8, false) }) rfl (fun K hK => ?_) AllReadyW.nil)
                go_simp
                refine (hpk.out _ HI3.out).mono ?_
                rintro e HI4w ⟨he3, hst3, hi3⟩
                rw [F2.out] at he3
                subst he3
                have HI4 := hid (hi3 F2.out)
                have p3 := HI4.out.c2
                have HKR4 := hid (HKR3.out.sz hst3 HLO.out.1 HLO.out.2)
                have HT4 := hid (HT3.out.trans hst3)
                clear hst3 hi3
                refine hK.out _ _ p3 ?_
                clear hK K
                try simp only [Act.put, List.setIfInBounds_toArray, List.set_cons_zero, List.set_cons_succ]
                refine wpAnyW_take (i := 15) (oi := { dst := some 52, op := Op.unOp UnOp.not 4 (Operand.tmp 51), type := 4, pos := "text.go:112", after := #[{ on := 14, ground := Ground.data }, { on := 8, ground := Ground.guard }], guard := some (8, false) }) (v := ?_) rfl (by kernel_rfl) (by kernel_rfl) (by kernel_rfl) (by kernel_rfl) (fun _ _ _ h => h) (Or.inl ⟨by rfl, fun w _ => ?_⟩) ?_
                rotate_left
                · (go_simp; first | done | with_reducible rfl)
                try simp only [Act.put, List.setIfInBounds_toArray, List.set_cons_zero, List.set_cons_succ]
                refine wpAnyW_take (i := 16) (oi := { dst := some 53, op := Op.pick (Operand.tmp 45) (Operand.const (Value.bool true)) (Operand.tmp 52), type := 4, pos := "text.go:112", after := #[{ on := 8, ground := Ground.data }, { on := 15, ground := Ground.data }], guard := none }) (v := ?_) rfl (by kernel_rfl) (by kernel_rfl) (by kernel_rfl) (by kernel_rfl) (fun _ _ _ h => h) (Or.inl ⟨by rfl, fun w _ => ?_⟩) ?_
                rotate_left
                · (go_simp; first | done | with_reducible rfl)
                try simp only [Act.put, List.setIfInBounds_toArray, List.set_cons_zero, List.set_cons_succ]
                refine wpAnyW_take (i := 17) (oi := { dst := some 54, op := Op.move (Operand.tmp 53), type := 4, pos := "text.go:112", after := #[{ on := 16, ground := Ground.data }, { on := 14, ground := Ground.chain }], guard := none }) (v := ?_) rfl (by kernel_rfl) (by kernel_rfl) (by kernel_rfl) (by kernel_rfl) (fun _ _ _ h => h) (Or.inl ⟨by rfl, fun w _ => ?_⟩) ?_
                rotate_left
                · (go_simp; first | done | with_reducible rfl)
                try simp only [Act.put, List.setIfInBounds_toArray, List.set_cons_zero, List.set_cons_succ]
                refine wpAnyW_take (i := 18) (oi := { dst := some 55, op := Op.move (Operand.tmp 0), type := 96, pos := "text.go:112", after := #[{ on := 17, ground := Ground.guard }], guard := some (17, false) }) (v := ?_) rfl (by kernel_rfl) (by kernel_rfl) (by kernel_rfl) (by kernel_rfl) (fun _ _ _ h => h) (Or.inl ⟨by rfl, fun w _ => ?_⟩) ?_
                rotate_left
                · (go_simp; first | done | with_reducible rfl)
                try simp only [Act.put, List.setIfInBounds_toArray, List.set_cons_zero, List.set_cons_succ]
                refine wpAnyW_take (i := 19) (oi := { dst := some 56, op := Op.nilCheck (Operand.tmp 55), type := 0, pos := "text.go:112", after := #[{ on := 18, ground := Ground.data }, { on := 17, ground := Ground.guard }], guard := some (17, false) }) (v := ?_) rfl (by kernel_rfl) (by kernel_rfl) (by kernel_rfl) (by kernel_rfl) (fun _ _ _ h => h) (Or.inl ⟨by rfl, fun w _ => ?_⟩) ?_
                rotate_left
                · (go_simp; first | done | with_reducible rfl)
                try simp only [Act.put, List.setIfInBounds_toArray, List.set_cons_zero, List.set_cons_succ]
                refine wpAnyW_take (i := 20) (oi := { dst := some 57, op := Op.fieldAddr 72 (Operand.tmp 56) 2, type := 0, pos := "text.go:112", after := #[{ on := 19, ground := Ground.data }, { on := 17, ground := Ground.guard }], guard := some (17, false) }) (v := ?_) rfl (by kernel_rfl) (by kernel_rfl) (by kernel_rfl) (by kernel_rfl) (fun _ _ _ h => h) (Or.inl ⟨by rfl, fun w _ => ?_⟩) ?_
                rotate_left
                · (go_simp; first | done | with_reducible rfl)
                try simp only [Act.put, List.setIfInBounds_toArray, List.set_cons_zero, List.set_cons_succ]
                refine wpAnyW_load (i := 21) (oi := { dst := some 58, op := Op.load 69 (Operand.tmp 57), type := 69, pos := "text.go:112", after := #[{ on := 20, ground := Ground.data }, { on := 17, ground := Ground.guard }], guard := some (17, false) }) (v := ?_) rfl (by kernel_rfl) (by kernel_rfl) (by kernel_rfl) (by kernel_rfl) (by kernel_rfl) (fun _ _ _ h => h) (Or.inl ⟨by rfl, fun w hS => ?_⟩) p3 ?_
                rotate_left
                · (skip; go_simp; first | done | with_reducible rfl)
                try simp only [Act.put, List.setIfInBounds_toArray, List.set_cons_zero, List.set_cons_succ]
                refine wpAnyW_ready (rs := [22]) (by kernel_rfl) (by simp) ?_
                refine (AllReadyW.cons (o := { dst := some 59, op := Op.call { callee := Callee.value (Operand.tmp 58), args := #[Operand.const (Value.string { data := #[58, 32] })], argTypes := #[9] }, type := 4, pos := "text.go:112", after := #[{ on := 21, ground := Ground.data }, { on := 17, ground := Ground.chain }, { on := 17, ground := Ground.guard }], guard := some (17, false) }) rfl (fun K hK => ?_) AllReadyW.nil)
                go_simp
                refine (hpc.out _ HI4.out).mono ?_
                rintro e HI5w ⟨he3, hst3, hi3⟩
                rw [F3.out] at he3
                subst he3
                have HI5 := hid (hi3 F3.out)
                have p4 := HI5.out.c2
                have HKR5 := hid (HKR4.out.sz hst3 HLO.out.1 HLO.out.2)
                have HT5 := hid (HT4.out.trans hst3)
                clear hst3 hi3
                refine hK.out _ _ p4 ?_
                clear hK K
                try simp only [Act.put, List.setIfInBounds_toArray, List.set_cons_zero, List.set_cons_succ]
                refine wpAnyW_take (i := 23) (oi := { dst := some 60, op := Op.unOp UnOp.not 4 (Operand.tmp 59), type := 4, pos := "text.go:112", after := #[{ on := 22, ground := Ground.data }, { on := 17, ground := Ground.guard }], guard := some (17, false) }) (v := ?_) rfl (by kernel_rfl) (by kernel_rfl) (by kernel_rfl) (by kernel_rfl) (fun _ _ _ h => h) (Or.inl ⟨by rfl, fun w _ => ?_⟩) ?_
                rotate_left
                · (go_simp; first | done | with_reducible rfl)
                try simp only [Act.put, List.setIfInBounds_toArray, List.set_cons_zero, List.set_cons_succ]
                refine wpAnyW_take (i := 24) (oi := { dst := some 61, op := Op.pick (Operand.tmp 54) (Operand.const (Value.bool true)) (Operand.tmp 60), type := 4, pos := "text.go:112", after := #[{ on := 17, ground := Ground.data }, { on := 23, ground := Ground.data }], guard := none }) (v := ?_) rfl (by kernel_rfl) (by kernel_rfl) (by kernel_rfl) (by kernel_rfl) (fun _ _ _ h => h) (Or.inl ⟨by rfl, fun w _ => ?_⟩) ?_
                rotate_left
                · (go_simp; first | done | with_reducible rfl)
                try simp only [Act.put, List.setIfInBounds_toArray, List.set_cons_zero, List.set_cons_succ]
                refine wpAnyW_take (i := 25) (oi := { dst := some 62, op := Op.move (Operand.tmp 61), type := 4, pos := "text.go:112", after := #[{ on := 24, ground := Ground.data }, { on := 22, ground := Ground.chain }], guard := none }) (v := ?_) rfl (by kernel_rfl) (by kernel_rfl) (by kernel_rfl) (by kernel_rfl) (fun _ _ _ h => h) (Or.inl ⟨by rfl, fun w _ => ?_⟩) ?_
                rotate_left
                · (go_simp; first | done | with_reducible rfl)
                try simp only [Act.put, List.setIfInBounds_toArray, List.set_cons_zero, List.set_cons_succ]
                refine wpAnyW_take (i := 26) (oi := { dst := some 63, op := Op.move (Operand.tmp 0), type := 96, pos := "text.go:112", after := #[{ on := 25, ground := Ground.guard }], guard := some (25, false) }) (v := ?_) rfl (by kernel_rfl) (by kernel_rfl) (by kernel_rfl) (by kernel_rfl) (fun _ _ _ h => h) (Or.inl ⟨by rfl, fun w _ => ?_⟩) ?_
                rotate_left
                · (go_simp; first | done | with_reducible rfl)
                try simp only [Act.put, List.setIfInBounds_toArray, List.set_cons_zero, List.set_cons_succ]
                refine wpAnyW_take (i := 27) (oi := { dst := some 64, op := Op.move (Operand.tmp 9), type := 27, pos := "text.go:112", after := #[{ on := 25, ground := Ground.guard }], guard := some (25, false) }) (v := ?_) rfl (by kernel_rfl) (by kernel_rfl) (by kernel_rfl) (by kernel_rfl) (fun _ _ _ h => h) (Or.inl ⟨by rfl, fun w _ => ?_⟩) ?_
                rotate_left
                · (go_simp; first | done | with_reducible rfl)
                try simp only [Act.put, List.setIfInBounds_toArray, List.set_cons_zero, List.set_cons_succ]
                refine wpAnyW_ready (rs := [28]) (by kernel_rfl) (by simp) ?_
                refine (AllReadyW.cons (o := { dst := some 65, op := Op.call { callee := Callee.value (Operand.func 27), args := #[Operand.tmp 63, Operand.tmp 64], argTypes := #[96, 27] }, type := 4, pos := "text.go:112", after := #[{ on := 26, ground := Ground.data }, { on := 27, ground := Ground.data }, { on := 25, ground := Ground.chain }, { on := 25, ground := Ground.guard }], guard := some (25, false) }) rfl (fun K hK => ?_) AllReadyW.nil)
                go_simp
                refine (HF.out HMx.out HUx.out _ _ HT5.out HI5.out HL3.out).mono ?_
                rintro e HI6w ⟨he3, hst3, _⟩
                rw [F4.out] at he3
                subst he3
                obtain ⟨_, _, p5⟩ := HI5.out.cs hst3
                have HT6 := hid (HT5.out.trans hst3)
                clear hst3
                refine hK.out _ _ p5 ?_
                clear hK K
                try simp only [Act.put, List.setIfInBounds_toArray, List.set_cons_zero, List.set_cons_succ]
                refine wpAnyW_take (i := 29) (oi := { dst := some 66, op := Op.unOp UnOp.not 4 (Operand.tmp 65), type := 4, pos := "text.go:112", after := #[{ on := 28, ground := Ground.data }, { on := 25, ground := Ground.guard }], guard := some (25, false) }) (v := ?_) rfl (by kernel_rfl) (by kernel_rfl) (by kernel_rfl) (by kernel_rfl) (fun _ _ _ h => h) (Or.inl ⟨by rfl, fun w _ => ?_⟩) ?_
                rotate_left
                · (go_simp; first | done | with_reducible rfl)
                try simp only [Act.put, List.setIfInBounds_toArray, List.set_cons_zero, List.set_cons_succ]
                refine wpAnyW_take (i := 30) (oi := { dst := some 67, op := Op.pick (Operand.tmp 62) (Operand.const (Value.bool true)) (Operand.tmp 66), type := 4, pos := "text.go:112", after := #[{ on := 25, ground := Ground.data }, { on := 29, ground := Ground.data }], guard := none }) (v := ?_) rfl (by kernel_rfl) (by kernel_rfl) (by kernel_rfl) (by kernel_rfl) (fun _ _ _ h => h) (Or.inl ⟨by rfl, fun w _ => ?_⟩) ?_
                rotate_left
                · (go_simp; first | done | with_reducible rfl)
                try simp only [Act.put, List.setIfInBounds_toArray, List.set_cons_zero, List.set_cons_succ]
                refine wpAnyW_done (by kernel_rfl) ?_ _
                go_wp2
                all_goals go_ret
                all_goals exact sd_no FF.out HT6.out
            · have F4 := hid f4
              have HL4 : Hid ((xs ++ (A ++ (btw k ++ (Lib.strCells z ++ ([Value.int .u8 58, Value.int .u8 32] ++ f x))))).length ≤ 65536) := (by have := fits_le f4; show (xs ++ (A ++ (btw k ++ (Lib.strCells z ++ ([Value.int .u8 58, Value.int .u8 32] ++ f x))))).length ≤ 65536; simp only [List.length_append, List.length_cons, List.length_nil] at this ⊢; omega)
              clear f1 f2 f3 f4 hl1 hl2 hl3
              as_aux_lemma =>
                refine wp_region_W (fun w' => w'.cell? ⟨sb, 2, none⟩ = some (.func (.func 26) #[] #[.pointer (some ⟨bt, 0, none⟩)])) (fun j => if j == 5 || j == 6 || j == 14 || j == 22 || j == 28 then 0 else 1) (by kernel_rfl) ?_
                refine wpAnyW_take (i := 0) (oi := { dst := some 37, op := Op.move (Operand.tmp 0), type := 96, pos := "text.go:112", after := #[], guard := none }) (v := ?_) rfl (by kernel_rfl) (by kernel_rfl) (by kernel_rfl) (by kernel_rfl) (fun _ _ _ h => h) (Or.inl ⟨by rfl, fun w _ => ?_⟩) ?_
                rotate_left
                · (go_simp; first | done | with_reducible rfl)
                try simp only [Act.put, List.setIfInBounds_toArray, List.set_cons_zero, List.set_cons_succ]
                refine wpAnyW_take (i := 1) (oi := { dst := some 38, op := Op.nilCheck (Operand.tmp 37), type := 0, pos := "text.go:112", after := #[{ on := 0, ground := Ground.data }], guard := none }) (v := ?_) rfl (by kernel_rfl) (by kernel_rfl) (by kernel_rfl) (by kernel_rfl) (fun _ _ _ h => h) (Or.inl ⟨by rfl, fun w _ => ?_⟩) ?_
                rotate_left
                · (go_simp; first | done | with_reducible rfl)
                try simp only [Act.put, List.setIfInBounds_toArray, List.set_cons_zero, List.set_cons_succ]
                refine wpAnyW_take (i := 2) (oi := { dst := some 39, op := Op.fieldAddr 72 (Operand.tmp 38) 2, type := 0, pos := "text.go:112", after := #[{ on := 1, ground := Ground.data }], guard := none }) (v := ?_) rfl (by kernel_rfl) (by kernel_rfl) (by kernel_rfl) (by kernel_rfl) (fun _ _ _ h => h) (Or.inl ⟨by rfl, fun w _ => ?_⟩) ?_
                rotate_left
                · (go_simp; first | done | with_reducible rfl)
                try simp only [Act.put, List.setIfInBounds_toArray, List.set_cons_zero, List.set_cons_succ]
                refine wpAnyW_load (i := 3) (oi := { dst := some 40, op := Op.load 69 (Operand.tmp 39), type := 69, pos := "text.go:112", after := #[{ on := 2, ground := Ground.data }], guard := none }) (v := ?_) rfl (by kernel_rfl) (by kernel_rfl) (by kernel_rfl) (by kernel_rfl) (by kernel_rfl) (fun _ _ _ h => h) (Or.inl ⟨by rfl, fun w hS => ?_⟩) y2 ?_
                rotate_left
                · (skip; go_simp; first | done | with_reducible rfl)
                try simp only [Act.put, List.setIfInBounds_toArray, List.set_cons_zero, List.set_cons_succ]
                refine wpAnyW_take (i := 4) (oi := { dst := some 41, op := Op.move (Operand.tmp 7), type := 3, pos := "text.go:112", after := #[], guard := none }) (v := ?_) rfl (by kernel_rfl) (by kernel_rfl) (by kernel_rfl) (by kernel_rfl) (fun _ _ _ h => h) (Or.inl ⟨by rfl, fun w _ => ?_⟩) ?_
                rotate_left
                · (go_simp; first | done | with_reducible rfl)
                try simp only [Act.put, List.setIfInBounds_toArray, List.set_cons_zero, List.set_cons_succ]
                refine wpAnyW_ready (rs := [5]) (by kernel_rfl) (by simp) ?_
                refine (AllReadyW.cons (o := { dst := some 42, op := Op.call { callee := Callee.value (Operand.func 79), args := #[Operand.tmp 41], argTypes := #[3] }, type := 9, pos := "text.go:112", after := #[{ on := 4, ground := Ground.data }], guard := none }) rfl (fun K hK => ?_) AllReadyW.nil)
                go_simp
                refine (btS_any _ _).mono ?_
                rintro e w' ⟨rfl, hw'⟩
                subst w'
                refine hK.out _ _ y2 ?_
                clear hK K
                try simp only [Act.put, List.setIfInBounds_toArray, List.set_cons_zero, List.set_cons_succ]
                refine wpAnyW_ready (rs := [6]) (by kernel_rfl) (by simp) ?_
                refine (AllReadyW.cons (o := { dst := some 43, op := Op.call { callee := Callee.value (Operand.tmp 40), args := #[Operand.tmp 42], argTypes := #[9] }, type := 4, pos := "text.go:112", after := #[{ on := 3, ground := Ground.data }, { on := 5, ground := Ground.data }, { on := 5, ground := Ground.chain }], guard := none }) rfl (fun K hK => ?_) AllReadyW.nil)
                go_simp
                refine (hpb.out _ (HI2.out.bw (by repeat (first | exact Bw.refl _ | apply Bw.drew)))).mono ?_
                rintro e w3 ⟨he3, hst3, hi3⟩
                rw [F1.out] at he3
                subst he3
                have HI3 := hid (hi3 F1.out)
                have p2 := HI3.out.c2
                have HKR3 := hid (HKR2.out.sz ((HI2.out.sz (by repeat (first | exact Bw.refl _ | apply Bw.drew))).trans hst3) HLO.out.1 HLO.out.2)
                have HT3 := hid (HT2.out.trans ((HI2.out.sz (by repeat (first | exact Bw.refl _ | apply Bw.drew))).trans hst3))
                clear hst3 hi3
                refine hK.out _ _ p2 ?_
                clear hK K
                try simp only [Act.put, List.setIfInBounds_toArray, List.set_cons_zero, List.set_cons_succ]
                refine wpAnyW_take (i := 7) (oi := { dst := some 44, op := Op.unOp UnOp.not 4 (Operand.tmp 43), type := 4, pos := "text.go:112", after := #[{ on := 6, ground := Ground.data }], guard := none }) (v := ?_) rfl (by kernel_rfl) (by kernel_rfl) (by kernel_rfl) (by kernel_rfl) (fun _ _ _ h => h) (Or.inl ⟨by rfl, fun w _ => ?_⟩) ?_
                rotate_left
                · (go_simp; first | done | with_reducible rfl)
                try simp only [Act.put, List.setIfInBounds_toArray, List.set_cons_zero, List.set_cons_succ]
                refine wpAnyW_take (i := 8) (oi := { dst := some 45, op := Op.move (Operand.tmp 44), type := 4, pos := "text.go:112", after := #[{ on := 7, ground := Ground.data }, { on := 6, ground := Ground.chain }], guard := none }) (v := ?_) rfl (by kernel_rfl) (by kernel_rfl) (by kernel_rfl) (by kernel_rfl) (fun _ _ _ h => h) (Or.inl ⟨by rfl, fun w _ => ?_⟩) ?_
                rotate_left
                · (go_simp; first | done | with_reducible rfl)
                try simp only [Act.put, List.setIfInBounds_toArray, List.set_cons_zero, List.set_cons_succ]
                refine wpAnyW_take (i := 9) (oi := { dst := some 46, op := Op.move (Operand.tmp 0), type := 96, pos := "text.go:112", after := #[{ on := 8, ground := Ground.guard }], guard := some (8, false) }) (v := ?_) rfl (by kernel_rfl) (by kernel_rfl) (by kernel_rfl) (by kernel_rfl) (fun _ _ _ h => h) (Or.inl ⟨by rfl, fun w _ => ?_⟩) ?_
                rotate_left
                · (go_simp; first | done | with_reducible rfl)
                try simp only [Act.put, List.setIfInBounds_toArray, List.set_cons_zero, List.set_cons_succ]
                refine wpAnyW_take (i := 10) (oi := { dst := some 47, op := Op.nilCheck (Operand.tmp 46), type := 0, pos := "text.go:112", after := #[{ on := 9, ground := Ground.data }, { on := 8, ground := Ground.guard }], guard := some (8, false) }) (v := ?_) rfl (by kernel_rfl) (by kernel_rfl) (by kernel_rfl) (by kernel_rfl) (fun _ _ _ h => h) (Or.inl ⟨by rfl, fun w _ => ?_⟩) ?_
                rotate_left
                · (go_simp; first | done | with_reducible rfl)
                try simp only [Act.put, List.setIfInBounds_toArray, List.set_cons_zero, List.set_cons_succ]
                refine wpAnyW_take (i := 11) (oi := { dst := some 48, op := Op.fieldAddr 72 (Operand.tmp 47) 2, type := 0, pos := "text.go:112", after := #[{ on := 10, ground := Ground.data }, { on := 8, ground := Ground.guard }], guard := some (8, false) }) (v := ?_) rfl (by kernel_rfl) (by kernel_rfl) (by kernel_rfl) (by kernel_rfl) (fun _ _ _ h => h) (Or.inl ⟨by rfl, fun w _ => ?_⟩) ?_
                rotate_left
                · (go_simp; first | done | with_reducible rfl)
                try simp only [Act.put, List.setIfInBounds_toArray, List.set_cons_zero, List.set_cons_succ]
                refine wpAnyW_load (i := 12) (oi := { dst := some 49, op := Op.load 69 (Operand.tmp 48), type := 69, pos := "text.go:112", after := #[{ on := 11, ground := Ground.data }, { on := 8, ground := Ground.guard }], guard := some (8, false) }) (v := ?_) rfl (by kernel_rfl) (by kernel_rfl) (by kernel_rfl) (by kernel_rfl) (by kernel_rfl) (fun _ _ _ h => h) (Or.inl ⟨by rfl, fun w hS => ?_⟩) p2 ?_
                rotate_left
                · (skip; go_simp; first | done | with_reducible rfl)
                try simp only [Act.put, List.setIfInBounds_toArray, List.set_cons_zero, List.set_cons_succ]
                refine wpAnyW_take (i := 13) (oi := { dst := some 50, op := Op.move (Operand.tmp 8), type := 9, pos := "text.go:112", after := #[{ on := 8, ground := Ground.guard }], guard := some (8, false) }) (v := ?_) rfl (by kernel_rfl) (by kernel_rfl) (by kernel_rfl) (by kernel_rfl) (fun _ _ _ h => h) (Or.inl ⟨by rfl, fun w _ => ?_⟩) ?_
                rotate_left
                · (go_simp; first | done | with_reducible rfl)
                try simp only [Act.put, List.setIfInBounds_toArray, List.set_cons_zero, List.set_cons_succ]
                refine wpAnyW_ready (rs := [14]) (by kernel_rfl) (by simp) ?_
                refine (AllReadyW.cons (o := { dst := some 51, op := Op.call { callee := Callee.value (Operand.tmp 49), args := #[Operand.tmp 50], argTypes := #[9] }, type := 4, pos := "text.go:112", after := #[{ on := 12, ground := Ground.data }, { on := 13, ground := Ground.data }, { on := 8, ground := Ground.chain }, { on := 8, ground := Ground.guard }], guard := some (8, false) }) rfl (fun K hK => ?_) AllReadyW.nil)
                go_simp
                refine (hpk.out _ HI3.out).mono ?_
                rintro e HI4w ⟨he3, hst3, hi3⟩
                rw [F2.out] at he3
                subst he3
                have HI4 := hid (hi3 F2.out)
                have p3 := HI4.out.c2
                have HKR4 := hid (HKR3.out.sz hst3 HLO.out.1 HLO.out.2)
                have HT4 := hid (HT3.out.trans hst3)
                clear hst3 hi3
                refine hK.out _ _ p3 ?_
                clear hK K
                try simp only [Act.put, List.setIfInBounds_toArray, List.set_cons_zero, List.set_cons_succ]
                refine wpAnyW_take (i := 15) (oi := { dst := some 52, op := Op.unOp UnOp.not 4 (Operand.tmp 51), type := 4, pos := "text.go:112", after := #[{ on := 14, ground := Ground.data }, { on := 8, ground := Ground.guard }], guard := some (8, false) }) (v := ?_) rfl (by kernel_rfl) (by kernel_rfl) (by kernel_rfl) (by kernel_rfl) (fun _ _ _ h => h) (Or.inl ⟨by rfl, fun w _ => ?_⟩) ?_
                rotate_left
                · (go_simp; first | done | with_reducible rfl)
                try simp only [Act.put, List.setIfInBounds_toArray, List.set_cons_zero, List.set_cons_succ]
                refine wpAnyW_take (i := 16) (oi := { dst := some 53, op := Op.pick (Operand.tmp 45) (Operand.const (Value.bool true)) (Operand.tmp 52), type := 4, pos := "text.go:112", after := #[{ on := 8, ground := Ground.data }, { on := 15, ground := Ground.data }], guard := none }) (v := ?_) rfl (by kernel_rfl) (by kernel_rfl) (by kernel_rfl) (by kernel_rfl) (fun _ _ _ h => h) (Or.inl ⟨by rfl, fun w _ => ?_⟩) ?_
                rotate_left
                · (go_simp; first | done | with_reducible rfl)
                try simp only [Act.put, List.setIfInBounds_toArray, List.set_cons_zero, List.set_cons_succ]
                refine wpAnyW_take (i := 17) (oi := { dst := some 54, op := Op.move (Operand.tmp 53), type := 4, pos := "text.go:112", after := #[{ on := 16, ground := Ground.data }, { on := 14, ground := Ground.chain }], guard := none }) (v := ?_) rfl (by kernel_rfl) (by kernel_rfl) (by kernel_rfl) (by kernel_rfl) (fun _ _ _ h => h) (Or.inl ⟨by rfl, fun w _ => ?_⟩) ?_
                rotate_left
                · (go_simp; first | done | with_reducible rfl)
                try simp only [Act.put, List.setIfInBounds_toArray, List.set_cons_zero, List.set_cons_succ]
                refine wpAnyW_take (i := 18) (oi := { dst := some 55, op := Op.move (Operand.tmp 0), type := 96, pos := "text.go:112", after := #[{ on := 17, ground := Ground.guard }], guard := some (17, false) }) (v := ?_) rfl (by kernel_rfl) (by kernel_rfl) (by kernel_rfl) (by kernel_rfl) (fun _ _ _ h => h) (Or.inl ⟨by rfl, fun w _ => ?_⟩) ?_
                rotate_left
                · (go_simp; first | done | with_reducible rfl)
                try simp only [Act.put, List.setIfInBounds_toArray, List.set_cons_zero, List.set_cons_succ]
                refine wpAnyW_take (i := 19) (oi := { dst := some 56, op := Op.nilCheck (Operand.tmp 55), type := 0, pos := "text.go:112", after := #[{ on := 18, ground := Ground.data }, { on := 17, ground := Ground.guard }], guard := some (17, false) }) (v := ?_) rfl (by kernel_rfl) (by kernel_rfl) (by kernel_rfl) (by kernel_rfl) (fun _ _ _ h => h) (Or.inl ⟨by rfl, fun w _ => ?_⟩) ?_
                rotate_left
                · (go_simp; first | done | with_reducible rfl)
                try simp only [Act.put, List.setIfInBounds_toArray, List.set_cons_zero, List.set_cons_succ]
                refine wpAnyW_take (i := 20) (oi := { dst := some 57, op := Op.fieldAddr 72 (Operand.tmp 56) 2, type := 0, pos := "text.go:112", after := #[{ on := 19, ground := Ground.data }, { on := 17, ground := Ground.guard }], guard := some (17, false) }) (v := ?_) rfl (by kernel_rfl) (by kernel_rfl) (by kernel_rfl) (by kernel_rfl) (fun _ _ _ h => h) (Or.inl ⟨by rfl, fun w _ => ?_⟩) ?_
                rotate_left
                · (go_simp; first | done | with_reducible rfl)
                try simp only [Act.put, List.setIfInBounds_toArray, List.set_cons_zero, List.set_cons_succ]
                refine wpAnyW_load (i := 21) (oi := { dst := some 58, op := Op.load 69 (Operand.tmp 57), type := 69, pos := "text.go:112", after := #[{ on := 20, ground := Ground.data }, { on := 17, ground := Ground.guard }], guard := some (17, false) }) (v := ?_) rfl (by kernel_rfl) (by kernel_rfl) (by kernel_rfl) (by kernel_rfl) (by kernel_rfl) (fun _ _ _ h => h) (Or.inl ⟨by rfl, fun w hS => ?_⟩) p3 ?_
                rotate_left
                · (skip; go_simp; first | done | with_reducible rfl)
                try simp only [Act.put, List.setIfInBounds_toArray, List.set_cons_zero, List.set_cons_succ]
                refine wpAnyW_ready (rs := [22]) (by kernel_rfl) (by simp) ?_
                refine (AllReadyW.cons (o := { dst := some 59, op := Op.call { callee := Callee.value (Operand.tmp 58), args := #[Operand.const (Value.string { data := #[58, 32] })], argTypes := #[9] }, type := 4, pos := "text.go:112", after := #[{ on := 21, ground := Ground.data }, { on := 17, ground := Ground.chain }, { on := 17, ground := Ground.guard }], guard := some (17, false) }) rfl (fun K hK => ?_) AllReadyW.nil)
                go_simp
                refine (hpc.out _ HI4.out).mono ?_
                rintro e HI5w ⟨he3, hst3, hi3⟩
                rw [F3.out] at he3
                subst he3
                have HI5 := hid (hi3 F3.out)
                have p4 := HI5.out.c2
                have HKR5 := hid (HKR4.out.sz hst3 HLO.out.1 HLO.out.2)
                have HT5 := hid (HT4.out.trans hst3)
                clear hst3 hi3
                refine hK.out _ _ p4 ?_
                clear hK K
                try simp only [Act.put, List.setIfInBounds_toArray, List.set_cons_zero, List.set_cons_succ]
                refine wpAnyW_take (i := 23) (oi := { dst := some 60, op := Op.unOp UnOp.not 4 (Operand.tmp 59), type := 4, pos := "text.go:112", after := #[{ on := 22, ground := Ground.data }, { on := 17, ground := Ground.guard }], guard := some (17, false) }) (v := ?_) rfl (by kernel_rfl) (by kernel_rfl) (by kernel_rfl) (by kernel_rfl) (fun _ _ _ h => h) (Or.inl ⟨by rfl, fun w _ => ?_⟩) ?_
                rotate_left
                · (go_simp; first | done | with_reducible rfl)
                try simp only [Act.put, List.setIfInBounds_toArray, List.set_cons_zero, List.set_cons_succ]
                refine wpAnyW_take (i := 24) (oi := { dst := some 61, op := Op.pick (Operand.tmp 54) (Operand.const (Value.bool true)) (Operand.tmp 60), type := 4, pos := "text.go:112", after := #[{ on := 17, ground := Ground.data }, { on := 23, ground := Ground.data }], guard := none }) (v := ?_) rfl (by kernel_rfl) (by kernel_rfl) (by kernel_rfl) (by kernel_rfl) (fun _ _ _ h => h) (Or.inl ⟨by rfl, fun w _ => ?_⟩) ?_
                rotate_left
                · (go_simp; first | done | with_reducible rfl)
                try simp only [Act.put, List.setIfInBounds_toArray, List.set_cons_zero, List.set_cons_succ]
                refine wpAnyW_take (i := 25) (oi := { dst := some 62, op := Op.move (Operand.tmp 61), type := 4, pos := "text.go:112", after := #[{ on := 24, ground := Ground.data }, { on := 22, ground := Ground.chain }], guard := none }) (v := ?_) rfl (by kernel_rfl) (by kernel_rfl) (by kernel_rfl) (by kernel_rfl) (fun _ _ _ h => h) (Or.inl ⟨by rfl, fun w _ => ?_⟩) ?_
                rotate_left
                · (go_simp; first | done | with_reducible rfl)
                try simp only [Act.put, List.setIfInBounds_toArray, List.set_cons_zero, List.set_cons_succ]
                refine wpAnyW_take (i := 26) (oi := { dst := some 63, op := Op.move (Operand.tmp 0), type := 96, pos := "text.go:112", after := #[{ on := 25, ground := Ground.guard }], guard := some (25, false) }) (v := ?_) rfl (by kernel_rfl) (by kernel_rfl) (by kernel_rfl) (by kernel_rfl) (fun _ _ _ h => h) (Or.inl ⟨by rfl, fun w _ => ?_⟩) ?_
                rotate_left
                · (go_simp; first | done | with_reducible rfl)
                try simp only [Act.put, List.setIfInBounds_toArray, List.set_cons_zero, List.set_cons_succ]
                refine wpAnyW_take (i := 27) (oi := { dst := some 64, op := Op.move (Operand.tmp 9), type := 27, pos := "text.go:112", after := #[{ on := 25, ground := Ground.guard }], guard := some (25, false) }) (v := ?_) rfl (by kernel_rfl) (by kernel_rfl) (by kernel_rfl) (by kernel_rfl) (fun _ _ _ h => h) (Or.inl ⟨by rfl, fun w _ => ?_⟩) ?_
                rotate_left
                · (go_simp; first | done | with_reducible rfl)
                try simp only [Act.put, List.setIfInBounds_toArray, List.set_cons_zero, List.set_cons_succ]
                refine wpAnyW_ready (rs := [28]) (by kernel_rfl) (by simp) ?_
                refine (AllReadyW.cons (o := { dst := some 65, op := Op.call { callee := Callee.value (Operand.func 27), args := #[Operand.tmp 63, Operand.tmp 64], argTypes := #[96, 27] }, type := 4, pos := "text.go:112", after := #[{ on := 26, ground := Ground.data }, { on := 27, ground := Ground.data }, { on := 25, ground := Ground.chain }, { on := 25, ground := Ground.guard }], guard := some (25, false) }) rfl (fun K hK => ?_) AllReadyW.nil)
                go_simp
                refine (HF.out HMx.out HUx.out _ _ HT5.out HI5.out HL3.out).mono ?_
                rintro e HI6w ⟨he3, hst3, hi3⟩
                rw [F4.out] at he3
                subst he3
                have HI6 := hid (hi3 F4.out)
                have p5 := HI6.out.c2
                have HKR6 := hid (HKR5.out.sz hst3 HLO.out.1 HLO.out.2)
                have HT6 := hid (HT5.out.trans hst3)
                clear hst3 hi3
                refine hK.out _ _ p5 ?_
                clear hK K
                try simp only [Act.put, List.setIfInBounds_toArray, List.set_cons_zero, List.set_cons_succ]
                refine wpAnyW_take (i := 29) (oi := { dst := some 66, op := Op.unOp UnOp.not 4 (Operand.tmp 65), type := 4, pos := "text.go:112", after := #[{ on := 28, ground := Ground.data }, { on := 25, ground := Ground.guard }], guard := some (25, false) }) (v := ?_) rfl (by kernel_rfl) (by kernel_rfl) (by kernel_rfl) (by kernel_rfl) (fun _ _ _ h => h) (Or.inl ⟨by rfl, fun w _ => ?_⟩) ?_
                rotate_left
                · (go_simp; first | done | with_reducible rfl)
                try simp only [Act.put, List.setIfInBounds_toArray, List.set_cons_zero, List.set_cons_succ]
                refine wpAnyW_take (i := 30) (oi := { dst := some 67, op := Op.pick (Operand.tmp 62) (Operand.const (Value.bool true)) (Operand.tmp 66), type := 4, pos := "text.go:112", after := #[{ on := 25, ground := Ground.data }, { on := 29, ground := Ground.data }], guard := none }) (v := ?_) rfl (by kernel_rfl) (by kernel_rfl) (by kernel_rfl) (by kernel_rfl) (fun _ _ _ h => h) (Or.inl ⟨by rfl, fun w _ => ?_⟩) ?_
                rotate_left
                · (go_simp; first | done | with_reducible rfl)
                try simp only [Act.put, List.setIfInBounds_toArray, List.set_cons_zero, List.set_cons_succ]
                refine wpAnyW_done (by kernel_rfl) ?_ _
                go_wp2
                go_roundw
                case rel => exact ⟨k + 1, A ++ (btw k ++ (Lib.strCells z ++ ([Value.int .u8 58, Value.int .u8 32] ++ f x))), by omega, by go_num, by rw [← HAB.out]; simp [List.append_assoc], HL4.out, by simpa [List.append_assoc] using HI6.out, HT6.out, HKR6.out⟩
                case measure => simp [intOf]; omega
    · have hk0 : k = l.length := by omega
      subst hk0
      rw [List.drop_eq_nil_of_le (by simp), fxs, List.append_nil] at hAB
      have FF : Hid (fits xs (fxs f 0 (l.map fun s => (s, aFieldV H v s))) = true) := fits_yes (by have := HXA.out; rw [List.length_append, hAB] at this; exact this)
      rw [hAB] at HIr
      clear hi hst hxa hkr hAB
      go_wp2
      all_goals go_ret
      all_goals exact sd_yes FF.out HTr.out HIr.out

end Go.Proofs.YtimidonagbfjcaaGreatDoor

