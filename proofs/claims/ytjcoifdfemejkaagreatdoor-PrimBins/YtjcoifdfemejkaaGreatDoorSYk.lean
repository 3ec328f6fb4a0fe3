/- An object as plain data is made by the program: make1, kind by kind. -/
import Derived.Test.YtjcoifdfemejkaaGreatDoorPIbk
import Derived.Test.YtjcoifdfemejkaaGreatDoorM8
set_option linter.unusedSimpArgs false
set_option linter.unusedVariables false
namespace Go.Proofs.YtjcoifdfemejkaaGreatDoor
open Go Go.RowKit

theorem HS.alloc {w : World} {b0 : Nat} {H : AHeap} {bs : List Nat} (h : HS w b0 H bs) (o : Obj) : HS (w.alloc o) b0 H bs := h.bw (Bw.alloc (Bw.refl _) o)

/-- An object with what its kind uses alone. -/
def plO (o : AObj) : AObj :=
  if o.kind = 1 then oStr o.bytes else if o.kind = 2 then oArr o.vals else if o.kind = 3 then oRec o.keys o.vals else if o.kind = 4 then (4, [], o.vals, [], 0, 0, 0)
  else if o.kind = 5 then oFun o.num o.vals else if o.kind = 6 then oCplx o.re o.im else oItem o.kind o.num

/-- Is it one that is made? -/
def mkOK (o : AObj) : Bool := decide (1 ≤ o.kind) && decide (o.kind ≤ 9) && (decide (o.kind ≠ 4) || decide (o.vals.length = 1))

/-- The heap with it. -/
def mkH (H : AHeap) (o : AObj) : AHeap := if mkOK o = true then aMakeH H (plO o) else H

/-- What an object's lists must be. -/
structure OW (w : World) (G : Nat → Prop) (o : AObj) (vb vv vk : Value) : Prop where
  ol : OL w G o vb vv vk
  u : ∀ x ∈ o.vals, U x
  b : ∀ x ∈ o.bytes, 0 ≤ x ∧ x ≤ 255
  l1 : o.bytes.length ≤ 1000
  l2 : o.vals.length ≤ 1000
  l3 : o.keys.length ≤ 1000

theorem OW.below {w w' : World} {G : Nat → Prop} {o : AObj} {vb vv vk : Value} (h : OW w G o vb vv vk) (hb : Bw w w') : OW w' G o vb vv vk := ⟨h.ol.below hb, h.u, h.b, h.l1, h.l2, h.l3⟩

set_option maxRecDepth 100000 in
set_option maxHeartbeats 4000000 in
theorem mk1_1 (G : Nat → Prop) {b0 : Nat} {H : AHeap} {bs : List Nat} (o : AObj) (vb vv vk : Value) (w : World) (hp : HS w b0 H bs) (ho : OW w G o vb vv vk) (hk : o.kind = 1) :
    Calls Tryz.prog 22 #[.pointer (some ⟨b0, 0, none⟩), objV o vb vv vk] w fun e w' => (∃ v, e = .returned v) ∧ ∃ bs', HS w' b0 (mkH H o) bs' ∧ Nx bs w w' bs' := by
  have hH : mkH H o = aMakeH H (oStr o.bytes) := by
    have h1 : mkOK o = true := by unfold mkOK; rw [hk]; rfl
    have h2 : plO o = oStr o.bytes := by unfold plO; rw [if_pos hk]
    unfold mkH; rw [if_pos h1, h2]
  rw [hH]
  have t1 : (o.kind == 1) = true := by rw [hk]; rfl
  obtain ⟨ab, cb, eb⟩ := ho.ol.1.form
  obtain ⟨av, cv, ev⟩ := ho.ol.2.1.form
  obtain ⟨ak, ck, ek⟩ := ho.ol.2.2.form
  subst eb ev ek
  have HP := hid hp
  have HO := hid ho
  have HK := hid hk
  clear hp ho hk hH
  unfold objV
  go_enter Tryz.func22, Tryz.ntmps22
  go_wp2_with (first
    | (go_at_call 16; refine (str_any G _ o.bytes _ (HP.out.alloc _) (HO.out.below (Bw.alloc (Bw.refl _) _)).ol.1 HO.out.b (by have := HO.out.l1; omega)).mono ?_; rintro e w1 ⟨rfl, bs1, hs1, hn1⟩; have HS1 := hid hs1; have HN1 := hid (Bw.nxBefore (Bw.alloc (Bw.refl _) _) hn1); clear hs1 hn1)
    | fail)
  all_goals go_end0
  all_goals exact ⟨⟨_, rfl⟩, ⟨_, HS1.out, HN1.out⟩⟩

set_option maxRecDepth 100000 in
set_option maxHeartbeats 4000000 in
theorem mk1_2 (G : Nat → Prop) {b0 : Nat} {H : AHeap} {bs : List Nat} (o : AObj) (vb vv vk : Value) (w : World) (hp : HS w b0 H bs) (ho : OW w G o vb vv vk) (hk : o.kind = 2) :
    Calls Tryz.prog 22 #[.pointer (some ⟨b0, 0, none⟩), objV o vb vv vk] w fun e w' => (∃ v, e = .returned v) ∧ ∃ bs', HS w' b0 (mkH H o) bs' ∧ Nx bs w w' bs' := by
  have hH : mkH H o = aMakeH H (oArr o.vals) := by
    have h1 : mkOK o = true := by unfold mkOK; rw [hk]; rfl
    have h2 : plO o = oArr o.vals := by unfold plO; rw [if_neg (by omega), if_pos hk]
    unfold mkH; rw [if_pos h1, h2]
  rw [hH]
  have t1 : (o.kind == 1) = false := by rw [hk]; rfl
  have t2 : (o.kind == 2) = true := by rw [hk]; rfl
  obtain ⟨ab, cb, eb⟩ := ho.ol.1.form
  obtain ⟨av, cv, ev⟩ := ho.ol.2.1.form
  obtain ⟨ak, ck, ek⟩ := ho.ol.2.2.form
  subst eb ev ek
  have HP := hid hp
  have HO := hid ho
  have HK := hid hk
  clear hp ho hk hH
  unfold objV
  go_enter Tryz.func22, Tryz.ntmps22
  go_wp2_with (first
    | (go_at_call 18; refine (arr_any G _ o.vals _ (HP.out.alloc _) (HO.out.below (Bw.alloc (Bw.refl _) _)).ol.2.1 HO.out.u (by have := HO.out.l2; omega)).mono ?_; rintro e w1 ⟨rfl, bs1, hs1, hn1⟩; have HS1 := hid hs1; have HN1 := hid (Bw.nxBefore (Bw.alloc (Bw.refl _) _) hn1); clear hs1 hn1)
    | fail)
  all_goals go_end0
  all_goals exact ⟨⟨_, rfl⟩, ⟨_, HS1.out, HN1.out⟩⟩

set_option maxRecDepth 100000 in
set_option maxHeartbeats 4000000 in
theorem mk1_3 (G : Nat → Prop) {b0 : Nat} {H : AHeap} {bs : List Nat} (o : AObj) (vb vv vk : Value) (w : World) (hp : HS w b0 H bs) (ho : OW w G o vb vv vk) (hk : o.kind = 3) :
    Calls Tryz.prog 22 #[.pointer (some ⟨b0, 0, none⟩), objV o vb vv vk] w fun e w' => (∃ v, e = .returned v) ∧ ∃ bs', HS w' b0 (mkH H o) bs' ∧ Nx bs w w' bs' := by
  have hH : mkH H o = aMakeH H (oRec o.keys o.vals) := by
    have h1 : mkOK o = true := by unfold mkOK; rw [hk]; rfl
    have h2 : plO o = oRec o.keys o.vals := by unfold plO; rw [if_neg (by omega), if_neg (by omega), if_pos hk]
    unfold mkH; rw [if_pos h1, h2]
  rw [hH]
  have t1 : (o.kind == 1) = false := by rw [hk]; rfl
  have t2 : (o.kind == 2) = false := by rw [hk]; rfl
  have t3 : (o.kind == 3) = true := by rw [hk]; rfl
  obtain ⟨ab, cb, eb⟩ := ho.ol.1.form
  obtain ⟨av, cv, ev⟩ := ho.ol.2.1.form
  obtain ⟨ak, ck, ek⟩ := ho.ol.2.2.form
  subst eb ev ek
  have HP := hid hp
  have HO := hid ho
  have HK := hid hk
  clear hp ho hk hH
  unfold objV
  go_enter Tryz.func22, Tryz.ntmps22
  go_wp2_with (first
    | (go_at_call 62; refine (rec_any G _ _ o.keys o.vals _ (HP.out.alloc _) (HO.out.below (Bw.alloc (Bw.refl _) _)).ol.2.2 (HO.out.below (Bw.alloc (Bw.refl _) _)).ol.2.1 HO.out.u (by have := HO.out.l2; omega) (by have := HO.out.l3; omega)).mono ?_; rintro e w1 ⟨rfl, bs1, hs1, hn1⟩; have HS1 := hid hs1; have HN1 := hid (Bw.nxBefore (Bw.alloc (Bw.refl _) _) hn1); clear hs1 hn1)
    | fail)
  all_goals go_end0
  all_goals exact ⟨⟨_, rfl⟩, ⟨_, HS1.out, HN1.out⟩⟩

set_option maxRecDepth 100000 in
set_option maxHeartbeats 4000000 in
theorem mk1_5 (G : Nat → Prop) {b0 : Nat} {H : AHeap} {bs : List Nat} (o : AObj) (vb vv vk : Value) (w : World) (hp : HS w b0 H bs) (ho : OW w G o vb vv vk) (hk : o.kind = 5) :
    Calls Tryz.prog 22 #[.pointer (some ⟨b0, 0, none⟩), objV o vb vv vk] w fun e w' => (∃ v, e = .returned v) ∧ ∃ bs', HS w' b0 (mkH H o) bs' ∧ Nx bs w w' bs' := by
  have hH : mkH H o = aMakeH H (oFun o.num o.vals) := by
    have h1 : mkOK o = true := by unfold mkOK; rw [hk]; rfl
    have h2 : plO o = oFun o.num o.vals := by unfold plO; rw [if_neg (by omega), if_neg (by omega), if_neg (by omega), if_neg (by omega), if_pos hk]
    unfold mkH; rw [if_pos h1, h2]
  rw [hH]
  have t1 : (o.kind == 1) = false := by rw [hk]; rfl
  have t2 : (o.kind == 2) = false := by rw [hk]; rfl
  have t3 : (o.kind == 3) = false := by rw [hk]; rfl
  have t4 : (o.kind == 4) = false := by rw [hk]; rfl
  have t5 : (o.kind == 5) = true := by rw [hk]; rfl
  obtain ⟨ab, cb, eb⟩ := ho.ol.1.form
  obtain ⟨av, cv, ev⟩ := ho.ol.2.1.form
  obtain ⟨ak, ck, ek⟩ := ho.ol.2.2.form
  subst eb ev ek
  have HP := hid hp
  have HO := hid ho
  have HK := hid hk
  clear hp ho hk hH
  unfold objV
  go_enter Tryz.func22, Tryz.ntmps22
  go_wp2_with (first
    | (go_at_call 64; refine (fun_any G _ _ o.vals _ (HP.out.alloc _) (HO.out.below (Bw.alloc (Bw.refl _) _)).ol.2.1 HO.out.u (by have := HO.out.l2; omega)).mono ?_; rintro e w1 ⟨rfl, bs1, hs1, hn1⟩; have HS1 := hid hs1; have HN1 := hid (Bw.nxBefore (Bw.alloc (Bw.refl _) _) hn1); clear hs1 hn1)
    | fail)
  all_goals go_end0
  all_goals exact ⟨⟨_, rfl⟩, ⟨_, HS1.out, HN1.out⟩⟩

set_option maxRecDepth 100000 in
set_option maxHeartbeats 4000000 in
theorem mk1_6 (G : Nat → Prop) {b0 : Nat} {H : AHeap} {bs : List Nat} (o : AObj) (vb vv vk : Value) (w : World) (hp : HS w b0 H bs) (ho : OW w G o vb vv vk) (hk : o.kind = 6) :
    Calls Tryz.prog 22 #[.pointer (some ⟨b0, 0, none⟩), objV o vb vv vk] w fun e w' => (∃ v, e = .returned v) ∧ ∃ bs', HS w' b0 (mkH H o) bs' ∧ Nx bs w w' bs' := by
  have hH : mkH H o = aMakeH H (oCplx o.re o.im) := by
    have h1 : mkOK o = true := by unfold mkOK; rw [hk]; rfl
    have h2 : plO o = oCplx o.re o.im := by unfold plO; rw [if_neg (by omega), if_neg (by omega), if_neg (by omega), if_neg (by omega), if_neg (by omega), if_pos hk]
    unfold mkH; rw [if_pos h1, h2]
  rw [hH]
  have t1 : (o.kind == 1) = false := by rw [hk]; rfl
  have t2 : (o.kind == 2) = false := by rw [hk]; rfl
  have t3 : (o.kind == 3) = false := by rw [hk]; rfl
  have t4 : (o.kind == 4) = false := by rw [hk]; rfl
  have t5 : (o.kind == 5) = false := by rw [hk]; rfl
  have t6 : (o.kind == 6) = true := by rw [hk]; rfl
  obtain ⟨ab, cb, eb⟩ := ho.ol.1.form
  obtain ⟨av, cv, ev⟩ := ho.ol.2.1.form
  obtain ⟨ak, ck, ek⟩ := ho.ol.2.2.form
  subst eb ev ek
  have HP := hid hp
  have HO := hid ho
  have HK := hid hk
  clear hp ho hk hH
  unfold objV
  go_enter Tryz.func22, Tryz.ntmps22
  go_wp2_with (first
    | (go_at_call 65; refine (cplx_any _ _ _ (HP.out.alloc _)).mono ?_; rintro e w1 ⟨rfl, bs1, hs1, hn1⟩; have HS1 := hid hs1; have HN1 := hid (Bw.nxBefore (Bw.alloc (Bw.refl _) _) hn1); clear hs1 hn1)
    | fail)
  all_goals go_end0
  all_goals exact ⟨⟨_, rfl⟩, ⟨_, HS1.out, HN1.out⟩⟩

set_option maxRecDepth 100000 in
set_option maxHeartbeats 4000000 in
theorem mk1_7 (G : Nat → Prop) {b0 : Nat} {H : AHeap} {bs : List Nat} (o : AObj) (vb vv vk : Value) (w : World) (hp : HS w b0 H bs) (ho : OW w G o vb vv vk) (hk : o.kind = 7) :
    Calls Tryz.prog 22 #[.pointer (some ⟨b0, 0, none⟩), objV o vb vv vk] w fun e w' => (∃ v, e = .returned v) ∧ ∃ bs', HS w' b0 (mkH H o) bs' ∧ Nx bs w w' bs' := by
  have hH : mkH H o = aMakeH H (oItem o.kind o.num) := by
    have h1 : mkOK o = true := by unfold mkOK; rw [hk]; rfl
    have h2 : plO o = oItem o.kind o.num := by unfold plO; rw [if_neg (by omega), if_neg (by omega), if_neg (by omega), if_neg (by omega), if_neg (by omega), if_neg (by omega)]
    unfold mkH; rw [if_pos h1, h2]
  rw [hH]
  have t1 : (o.kind == 1) = false := by rw [hk]; rfl
  have t2 : (o.kind == 2) = false := by rw [hk]; rfl
  have t3 : (o.kind == 3) = false := by rw [hk]; rfl
  have t4 : (o.kind == 4) = false := by rw [hk]; rfl
  have t5 : (o.kind == 5) = false := by rw [hk]; rfl
  have t6 : (o.kind == 6) = false := by rw [hk]; rfl
  have t7 : (o.kind == 7) = true := by rw [hk]; rfl
  obtain ⟨ab, cb, eb⟩ := ho.ol.1.form
  obtain ⟨av, cv, ev⟩ := ho.ol.2.1.form
  obtain ⟨ak, ck, ek⟩ := ho.ol.2.2.form
  subst eb ev ek
  have HP := hid hp
  have HO := hid ho
  have HK := hid hk
  clear hp ho hk hH
  unfold objV
  go_enter Tryz.func22, Tryz.ntmps22
  go_wp2_with (first
    | (go_at_call 66; refine (item_yes _ _ _ (HP.out.alloc _) (by rw [HK.out]; decide)).mono ?_; rintro e w1 ⟨rfl, bs1, hs1, hn1⟩; have HS1 := hid hs1; have HN1 := hid (Bw.nxBefore (Bw.alloc (Bw.refl _) _) hn1); clear hs1 hn1)
    | fail)
  all_goals go_end0
  all_goals exact ⟨⟨_, rfl⟩, ⟨_, HS1.out, HN1.out⟩⟩

set_option maxRecDepth 100000 in
set_option maxHeartbeats 4000000 in
theorem mk1_8 (G : Nat → Prop) {b0 : Nat} {H : AHeap} {bs : List Nat} (o : AObj) (vb vv vk : Value) (w : World) (hp : HS w b0 H bs) (ho : OW w G o vb vv vk) (hk : o.kind = 8) :
    Calls Tryz.prog 22 #[.pointer (some ⟨b0, 0, none⟩), objV o vb vv vk] w fun e w' => (∃ v, e = .returned v) ∧ ∃ bs', HS w' b0 (mkH H o) bs' ∧ Nx bs w w' bs' := by
  have hH : mkH H o = aMakeH H (oItem o.kind o.num) := by
    have h1 : mkOK o = true := by unfold mkOK; rw [hk]; rfl
    have h2 : plO o = oItem o.kind o.num := by unfold plO; rw [if_neg (by omega), if_neg (by omega), if_neg (by omega), if_neg (by omega), if_neg (by omega), if_neg (by omega)]
    unfold mkH; rw [if_pos h1, h2]
  rw [hH]
  have t1 : (o.kind == 1) = false := by rw [hk]; rfl
  have t2 : (o.kind == 2) = false := by rw [hk]; rfl
  have t3 : (o.kind == 3) = false := by rw [hk]; rfl
  have t4 : (o.kind == 4) = false := by rw [hk]; rfl
  have t5 : (o.kind == 5) = false := by rw [hk]; rfl
  have t6 : (o.kind == 6) = false := by rw [hk]; rfl
  have t7 : (o.kind == 7) = false := by rw [hk]; rfl
  have t8 : (o.kind == 8) = true := by rw [hk]; rfl
  obtain ⟨ab, cb, eb⟩ := ho.ol.1.form
  obtain ⟨av, cv, ev⟩ := ho.ol.2.1.form
  obtain ⟨ak, ck, ek⟩ := ho.ol.2.2.form
  subst eb ev ek
  have HP := hid hp
  have HO := hid ho
  have HK := hid hk
  clear hp ho hk hH
  unfold objV
  go_enter Tryz.func22, Tryz.ntmps22
  go_wp2_with (first
    | (go_at_call 66; refine (item_yes _ _ _ (HP.out.alloc _) (by rw [HK.out]; decide)).mono ?_; rintro e w1 ⟨rfl, bs1, hs1, hn1⟩; have HS1 := hid hs1; have HN1 := hid (Bw.nxBefore (Bw.alloc (Bw.refl _) _) hn1); clear hs1 hn1)
    | fail)
  all_goals go_end0
  all_goals exact ⟨⟨_, rfl⟩, ⟨_, HS1.out, HN1.out⟩⟩

set_option maxRecDepth 100000 in
set_option maxHeartbeats 4000000 in
theorem mk1_9 (G : Nat → Prop) {b0 : Nat} {H : AHeap} {bs : List Nat} (o : AObj) (vb vv vk : Value) (w : World) (hp : HS w b0 H bs) (ho : OW w G o vb vv vk) (hk : o.kind = 9) :
    Calls Tryz.prog 22 #[.pointer (some ⟨b0, 0, none⟩), objV o vb vv vk] w fun e w' => (∃ v, e = .returned v) ∧ ∃ bs', HS w' b0 (mkH H o) bs' ∧ Nx bs w w' bs' := by
  have hH : mkH H o = aMakeH H (oItem o.kind o.num) := by
    have h1 : mkOK o = true := by unfold mkOK; rw [hk]; rfl
    have h2 : plO o = oItem o.kind o.num := by unfold plO; rw [if_neg (by omega), if_neg (by omega), if_neg (by omega), if_neg (by omega), if_neg (by omega), if_neg (by omega)]
    unfold mkH; rw [if_pos h1, h2]
  rw [hH]
  have t1 : (o.kind == 1) = false := by rw [hk]; rfl
  have t2 : (o.kind == 2) = false := by rw [hk]; rfl
  have t3 : (o.kind == 3) = false := by rw [hk]; rfl
  have t4 : (o.kind == 4) = false := by rw [hk]; rfl
  have t5 : (o.kind == 5) = false := by rw [hk]; rfl
  have t6 : (o.kind == 6) = false := by rw [hk]; rfl
  have t7 : (o.kind == 7) = false := by rw [hk]; rfl
  have t8 : (o.kind == 8) = false := by rw [hk]; rfl
  have t9 : (o.kind == 9) = true := by rw [hk]; rfl
  obtain ⟨ab, cb, eb⟩ := ho.ol.1.form
  obtain ⟨av, cv, ev⟩ := ho.ol.2.1.form
  obtain ⟨ak, ck, ek⟩ := ho.ol.2.2.form
  subst eb ev ek
  have HP := hid hp
  have HO := hid ho
  have HK := hid hk
  clear hp ho hk hH
  unfold objV
  go_enter Tryz.func22, Tryz.ntmps22
  go_wp2_with (first
    | (go_at_call 66; refine (item_yes _ _ _ (HP.out.alloc _) (by rw [HK.out]; decide)).mono ?_; rintro e w1 ⟨rfl, bs1, hs1, hn1⟩; have HS1 := hid hs1; have HN1 := hid (Bw.nxBefore (Bw.alloc (Bw.refl _) _) hn1); clear hs1 hn1)
    | fail)
  all_goals go_end0
  all_goals exact ⟨⟨_, rfl⟩, ⟨_, HS1.out, HN1.out⟩⟩

set_option maxRecDepth 100000 in
set_option maxHeartbeats 4000000 in
theorem mk1_4y (G : Nat → Prop) {b0 : Nat} {H : AHeap} {bs : List Nat} (o : AObj) (vb vv vk : Value) (w : World) (hp : HS w b0 H bs) (ho : OW w G o vb vv vk) (hk : o.kind = 4) (hl : o.vals.length = 1) :
    Calls Tryz.prog 22 #[.pointer (some ⟨b0, 0, none⟩), objV o vb vv vk] w fun e w' => (∃ v, e = .returned v) ∧ ∃ bs', HS w' b0 (mkH H o) bs' ∧ Nx bs w w' bs' := by
  obtain ⟨x, hx⟩ : ∃ x, o.vals = [x] := by
    match h : o.vals with
    | [x] => exact ⟨x, rfl⟩
    | [] => rw [h] at hl; simp at hl
    | _ :: _ :: _ => rw [h] at hl; simp at hl
  have hH : mkH H o = aMakeH H (oCell x) := by
    have h1 : mkOK o = true := by unfold mkOK; rw [hk, hl]; rfl
    have h2 : plO o = oCell x := by unfold plO; rw [if_neg (by omega), if_neg (by omega), if_neg (by omega), if_pos hk, hx]; rfl
    unfold mkH; rw [if_pos h1, h2]
  rw [hH]
  have t1 : (o.kind == 1) = false := by rw [hk]; rfl
  have t2 : (o.kind == 2) = false := by rw [hk]; rfl
  have t3 : (o.kind == 3) = false := by rw [hk]; rfl
  have t4 : (o.kind == 4) = true := by rw [hk]; rfl
  obtain ⟨ab, cb, eb⟩ := ho.ol.1.form
  obtain ⟨av, cv, ev⟩ := ho.ol.2.1.form
  obtain ⟨ak, ck, ek⟩ := ho.ol.2.2.form
  subst eb ev ek
  have HUx := hid (ho.u x (by rw [hx]; simp))
  obtain ⟨bb, off, rfl, hlt, hc⟩ := ho.ol.2.1.at (i := 0) (by omega)
  have hc1 : w.cell? ⟨bb, off, none⟩ = some (.int .u64 x) := by
    have := hc
    rw [hx] at this
    simpa using this
  have hle : ((o.vals.length : Int) == 1) = true := by rw [hl]; rfl
  have hc2 : (0 : Int) < (o.vals.length : Int) := by rw [hl]; decide
  have HP := hid hp
  clear hp ho hk hH hc hx hl
  unfold objV
  generalize o.vals.length = n at hle hc2
  go_enter Tryz.func22, Tryz.ntmps22
  go_wp2_with (first
    | (go_at_call 63; refine (cell_any x _ (HP.out.alloc _) HUx.out).mono ?_; rintro e w1 ⟨rfl, bs1, hs1, hn1⟩; have HS1 := hid hs1; have HN1 := hid (Bw.nxBefore (Bw.alloc (Bw.refl _) _) hn1); clear hs1 hn1)
    | fail)
  all_goals go_end0
  all_goals exact ⟨⟨_, rfl⟩, ⟨_, HS1.out, HN1.out⟩⟩

set_option maxRecDepth 100000 in
set_option maxHeartbeats 4000000 in
theorem mk1_4n (G : Nat → Prop) {b0 : Nat} {H : AHeap} {bs : List Nat} (o : AObj) (vb vv vk : Value) (w : World) (hp : HS w b0 H bs) (ho : OW w G o vb vv vk) (hk : o.kind = 4) (hl : o.vals.length ≠ 1) :
    Calls Tryz.prog 22 #[.pointer (some ⟨b0, 0, none⟩), objV o vb vv vk] w fun e w' => (∃ v, e = .returned v) ∧ ∃ bs', HS w' b0 (mkH H o) bs' ∧ Nx bs w w' bs' := by
  have hH : mkH H o = H := by
    have h1 : ¬ mkOK o = true := by unfold mkOK; simp [hk, hl]
    unfold mkH; rw [if_neg h1]
  rw [hH]
  have t1 : (o.kind == 1) = false := by rw [hk]; rfl
  have t2 : (o.kind == 2) = false := by rw [hk]; rfl
  have t3 : (o.kind == 3) = false := by rw [hk]; rfl
  have t4 : (o.kind == 4) = true := by rw [hk]; rfl
  obtain ⟨ab, cb, eb⟩ := ho.ol.1.form
  obtain ⟨av, cv, ev⟩ := ho.ol.2.1.form
  obtain ⟨ak, ck, ek⟩ := ho.ol.2.2.form
  subst eb ev ek
  have hle : ((o.vals.length : Int) == 1) = false := by rw [beq_eq_false_iff_ne]; omega
  have HP := hid hp
  clear hp ho hk hH hl
  unfold objV
  generalize o.vals.length = n at hle
  go_enter Tryz.func22, Tryz.ntmps22
  go_wp2_with fail
  all_goals go_end0
  all_goals exact ⟨⟨_, rfl⟩, ⟨_, HP.out.alloc _, (Bw.alloc (Bw.refl _) _).nx _⟩⟩

set_option maxRecDepth 100000 in
set_option maxHeartbeats 4000000 in
theorem mk1_no (G : Nat → Prop) {b0 : Nat} {H : AHeap} {bs : List Nat} (o : AObj) (vb vv vk : Value) (w : World) (hp : HS w b0 H bs) (ho : OW w G o vb vv vk) (hk : o.kind < 1 ∨ 9 < o.kind) :
    Calls Tryz.prog 22 #[.pointer (some ⟨b0, 0, none⟩), objV o vb vv vk] w fun e w' => (∃ v, e = .returned v) ∧ ∃ bs', HS w' b0 (mkH H o) bs' ∧ Nx bs w w' bs' := by
  have hH : mkH H o = H := by
    have h1 : ¬ mkOK o = true := by unfold mkOK; simp; omega
    unfold mkH; rw [if_neg h1]
  rw [hH]
  have t1 : (o.kind == 1) = false := by rw [beq_eq_false_iff_ne]; omega
  have t2 : (o.kind == 2) = false := by rw [beq_eq_false_iff_ne]; omega
  have t3 : (o.kind == 3) = false := by rw [beq_eq_false_iff_ne]; omega
  have t4 : (o.kind == 4) = false := by rw [beq_eq_false_iff_ne]; omega
  have t5 : (o.kind == 5) = false := by rw [beq_eq_false_iff_ne]; omega
  have t6 : (o.kind == 6) = false := by rw [beq_eq_false_iff_ne]; omega
  have t7 : (o.kind == 7) = false := by rw [beq_eq_false_iff_ne]; omega
  have t8 : (o.kind == 8) = false := by rw [beq_eq_false_iff_ne]; omega
  have t9 : (o.kind == 9) = false := by rw [beq_eq_false_iff_ne]; omega
  obtain ⟨ab, cb, eb⟩ := ho.ol.1.form
  obtain ⟨av, cv, ev⟩ := ho.ol.2.1.form
  obtain ⟨ak, ck, ek⟩ := ho.ol.2.2.form
  subst eb ev ek
  have HP := hid hp
  clear hp ho hk hH
  unfold objV
  go_enter Tryz.func22, Tryz.ntmps22
  go_wp2_with fail
  all_goals go_end0
  all_goals exact ⟨⟨_, rfl⟩, ⟨_, HP.out.alloc _, (Bw.alloc (Bw.refl _) _).nx _⟩⟩

theorem mk1_any (G : Nat → Prop) {b0 : Nat} {H : AHeap} {bs : List Nat} (o : AObj) (vb vv vk : Value) (w : World) (hp : HS w b0 H bs) (ho : OW w G o vb vv vk) :
    Calls Tryz.prog 22 #[.pointer (some ⟨b0, 0, none⟩), objV o vb vv vk] w fun e w' => (∃ v, e = .returned v) ∧ ∃ bs', HS w' b0 (mkH H o) bs' ∧ Nx bs w w' bs' := by
  by_cases h : o.kind < 1 ∨ 9 < o.kind
  · exact mk1_no G o vb vv vk w hp ho h
  · have h9 : o.kind = 1 ∨ o.kind = 2 ∨ o.kind = 3 ∨ o.kind = 4 ∨ o.kind = 5 ∨ o.kind = 6 ∨ o.kind = 7 ∨ o.kind = 8 ∨ o.kind = 9 := by omega
    rcases h9 with h | h | h | h | h | h | h | h | h
    · exact mk1_1 G o vb vv vk w hp ho h
    · exact mk1_2 G o vb vv vk w hp ho h
    · exact mk1_3 G o vb vv vk w hp ho h
    · by_cases hl : o.vals.length = 1
      · exact mk1_4y G o vb vv vk w hp ho h hl
      · exact mk1_4n G o vb vv vk w hp ho h hl
    · exact mk1_5 G o vb vv vk w hp ho h
    · exact mk1_6 G o vb vv vk w hp ho h
    · exact mk1_7 G o vb vv vk w hp ho h
    · exact mk1_8 G o vb vv vk w hp ho h
    · exact mk1_9 G o vb vv vk w hp ho h

end Go.Proofs.YtjcoifdfemejkaaGreatDoor

