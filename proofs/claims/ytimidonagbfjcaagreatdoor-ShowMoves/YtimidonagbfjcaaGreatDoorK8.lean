/- A map from words to ints as the row of its keys, each with its place. Nothing of the program is in it. · While a value is shown: the heap, the shower, its map, the text, each in blocks of its own; from one world to the next. · The shower's calls, while there is room: a word without parts, an object that one is within, one that has parts. -/
import Derived.Maps.OwnSet
import Derived.WalkKit
import Derived.Test.YtimidonagbfjcaaGreatDoorSGk
set_option linter.unusedSimpArgs false
set_option linter.unusedVariables false
namespace Go.Proofs.YtimidonagbfjcaaGreatDoor
open Go Go.RowKit

/-- The datum of a map that has just these keys, each with its place in the row. -/
structure RowD (D : DataW Unit) (W : List Int) : Prop where
  tidy : Maps.Tidy D
  size : Maps.size D = W.length
  nd : W.Nodup
  has : ∀ v : Int, Maps.has D (.int .u64 v) = decide (v ∈ W)
  at_ : ∀ (i : Nat) (v : Int), W[i]? = some v → D.atKey (.int .u64 v) (.lit (.int .i64 0)) = .lit (.int .i64 i)

theorem RowD.nil : RowD (.map []) [] := ⟨Maps.tidy_empty, rfl, List.nodup_nil, fun v => by simp [Maps.has], fun i v h => by simp at h⟩

theorem key_u64 (v : Int) : WideAt.IsKeyLit (.int .u64 v) := by simp [WideAt.IsKeyLit]

theorem RowD.snoc {D : DataW Unit} {W : List Int} (h : RowD D W) {v : Int} (hv : v ∉ W) : RowD (D.put (.int .u64 v) (.lit (.int .i64 W.length))) (W ++ [v]) where
  tidy := h.tidy.put (key_u64 v) _
  size := by
    have h1 := h.has v
    rw [Maps.size_put h.tidy, h1]
    simp [hv, h.size]
  nd := by
    rw [List.nodup_append]
    exact ⟨h.nd, by simp, by intro a ha b hb; simp at hb; subst hb; intro e; subst e; exact hv ha⟩
  has := fun u => by
    by_cases hu : u = v
    · subst hu
      rw [Maps.has_put_same h.tidy.isMap (key_u64 u)]
      simp
    · rw [Maps.has_put_other (by simpa using hu), h.has u]
      simp [hu]
  at_ := fun i u hi => by
    by_cases hl : i < W.length
    · rw [List.getElem?_append_left hl] at hi
      have hm : u ∈ W := List.mem_of_getElem? hi
      have hu : u ≠ v := fun e => by subst e; exact hv hm
      rw [Maps.atKey_put_other (by simpa using hu)]
      exact h.at_ i u hi
    · rw [List.getElem?_append_right (by omega)] at hi
      have h0 : i - W.length = 0 := by
        have := (List.getElem?_eq_some_iff.1 hi).1
        simp at this; omega
      rw [h0] at hi
      simp at hi
      subst hi
      rw [Maps.atKey_put_same h.tidy.isMap (key_u64 v)]
      have : i = W.length := by omega
      rw [this]

theorem RowD.pop {D : DataW Unit} {W : List Int} {v : Int} (h : RowD D (W ++ [v])) : RowD (D.del (.int .u64 v)) W := by
  have hnd := h.nd
  rw [List.nodup_append] at hnd
  have hv : v ∉ W := fun hm => hnd.2.2 v hm v (by simp) rfl
  refine ⟨h.tidy.del _, ?_, hnd.1, fun u => ?_, fun i u hi => ?_⟩
  · have h1 := h.has v
    have h2 := Maps.size_del (k := .int .u64 v) h.tidy
    rw [h1, h.size] at h2
    simp at h2
    omega
  · by_cases hu : u = v
    · subst hu
      rw [Maps.has_del_same]
      simp [hv]
    · rw [Maps.has_del_other (by simpa using hu), h.has u]
      simp [hu]
  · have hm : u ∈ W := List.mem_of_getElem? hi
    have hu : u ≠ v := fun e => by subst e; exact hv hm
    rw [Maps.atKey_del_other (by simpa using hu)]
    exact h.at_ i u (by rw [List.getElem?_append_left (List.getElem?_eq_some_iff.1 hi).1]; exact hi)

/-- The block b is a map that has just these keys, each with its place in the row. -/
def MW (P : Program) (k e : TypeId) (w : World) (b : Nat) (W : List Int) : Prop := ∃ D, w.ownsMap P k (plainElem (H := Unit) P e) b W.length D ∧ RowD D W

theorem own_tight {P : Program} {k : TypeId} {R : Value → Option (DataW Unit × List MemPlace)} {w : World} {b n m : Nat} {D : DataW Unit} (h : w.ownsMap P k R b n D) (hm : Maps.size D = m) : w.ownsMap P k R b m D := by
  obtain ⟨es, clock, hb, F, hs, rfl⟩ := h
  refine ⟨es, clock, hb, F, ?_, rfl⟩
  rw [← hm]
  simp [Maps.size, length_sorted]

theorem MW.lt {P : Program} {k e : TypeId} {w : World} {b : Nat} {W : List Int} (h : MW P k e w b W) : b < w.heap.size := by
  obtain ⟨D, h, _⟩ := h
  exact h.lt

/-- A map whose block stays stays. -/
theorem MW.keep {P : Program} {k e : TypeId} {w w' : World} {b : Nat} {W : List Int} (h : MW P k e w b W) (hb : w'.heap[b]? = w.heap[b]?) : MW P k e w' b W := by
  obtain ⟨D, ⟨es, clock, h1, r⟩, hr⟩ := h
  exact ⟨D, ⟨es, clock, hb.trans h1, r⟩, hr⟩

end Go.Proofs.YtimidonagbfjcaaGreatDoor

set_option linter.unusedSimpArgs false
set_option linter.unusedVariables false
namespace Go.Proofs.YtimidonagbfjcaaGreatDoor
open Go Go.RowKit

/-- What one is within in memory: the map. -/
abbrev Wi (w : World) (mb : Nat) (W : List Int) : Prop := MW Tryz.prog 27 3 w mb W

/-- The text in memory: the closure's variable, a row of the call's own. -/
def Tx (w : World) (bt base : Nat) (xs : List Value) : Prop := ∃ t, Blk w bt #[t] 30 ∧ w.ownsRow base 5 1 t xs.length xs

/-- The heap H at b0 (its blocks bs), the shower at sb, its map at mb, the text's variable at bt; all below base but what the text's row is. -/
structure SI (w : World) (b0 : Nat) (H : AHeap) (bs : List Nat) (sb mb bt base : Nat) (W : List Int) (xs : List Value) : Prop where
  hs : HS w b0 H bs
  lo : ∀ k ∈ bs, k < base ∧ k ≠ mb ∧ k ≠ bt
  sbn : sb < base ∧ sb ≠ mb ∧ sb ≠ bt
  mbn : mb < base ∧ mb ≠ bt
  btn : bt < base
  top : base ≤ w.heap.size
  sh : Blk w sb (shv b0 mb bt) 72
  mp : Wi w mb W
  tx : Tx w bt base xs

/-- From one world to the next while something is shown. -/
structure St (mb bt base : Nat) (w w' : World) : Prop where
  os : w'.os = w.os
  tape : w'.tape = w.tape
  output : w'.output = w.output
  size : w.heap.size ≤ w'.heap.size
  block : ∀ b, b < base → b ≠ mb → b ≠ bt → w'.heap[b]? = w.heap[b]?

theorem St.refl (mb bt base : Nat) (w : World) : St mb bt base w w := ⟨rfl, rfl, rfl, Nat.le_refl _, fun _ _ _ _ => rfl⟩
theorem St.trans {mb bt base : Nat} {a b c : World} (h : St mb bt base a b) (k : St mb bt base b c) : St mb bt base a c :=
  ⟨k.os.trans h.os, k.tape.trans h.tape, k.output.trans h.output, Nat.le_trans h.size k.size, fun x h1 h2 h3 => (k.block x h1 h2 h3).trans (h.block x h1 h2 h3)⟩
theorem St.bw {mb bt base : Nat} {w w' : World} (h : Bw w w') (hb : base ≤ w.heap.size) : St mb bt base w w' :=
  ⟨h.os, h.tape, h.output, h.size, fun x h1 _ _ => h.block x (by omega)⟩

theorem SI.next {w w' : World} {b0 : Nat} {H : AHeap} {bs : List Nat} {sb mb bt base : Nat} {W W' : List Int} {xs xs' : List Value} (h : SI w b0 H bs sb mb bt base W xs)
    (hst : St mb bt base w w') (hm : Wi w' mb W') (ht : Tx w' bt base xs') : SI w' b0 H bs sb mb bt base W' xs' where
  hs := by
    obtain ⟨vo, t, hp, e⟩ := h.hs
    exact ⟨vo, t, hp.same (fun k hk => by have := h.lo k (by rw [e]; exact hk); exact hst.block k this.1 this.2.1 this.2.2), e⟩
  lo := h.lo
  sbn := h.sbn
  mbn := h.mbn
  btn := h.btn
  top := Nat.le_trans h.top hst.size
  sh := h.sh.keep (hst.block sb h.sbn.1 h.sbn.2.1 h.sbn.2.2)
  mp := hm
  tx := ht

theorem SI.bw {w w' : World} {b0 : Nat} {H : AHeap} {bs : List Nat} {sb mb bt base : Nat} {W : List Int} {xs : List Value} (h : SI w b0 H bs sb mb bt base W xs) (hb : Bw w w') : SI w' b0 H bs sb mb bt base W xs :=
  h.next (St.bw hb h.top) (h.mp.keep (hb.block mb h.mp.lt)) (by obtain ⟨t, h1, h2⟩ := h.tx; exact ⟨t, h1.bw hb, own_bw h2 hb⟩)

theorem SI.st {w w' : World} {b0 : Nat} {H : AHeap} {bs : List Nat} {sb mb bt base : Nat} {W : List Int} {xs : List Value} (h : SI w b0 H bs sb mb bt base W xs) (hb : Bw w w') : St mb bt base w w' := St.bw hb h.top

theorem SI.c0 {w : World} {b0 : Nat} {H : AHeap} {bs : List Nat} {sb mb bt base : Nat} {W : List Int} {xs : List Value} (h : SI w b0 H bs sb mb bt base W xs) : w.cell? ⟨sb, 0, none⟩ = some (.pointer (some ⟨b0, 0, none⟩)) := h.sh.cell 0
theorem SI.c1 {w : World} {b0 : Nat} {H : AHeap} {bs : List Nat} {sb mb bt base : Nat} {W : List Int} {xs : List Value} (h : SI w b0 H bs sb mb bt base W xs) : w.cell? ⟨sb, 1, none⟩ = some (.map (some mb)) := h.sh.cell 1
theorem SI.c2 {w : World} {b0 : Nat} {H : AHeap} {bs : List Nat} {sb mb bt base : Nat} {W : List Int} {xs : List Value} (h : SI w b0 H bs sb mb bt base W xs) : w.cell? ⟨sb, 2, none⟩ = some (.func (.func 26) #[] #[.pointer (some ⟨bt, 0, none⟩)]) := h.sh.cell 2

/-- A piece is put behind the text. -/
theorem put_si (s : ByteArray) {w : World} {b0 : Nat} {H : AHeap} {bs : List Nat} {sb mb bt base : Nat} {W : List Int} {xs : List Value} (h : SI w b0 H bs sb mb bt base W xs) (hr : xs.length + s.size ≤ 65536) :
    Calls Tryz.prog 26 #[.string s, .pointer (some ⟨bt, 0, none⟩)] w fun e w' => e = .returned (.bool true) ∧ SI w' b0 H bs sb mb bt base W (xs ++ Lib.strCells s) ∧ St mb bt base w w' := by
  obtain ⟨t, hB, ho⟩ := h.tx
  refine (put_any s bt base xs t w hB ho (by omega) (by omega) h.top).mono ?_
  intro e w' hc
  rcases hc with hc | ⟨_, he, v', w1, how, hg, hw', hb1⟩
  · exact absurd hc.1 (by omega)
  · have hst1 : ∀ b, b < base → w1.heap[b]? = w.heap[b]? := fun b hb => hg.block b (Nat.lt_of_lt_of_le hb h.top) (fun k => by have := (ho.lt b k.symm).1; omega)
    have hst : St mb bt base w w' := by
      rw [hw']
      exact ⟨hg.os, hg.tape, hg.output, by simpa [World.setCell] using hg.size, fun b h1 _ h3 => (Below.heap_setCell w1 ⟨bt, 0, none⟩ v' b h3).trans (hst1 b h1)⟩
    refine ⟨he, h.next hst ?_ ?_, hst⟩
    · refine h.mp.keep ?_
      rw [hw']
      exact (Below.heap_setCell w1 ⟨bt, 0, none⟩ v' mb h.mbn.2).trans (hst1 mb h.mbn.1)
    · refine ⟨v', ?_, ?_⟩
      · rw [hw']; exact hb1.set 0 v'
      · rw [hw', List.length_append, Lib.strCells_length]
        refine own_same how (fun k hk => Below.heap_setCell w1 ⟨bt, 0, none⟩ v' k (fun e => ?_))
        have h1 := (how.lt k hk).1
        have h2 := h.btn
        have e' : k = bt := e
        omega

/-- What is put between two. -/
def btw (i : Nat) : List Value := if i = 0 then [] else [.int .u8 44, .int .u8 32]

/-- What a row of words looks like, f saying it of one. -/
def lks (f : Int → Option (List Value)) : Nat → List Int → Option (List Value)
  | _, [] => some []
  | i, x :: r => match f x, lks f (i + 1) r with
    | some a, some b => some (btw i ++ a ++ b)
    | _, _ => none

/-- What a word looks like, pl saying it of words without parts, it of how far up (records, cells: not yet). -/
def lk (H : AHeap) (pl : Int → Option ByteArray) (it : Nat → Option ByteArray) : Nat → List Int → Int → Option (List Value)
  | 0, _, _ => none
  | n + 1, W, v =>
    if (kk H v == 2 || kk H v == 3 || kk H v == 4) = true then
      if v ∈ W then (it (W.length - W.idxOf v)).map (fun s => Lib.strCells (⟨#[94]⟩ ++ s))
      else if kk H v = 2 then (lks (lk H pl it n (W ++ [v])) 0 (ob H v).vals).map (fun t => [.int .u8 91] ++ t ++ [.int .u8 93])
      else none
    else (pl v).map Lib.strCells

end Go.Proofs.YtimidonagbfjcaaGreatDoor

set_option linter.unusedSimpArgs false
set_option linter.unusedVariables false
namespace Go.Proofs.YtimidonagbfjcaaGreatDoor
open Go Go.RowKit

theorem underMp : Tryz.prog.underlying 70 = some (.map 27 3) := by kernel_rfl
theorem underKV : Tryz.prog.underlying 27 = some (.int .u64) := by kernel_rfl
theorem underKI : Tryz.prog.underlying 3 = some (.int .i64) := by kernel_rfl
theorem zeroKI (w : World) : (zeroValue 3).run Tryz.prog w = .ok (.int .i64 0) w := by kernel_rfl
theorem lawKV : Maps.Keyed Tryz.prog 27 := Maps.int_keyed underKV
theorem wfU {v : Int} (h : U v) : (Lit.int .u64 v).wf = true := WalkArith.wf_u64 (by unfold U at h; omega)

/-- The map alone was turned. -/
theorem SI.turned {w w' : World} {b0 : Nat} {H : AHeap} {bs : List Nat} {sb mb bt base : Nat} {W W' : List Int} {xs : List Value} (h : SI w b0 H bs sb mb bt base W xs) (ht : w.mapTurned w' mb) (hm : Wi w' mb W') :
    SI w' b0 H bs sb mb bt base W' xs ∧ St mb bt base w w' := by
  have hg := ht.grown
  have hb : ∀ b, b < w.heap.size → b ≠ mb → w'.heap[b]? = w.heap[b]? := fun b h1 h2 => hg.block b h1 (fun e => h2 (Option.some.inj e))
  have hst : St mb bt base w w' := ⟨hg.os, hg.tape, hg.output, hg.size, fun b h1 h2 _ => hb b (Nat.lt_of_lt_of_le h1 h.top) h2⟩
  obtain ⟨t, h1, h2⟩ := h.tx
  refine ⟨h.next hst hm ⟨t, h1.keep (hb bt h1.lt h.mbn.2.symm), own_same h2 (fun k hk => ?_)⟩, hst⟩
  have h3 := h2.lt k hk
  exact hb k h3.2 (by have := h.mbn.1; omega)

set_option maxHeartbeats 8000000 in
theorem value_pl {b0 : Nat} {H : AHeap} {bs : List Nat} {sb mb bt base : Nat} {W : List Int} {xs : List Value} (v : Int) (hU : U v) (w : World) (h : SI w b0 H bs sb mb bt base W xs)
    (hk : (kk H v == 2 || kk H v == 3 || kk H v == 4) = false) (s : ByteArray) (hr : xs.length + s.size ≤ 65536)
    (hpl : ∀ w1, Bw w w1 → Calls Tryz.prog 47 #[.pointer (some ⟨b0, 0, none⟩), .int .u64 v] w1 fun e w2 => e = .returned (.string s) ∧ Bw w1 w2) :
    Calls Tryz.prog 27 #[.pointer (some ⟨sb, 0, none⟩), .int .u64 v] w fun e w' => e = .returned (.bool true) ∧ SI w' b0 H bs sb mb bt base W (xs ++ Lib.strCells s) ∧ St mb bt base w w' := by
  have HI := hid h
  have HU := hid hU
  have HPL := hid hpl
  have z0 := h.c0
  have z2 := h.c2
  clear h hU hpl
  go_enter Tryz.func27, Tryz.ntmps27
  go_wp2_with (first
    | (go_at_call 31; refine (kind_hs4 _ HU.out _ HI.out.hs).mono ?_; rintro e w' ⟨rfl, hw'⟩; subst w')
    | (go_at_call 45; refine (hasParts_any _ _).mono ?_; rintro e w' ⟨rfl, hw'⟩; subst w'; rw [hk])
    | fail)
  go_region_held3 (fun w' => w'.cell? ⟨sb, 0, none⟩ = some (.pointer (some ⟨b0, 0, none⟩)) ∧ w'.cell? ⟨sb, 2, none⟩ = some (.func (.func 26) #[] #[.pointer (some ⟨bt, 0, none⟩)])) (first | (simp [go_sem, *]; done) | exact ⟨yy0, yy2⟩ | exact ⟨y0, y2⟩)
    (first
      | (go_at_call 47; refine (HPL.out _ (by repeat (first | exact Bw.refl _ | apply Bw.drew))).mono ?_; rintro e w2 ⟨rfl, hb2⟩; have hb3 : Bw w w2 := Bw.trans (by repeat (first | exact Bw.refl _ | apply Bw.drew)) hb2; have hi2 := HI.out.bw hb3; have y0 := hi2.c0; have y2 := hi2.c2; have HI2 := hid hi2; have HT2 := hid (HI.out.st hb3); clear hb2 hb3 hi2)
      | (go_at_call 26; refine (put_si s HI2.out hr).mono ?_; rintro e w3 ⟨rfl, hi3, hst3⟩; have yy0 := hi3.c0; have yy2 := hi3.c2; have HI3 := hid hi3; have HT3 := hid hst3; clear hi3 hst3)
      | fail)
  go_wp2
  all_goals go_ret
  all_goals exact ⟨rfl, HI3.out, HT2.out.trans HT3.out⟩

set_option maxHeartbeats 8000000 in
theorem nested_out {b0 : Nat} {H : AHeap} {bs : List Nat} {sb mb bt base : Nat} {W : List Int} {xs t : List Value} (v : Int) (hU : U v) (w : World) (h : SI w b0 H bs sb mb bt base W xs)
    (hv : v ∉ W) (hW : W.length ≤ 1000000)
    (hp : ∀ w1, St mb bt base w w1 → SI w1 b0 H bs sb mb bt base (W ++ [v]) xs → Calls Tryz.prog 62 #[.pointer (some ⟨sb, 0, none⟩), .int .u64 v] w1 fun e w2 => e = .returned (.bool true) ∧ SI w2 b0 H bs sb mb bt base (W ++ [v]) (xs ++ t) ∧ St mb bt base w1 w2) :
    Calls Tryz.prog 46 #[.pointer (some ⟨sb, 0, none⟩), .int .u64 v] w fun e w' => e = .returned (.bool true) ∧ SI w' b0 H bs sb mb bt base W (xs ++ t) ∧ St mb bt base w w' := by
  have HI := hid h
  have HP := hid hp
  have HK := hid (Maps.keyOf_int_mk underKV (wfU hU))
  have z1 := h.c1
  obtain ⟨D, ho, hr⟩ := h.mp
  have HO := hid ho
  have HR := hid hr
  have hsz := hr.size
  have hhas : Maps.has D (.int .u64 v) = false := by rw [hr.has v]; simp [hv]
  clear h hp hU ho hr
  go_enter Tryz.func46, Tryz.ntmps46
  go_wp2_with (first
    | (at_len; refine wpList_len_own _ rfl _ 70 rfl 27 3 underMp _ mb W.length D rfl HO.out ?_; rw [hsz])
    | (at_lookup; refine wpList_lookup_own_ok_int _ rfl _ _ 70 rfl 27 3 .i64 lawKV underMp underKI (zeroKI _) mb W.length D rfl HO.out _ _ rfl HK.out ?_; intro c hat hwc; rw [hhas]; clear hat hwc)
    | (at_mapUpdate; refine wpList_mapUpdate_in _ rfl _ _ _ 70 rfl 27 3 lawKV underMp _ mb W.length D rfl HO.out (by unfold maxLen; omega) _ _ _ rfl rfl HK.out _ [] (plainElem_int underKI (WalkArith.wf_i64 (by omega))) ?_; intro w1 hown1 hturn1; have hw1 : Wi w1 mb (W ++ [v]) := ⟨_, by simpa using hown1, HR.out.snoc hv⟩; obtain ⟨hi1, hs1⟩ := HI.out.turned hturn1 hw1; have y1 := hi1.c1; have HI1 := hid hi1; have HT1 := hid hs1; clear hown1 hturn1 hw1 hi1 hs1)
    | (go_at_call 62; refine (HP.out _ HT1.out HI1.out).mono ?_; rintro e w2 ⟨rfl, hi2, hs2⟩; have y2 := hi2.c1; obtain ⟨D2, ho2, hr2⟩ := hi2.mp; have HO2 := hid ho2; have HR2 := hid hr2; have HI2 := hid hi2; have HT2 := hid hs2; clear hi2 hs2 ho2 hr2)
    | (at_delete; refine wpList_delete_own _ rfl _ _ 70 27 rfl 3 lawKV underMp _ mb (W ++ [v]).length D2 rfl HO2.out _ _ rfl HK.out ?_; intro w3 hown3 hturn3; have hrd := HR2.out.pop; have hw3 : Wi w3 mb W := ⟨_, own_tight hown3 hrd.size, hrd⟩; obtain ⟨hi3, hs3⟩ := HI2.out.turned hturn3 hw3; have HI3 := hid hi3; have HT3 := hid hs3; clear hown3 hturn3 hw3 hi3 hs3 hrd)
    | fail)
  all_goals go_ret
  all_goals exact ⟨rfl, HI3.out, (HT1.out.trans HT2.out).trans HT3.out⟩

end Go.Proofs.YtimidonagbfjcaaGreatDoor

