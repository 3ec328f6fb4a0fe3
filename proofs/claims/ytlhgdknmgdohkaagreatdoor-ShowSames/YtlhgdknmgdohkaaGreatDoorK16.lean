/- What two objects are compared by, as the document has it: plain data. · Whether two words are alike: the document's Deep, once deep is known. -/
import Derived.Test.YtlhgdknmgdohkaaGreatDoorTTk
set_option linter.unusedSimpArgs false
set_option linter.unusedVariables false
namespace Go.Proofs.YtlhgdknmgdohkaaGreatDoor
open Go Go.RowKit

/-- The pairs that the document goes through. -/
def dkids (H : AHeap) (a b : Int) : List (Int × Int) :=
  if kk H a = 3 then (ob H a).keys.map fun s => (aFieldV H a s, aFieldV H b s) else (ob H a).vals.zip (ob H b).vals

theorem kids_doc {H : AHeap} {a b : Int} (hok : HOK H) (hn : Neat H) (ha : U a) (hb : U b) (h2 : kk H a = kk H b) (h3 : kk H a = 2 ∨ kk H a = 3 ∨ kk H a = 4) :
    kids H a b = if (ob H a).vals.length = (ob H b).vals.length ∧ ∀ s ∈ (ob H a).keys, 0 ≤ aKey (ob H b).keys s then some (dkids H a b) else none := by
  obtain ⟨ma, ka, _⟩ := ob_mem (H := H) ha (by omega)
  obtain ⟨mb, kb, _⟩ := ob_mem (H := H) hb (by omega)
  have na := hn _ ma
  have nb := hn _ mb
  rcases h3 with e | e | e
  · have k0 : (ob H a).keys = [] := na.2.1 (by omega)
    unfold kids dkids
    rw [if_pos e, if_neg (by omega : ¬ kk H a = 3), k0]
    simp
  · have la : (ob H a).keys.length = (ob H a).vals.length := (hok _ ma).2.2.1 (by omega)
    have lb : (ob H b).keys.length = (ob H b).vals.length := (hok _ mb).2.2.1 (by omega)
    unfold kids dkids sameK
    rw [if_neg (by omega : ¬ kk H a = 2), if_pos e, if_pos e, ← la, ← lb]
    simp [List.all_eq_true]
  · have k0 : (ob H a).keys = [] := na.2.1 (by omega)
    have la : (ob H a).vals.length = 1 := na.2.2 (by omega)
    have lb : (ob H b).vals.length = 1 := nb.2.2 (by omega)
    obtain ⟨x, hx⟩ := List.length_eq_one_iff.1 la
    obtain ⟨y, hy⟩ := List.length_eq_one_iff.1 lb
    unfold kids dkids aAtV
    rw [if_neg (by omega : ¬ kk H a = 2), if_neg (by omega : ¬ kk H a = 3), k0, hx, hy, if_neg (by omega : ¬ kk H a = 3), if_neg (by omega : ¬ kk H a = 1), if_neg (by omega : ¬ kk H b = 1), if_pos (by omega : kk H a = 2 ∨ kk H a = 4), if_pos (by omega : kk H b = 2 ∨ kk H b = 4)]
    simp

theorem dkids_len {H : AHeap} {a b : Int} (hok : HOK H) (ha : U a) (h3 : kk H a = 2 ∨ kk H a = 3 ∨ kk H a = 4) (hl : (ob H a).vals.length = (ob H b).vals.length) : (dkids H a b).length = (ob H a).vals.length := by
  obtain ⟨ma, ka, _⟩ := ob_mem (H := H) ha (by omega)
  unfold dkids
  split
  · rw [List.length_map]; exact (hok _ ma).2.2.1 (by omega)
  · simp [hl]

/-- The i-th of them. -/
theorem dkids_at {H : AHeap} {a b : Int} (hok : HOK H) (hn : Neat H) (ha : U a) (h2 : kk H a = kk H b) (h3 : kk H a = 2 ∨ kk H a = 3 ∨ kk H a = 4) (hl : (ob H a).vals.length = (ob H b).vals.length) (i : Nat) (hi : i < (ob H a).vals.length) :
    (kk H a ≠ 3 → (dkids H a b)[i]? = some ((ob H a).vals[i], (ob H b).vals[i])) ∧ (kk H a = 3 → ∀ (hk : i < (ob H a).keys.length), (dkids H a b)[i]? = some ((ob H a).vals[i], fldV (ob H b) (ob H a).keys[i])) := by
  obtain ⟨ma, ka, _⟩ := ob_mem (H := H) ha (by omega)
  refine ⟨fun e => ?_, fun e hk => ?_⟩
  · unfold dkids
    rw [if_neg e, List.getElem?_eq_getElem (by simp; omega)]
    simp
  · unfold dkids
    rw [if_pos e, List.getElem?_eq_getElem (by simpa using hk)]
    have hkey : aKey (ob H a).keys (ob H a).keys[i] = i := aKey_hit hk rfl (fun j hj e' => by
      have hnd := (hn _ ma).1
      have := (List.getElem_inj hnd).1 e'
      omega)
    have hf : aFieldV H a (ob H a).keys[i] = (ob H a).vals[i] := by
      unfold aFieldV
      rw [if_pos e, hkey, if_pos (by omega)]
      simp [hi]
    rw [List.getElem_map, hf, fld_aField (by omega)]

end Go.Proofs.YtlhgdknmgdohkaaGreatDoor

set_option linter.unusedSimpArgs false
set_option linter.unusedVariables false
namespace Go.Proofs.YtlhgdknmgdohkaaGreatDoor
open Go Go.RowKit

theorem dpL_most {g : List (Int × Int) → Int → Int → DR} (hg : ∀ Ms a b, Ms.length ≤ 65536 → (g Ms a b).2.1.length ≤ 65536) : ∀ (ps Ms : List (Int × Int)), Ms.length ≤ 65536 → (dpL g ps Ms).2.1.length ≤ 65536
  | [], Ms, h => h
  | p :: r, Ms, h => by
    unfold dpL
    split
    · exact dpL_most hg r _ (hg Ms p.1 p.2 h)
    · exact hg Ms p.1 p.2 h

/-- There are never more pairs than 65536. -/
theorem dp_most (H : AHeap) : ∀ (f : Nat) (Ms : List (Int × Int)) (a b : Int), Ms.length ≤ 65536 → (dp H f Ms a b).2.1.length ≤ 65536
  | 0, Ms, a, b, h => h
  | f + 1, Ms, a, b, h => by
    unfold dp
    by_cases c1 : eqW H a b = true
    · rw [if_pos c1]; exact h
    · rw [if_neg c1]
      by_cases c2 : (kk H a != kk H b || !(kk H a == 2 || kk H a == 3 || kk H a == 4)) = true
      · rw [if_pos c2]; exact h
      · rw [if_neg c2]
        by_cases c3 : (a, b) ∈ Ms
        · rw [if_pos c3]; exact h
        · rw [if_neg c3]
          by_cases c4 : 65536 ≤ Ms.length
          · rw [if_pos c4]; exact h
          · rw [if_neg c4]
            have hl : (Ms ++ [(a, b)]).length ≤ 65536 := by rw [List.length_append, List.length_singleton]; omega
            cases hk : kids H a b with
            | none => exact hl
            | some ps => exact dpL_most (dp_most H f) _ _ hl

/-- What is to be known of the document's deep, for so much fuel. -/
def Vdk (k0 : Int) (ah : Option Addr) (ch : Nat) (H : AHeap) (sb f : Nat) : Prop :=
  ∀ (Ms : List (Int × Int)) (va vb : Value) (a b : Int) (w : World), U a → U b → Ms.length ≤ 65536 → 65536 - Ms.length < f → DI w k0 ah ch H sb va vb Ms false →
    Calls Tryz.prog 32 #[.agg #[.int .i64 k0, .slice ah H.2.length ch], .pointer (some ⟨sb, 0, none⟩), .int .u64 a, .int .u64 b] w fun e w' => e = .returned (.bool (dp H f Ms a b).1) ∧ ∃ va' vb', DI w' k0 ah ch H sb va' vb' (dp H f Ms a b).2.1 (dp H f Ms a b).2.2 ∧ DS sb w va vb w' va' vb'

/-- What is to be known of a pair that is new: the one way of deep that is left. -/
def Vnew (k0 : Int) (ah : Option Addr) (ch : Nat) (H : AHeap) (sb f : Nat) : Prop :=
  ∀ (Ms : List (Int × Int)) (va vb : Value) (a b : Int) (w : World), U a → U b → Ms.length < 65536 → 65536 - (Ms ++ [(a, b)]).length < f → DI w k0 ah ch H sb va vb Ms false →
    eqW H a b = false → (kk H a != kk H b) = false → (kk H a = 2 ∨ kk H a = 3 ∨ kk H a = 4) → (a, b) ∉ Ms → ∀ r : DR, (kids H a b = none → r = (false, Ms ++ [(a, b)], false)) → (∀ ps, kids H a b = some ps → r = dpL (dp H f) ps (Ms ++ [(a, b)])) →
    Calls Tryz.prog 32 #[.agg #[.int .i64 k0, .slice ah H.2.length ch], .pointer (some ⟨sb, 0, none⟩), .int .u64 a, .int .u64 b] w fun e w' => e = .returned (.bool r.1) ∧ ∃ va' vb', DI w' k0 ah ch H sb va' vb' r.2.1 r.2.2 ∧ DS sb w va vb w' va' vb'

set_option maxHeartbeats 2000000 in
theorem vdeep_step {k0 : Int} {ah : Option Addr} {ch : Nat} {H : AHeap} {sb f : Nat} (hok : HOK H) (hbr : Bare H) (hm : H.2.length ≤ 1000000) (hv : Vnew k0 ah ch H sb f) : Vdk k0 ah ch H sb (f + 1) := by
  intro Ms va vb a b w ha hb hl hf h
  by_cases c1 : eqW H a b = true
  · have e : dp H (f + 1) Ms a b = (true, Ms, false) := by rw [dp, if_pos c1]
    rw [e]
    exact (vdeep_early hok hbr hm a b ha hb w h true (.inl ⟨c1, rfl⟩)).mono fun e w' ⟨he, hb'⟩ => ⟨he, va, vb, h.bw hb', DS.of_bw hb'⟩
  · have c1' : eqW H a b = false := by simpa using c1
    by_cases c2 : (kk H a != kk H b || !(kk H a == 2 || kk H a == 3 || kk H a == 4)) = true
    · have e : dp H (f + 1) Ms a b = (false, Ms, false) := by rw [dp, if_neg c1, if_pos c2]
      rw [e]
      exact (vdeep_early hok hbr hm a b ha hb w h false (.inr ⟨c1', c2, rfl⟩)).mono fun e w' ⟨he, hb'⟩ => ⟨he, va, vb, h.bw hb', DS.of_bw hb'⟩
    · have c2' := c2
      rw [Bool.not_eq_true, Bool.or_eq_false_iff] at c2'
      obtain ⟨k1, k2⟩ := c2'
      rw [Bool.not_eq_false'] at k2
      have k3 : kk H a = 2 ∨ kk H a = 3 ∨ kk H a = 4 := by
        rw [Bool.or_eq_true, Bool.or_eq_true] at k2
        rcases k2 with (k2 | k2) | k2
        · exact .inl (by simpa using k2)
        · exact .inr (.inl (by simpa using k2))
        · exact .inr (.inr (by simpa using k2))
      by_cases c3 : (a, b) ∈ Ms
      · have e : dp H (f + 1) Ms a b = (true, Ms, false) := by rw [dp, if_neg c1, if_neg c2, if_pos c3]
        rw [e]
        exact (vdeep_met hok hbr hm a b ha hb w h c1' k1 k3 c3 (by omega)).mono fun e w' ⟨he, hb'⟩ => ⟨he, va, vb, h.bw hb', DS.of_bw hb'⟩
      · by_cases c4 : 65536 ≤ Ms.length
        · have e : dp H (f + 1) Ms a b = (false, Ms, true) := by rw [dp, if_neg c1, if_neg c2, if_neg c3, if_pos c4]
          rw [e]
          exact (vdeep_many hok hbr hm a b ha hb w h c1' k1 k3 c3 (by omega)).mono fun e w' ⟨he, h1, h2⟩ => ⟨he, va, vb, h1, h2⟩
        · refine hv Ms va vb a b w ha hb (by omega) (by rw [List.length_append, List.length_singleton]; omega) h c1' k1 k3 c3 _ (fun hk => ?_) (fun ps hk => ?_)
          · rw [dp, if_neg c1, if_neg c2, if_neg c3, if_neg c4, hk]
          · rw [dp, if_neg c1, if_neg c2, if_neg c3, if_neg c4, hk]

theorem DI.begin {w : World} {k0 : Int} {ah : Option Addr} {ch : Nat} {H : AHeap} {G : Nat → Prop} (h : RdH w G (.agg #[.int .i64 k0, .slice ah H.2.length ch]) H) :
    DI ((w.alloc (.cells #[.int .i64 k0, .slice ah H.2.length ch] 32)).alloc (.cells #[.slice none 0 0, .slice none 0 0, .bool false] 81)) k0 ah ch H (w.heap.size + 1) (.slice none 0 0) (.slice none 0 0) [] false where
  rd := h.keep (((Bw.refl w).alloc _).alloc _).size (fun b hb _ => (((Bw.refl w).alloc _).alloc _).block b hb) (fun b hb _ => by omega)
  k := by
    have := Blk.new (w.alloc (.cells #[.int .i64 k0, .slice ah H.2.length ch] 32)) #[.slice none 0 0, .slice none 0 0, .bool false] 81
    simpa using this
  oa := ⟨rfl, .inl ⟨rfl, rfl⟩⟩
  ob := ⟨rfl, .inl ⟨rfl, rfl⟩⟩
  ne := fun b e => by simp [Value.ownBlock] at e

set_option maxRecDepth 100000 in
set_option maxHeartbeats 8000000 in
theorem rdeep_of {k0 : Int} {ah : Option Addr} {ch : Nat} {H : AHeap} {G : Nat → Prop} (a b : Int) (ha : U a) (hb : U b) (w : World) (h : RdH w G (.agg #[.int .i64 k0, .slice ah H.2.length ch]) H) (hv : Vdk k0 ah ch H (w.heap.size + 1) 65537) :
    Calls Tryz.prog 11 #[.agg #[.int .i64 k0, .slice ah H.2.length ch], .int .u64 a, .int .u64 b] w fun e w' => e = .returned (.tuple #[.bool (dp H 65537 [] a b).1, .int .i64 (if (dp H 65537 [] a b).2.2 = true then 3 else 0)]) ∧ Bw w w' := by
  have HB := hid (DI.begin h)
  have HC := hid (fun w1 h1 => hv [] (.slice none 0 0) (.slice none 0 0) a b w1 ha hb (by simp) (by simp) h1)
  have HM := hid (dp_many H 65537 [] a b)
  have HBW := hid (((Bw.refl w).alloc (.cells #[.int .i64 k0, .slice ah H.2.length ch] 32)).alloc (.cells #[.slice none 0 0, .slice none 0 0, .bool false] 81))
  clear h ha hb hv
  generalize dp H 65537 [] a b = r at HC HM ⊢
  obtain ⟨r1, r2, r3⟩ := r
  cases r3
  · go_enter Tryz.func11, Tryz.ntmps11
    go_wp2_with (first
      | (go_at_call 32; refine (HC.out _ HB.out).mono ?_; rintro e w1 ⟨rfl, va', vb', hi1, hf1⟩; have y2 := hi1.k.cell 2; have HF1 := hid hf1; clear hi1 hf1)
      | fail)
    all_goals go_ret2
    all_goals refine ⟨rfl, ?_⟩
    all_goals exact ⟨HF1.out.os.trans HBW.out.os, HF1.out.tape.trans HBW.out.tape, HF1.out.output.trans HBW.out.output, Nat.le_trans HBW.out.size HF1.out.size, fun b hb => (HF1.out.block b (Nat.lt_of_lt_of_le hb HBW.out.size) (by omega) (by simp [Value.ownBlock]) (by simp [Value.ownBlock])).trans (HBW.out.block b hb)⟩
  · have h1 : r1 = false := by
      cases r1
      · rfl
      · exact absurd (HM.out rfl) (by simp)
    subst h1
    go_enter Tryz.func11, Tryz.ntmps11
    go_wp2_with (first
      | (go_at_call 32; refine (HC.out _ HB.out).mono ?_; rintro e w1 ⟨rfl, va', vb', hi1, hf1⟩; have y2 := hi1.k.cell 2; have HF1 := hid hf1; clear hi1 hf1)
      | fail)
    all_goals go_ret2
    all_goals refine ⟨rfl, ?_⟩
    all_goals exact ⟨HF1.out.os.trans HBW.out.os, HF1.out.tape.trans HBW.out.tape, HF1.out.output.trans HBW.out.output, Nat.le_trans HBW.out.size HF1.out.size, fun b hb => (HF1.out.block b (Nat.lt_of_lt_of_le hb HBW.out.size) (by omega) (by simp [Value.ownBlock]) (by simp [Value.ownBlock])).trans (HBW.out.block b hb)⟩

end Go.Proofs.YtlhgdknmgdohkaaGreatDoor

