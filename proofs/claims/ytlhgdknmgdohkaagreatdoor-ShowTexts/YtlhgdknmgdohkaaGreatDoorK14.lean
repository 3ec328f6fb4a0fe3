/- A map keyed by pairs of words, as the row of its keys. · Whether two words are alike, part by part: plain data; the program's steps from entry to entry. -/
import Derived.Test.YtlhgdknmgdohkaaGreatDoorK9
import Derived.DeepKeys4
import Derived.Maps.OwnSet
import Derived.Test.YtlhgdknmgdohkaaGreatDoorTEk
import Derived.Deep.Light
set_option linter.unusedSimpArgs false
set_option linter.unusedVariables false
namespace Go.Proofs.YtlhgdknmgdohkaaGreatDoor
open Go Go.RowKit

/-- A pair as a value. -/
def pv (p : Int × Int) : Value := .agg #[.int .u64 p.1, .int .u64 p.2]

theorem laidOutP : laidOutB Tryz.prog = true := by kernel_rfl
theorem lawP : Maps.Keyed Tryz.prog 117 := Maps.Keyed.of_law (deep_law_laid laidOutP (m := 2) (by omega) (of_decide_eq_true (by kernel_rfl)) (by kernel_rfl) (by kernel_rfl))
theorem underMm : Tryz.prog.underlying 75 = some (.map 117 3) := by kernel_rfl

theorem pv_inj {p q : Int × Int} (h : pv p = pv q) : p = q := by
  unfold pv at h
  simp at h
  exact Prod.ext h.1 h.2

set_option maxRecDepth 100000 in
theorem keyP (p : Int × Int) (h1 : U p.1) (h2 : U p.2) : ∃ l, keyOf Tryz.prog 117 (pv p) = some l := by
  have w1 : (Lit.int .u64 p.1).wf = true := WalkArith.wf_u64 (by unfold U at h1; omega)
  have w2 : (Lit.int .u64 p.2).wf = true := WalkArith.wf_u64 (by unfold U at h2; omega)
  have c1 : Tryz.prog.cellsOf 27 = 1 := by kernel_rfl
  have c2 : Tryz.prog.cellsOf 117 = 2 := by kernel_rfl
  have hkt : Tryz.prog.keyType 117 = true := by kernel_rfl
  have hf : (pv p).formed Tryz.prog 117 = true := by unfold pv Value.formed; simp [Tryz.underlying117, c2]
  have uv : Tryz.prog.underlying 27 = some (.int .u64) := by kernel_rfl
  obtain ⟨n, hn⟩ : ∃ n, Tryz.prog.types.size = n + 1 := ⟨Tryz.prog.types.size - 1, by have : 0 < Tryz.prog.types.size := of_decide_eq_true (by kernel_rfl); omega⟩
  unfold keyOf
  rw [Tryz.underlying117]
  simp only [hkt, hf, Bool.and_self, if_true]
  rw [hn]
  simp [Program.keyLits, Tryz.underlying117, c1, c2, uv, pv, Value.cells, w1, w2]

/-- The datum of a map that has just these keys. -/
structure RowP (D : DataW Unit) (Ms : List (Int × Int)) : Prop where
  tidy : Maps.Tidy D
  size : Maps.size D = Ms.length
  nd : Ms.Nodup
  has : ∀ (p : Int × Int) (l : Lit), keyOf Tryz.prog 117 (pv p) = some l → Maps.has D l = decide (p ∈ Ms)

theorem RowP.nil : RowP (.map []) [] := ⟨Maps.tidy_empty, rfl, List.nodup_nil, fun p l _ => by simp [Maps.has]⟩

theorem RowP.snoc {D : DataW Unit} {Ms : List (Int × Int)} (h : RowP D Ms) {p : Int × Int} {l : Lit} (hl : keyOf Tryz.prog 117 (pv p) = some l) (hp : p ∉ Ms) (d : DataW Unit) : RowP (D.put l d) (Ms ++ [p]) where
  tidy := h.tidy.put (lawP.key hl) _
  size := by
    rw [Maps.size_put h.tidy, h.has p l hl]
    simp [hp, h.size]
  nd := by
    rw [List.nodup_append]
    exact ⟨h.nd, by simp, by intro a ha b hb; simp at hb; subst hb; intro e; subst e; exact hp ha⟩
  has := fun q m hm => by
    by_cases hq : q = p
    · subst hq
      have : m = l := Option.some.inj (hm.symm.trans hl)
      subst this
      rw [Maps.has_put_same h.tidy.isMap (lawP.key hl)]
      simp
    · have hne : m ≠ l := fun e => by
        subst e
        exact hq (pv_inj (lawP.inj hm hl))
      rw [Maps.has_put_other hne, h.has q m hm]
      simp [hq]

/-- The block b is a map that has just these keys. -/
def MP (w : World) (b : Nat) (Ms : List (Int × Int)) : Prop := ∃ D, w.ownsMap Tryz.prog 117 (plainElem (H := Unit) Tryz.prog 3) b Ms.length D ∧ RowP D Ms

theorem MP.lt {w : World} {b : Nat} {Ms : List (Int × Int)} (h : MP w b Ms) : b < w.heap.size := by
  obtain ⟨D, h, _⟩ := h
  exact h.lt
theorem MP.keep {w w' : World} {b : Nat} {Ms : List (Int × Int)} (h : MP w b Ms) (hb : w'.heap[b]? = w.heap[b]?) : MP w' b Ms := by
  obtain ⟨D, ⟨es, clock, h1, r⟩, hr⟩ := h
  exact ⟨D, ⟨es, clock, hb.trans h1, r⟩, hr⟩

end Go.Proofs.YtlhgdknmgdohkaaGreatDoor

set_option linter.unusedSimpArgs false
set_option linter.unusedVariables false
namespace Go.Proofs.YtlhgdknmgdohkaaGreatDoor
open Go Go.RowKit

/-- Alike? The pairs that were met; were there too many? -/
abbrev DR := Bool × List (Int × Int) × Bool

/-- One pair behind the other, up to the first that is not alike. -/
def dpL (g : List (Int × Int) → Int → Int → DR) : List (Int × Int) → List (Int × Int) → DR
  | [], Ms => (true, Ms, false)
  | p :: r, Ms => if (g Ms p.1 p.2).1 = true then dpL g r (g Ms p.1 p.2).2.1 else g Ms p.1 p.2

/-- Have two records the same keys (each stands once)? -/
def sameK (k l : List ByteArray) : Bool := decide (k.length = l.length) && k.all (fun s => decide (0 ≤ aKey l s))

/-- What two objects with parts are compared by; none: they differ at first sight. -/
def kids (H : AHeap) (a b : Int) : Option (List (Int × Int)) :=
  if kk H a = 2 then (if (ob H a).vals.length = (ob H b).vals.length then some ((ob H a).vals.zip (ob H b).vals) else none)
  else if kk H a = 3 then (if sameK (ob H a).keys (ob H b).keys = true then some ((ob H a).keys.map fun s => (aFieldV H a s, aFieldV H b s)) else none)
  else some [(aAtV H a 0, aAtV H b 0)]

/-- Are two words alike? (The fuel: more than 65536 less the pairs met is enough.) -/
def dp (H : AHeap) : Nat → List (Int × Int) → Int → Int → DR
  | 0, Ms, _, _ => (false, Ms, false)
  | f + 1, Ms, a, b =>
    if eqW H a b = true then (true, Ms, false)
    else if (kk H a != kk H b || !(kk H a == 2 || kk H a == 3 || kk H a == 4)) = true then (false, Ms, false)
    else if (a, b) ∈ Ms then (true, Ms, false)
    else if 65536 ≤ Ms.length then (false, Ms, true)
    else match kids H a b with
      | none => (false, Ms ++ [(a, b)], false)
      | some ps => dpL (dp H f) ps (Ms ++ [(a, b)])

theorem dpL_len {g : List (Int × Int) → Int → Int → DR} (hg : ∀ Ms a b, Ms.length ≤ (g Ms a b).2.1.length) : ∀ (ps Ms : List (Int × Int)), Ms.length ≤ (dpL g ps Ms).2.1.length
  | [], Ms => Nat.le_refl _
  | p :: r, Ms => by
    unfold dpL
    split
    · exact Nat.le_trans (hg Ms p.1 p.2) (dpL_len hg r _)
    · exact hg Ms p.1 p.2

theorem dp_len (H : AHeap) : ∀ (f : Nat) (Ms : List (Int × Int)) (a b : Int), Ms.length ≤ (dp H f Ms a b).2.1.length
  | 0, Ms, a, b => Nat.le_refl _
  | f + 1, Ms, a, b => by
    unfold dp
    repeat' split
    all_goals first | exact Nat.le_refl _ | (simp; done) | exact Nat.le_trans (by simp) (dpL_len (dp_len H f) _ _)

theorem dpL_many {g : List (Int × Int) → Int → Int → DR} (hg : ∀ Ms a b, (g Ms a b).1 = true → (g Ms a b).2.2 = false) : ∀ (ps Ms : List (Int × Int)), (dpL g ps Ms).1 = true → (dpL g ps Ms).2.2 = false
  | [], Ms, _ => rfl
  | p :: r, Ms, h => by
    unfold dpL at h ⊢
    split
    · rename_i hc
      rw [if_pos hc] at h
      exact dpL_many hg r _ h
    · rename_i hc
      rw [if_neg hc] at h
      exact absurd h hc

theorem dp_many (H : AHeap) : ∀ (f : Nat) (Ms : List (Int × Int)) (a b : Int), (dp H f Ms a b).1 = true → (dp H f Ms a b).2.2 = false
  | 0, Ms, a, b, h => rfl
  | f + 1, Ms, a, b, h => by
    unfold dp at h ⊢
    by_cases c1 : eqW H a b = true
    · rw [if_pos c1]
    · rw [if_neg c1] at h ⊢
      by_cases c2 : (kk H a != kk H b || !(kk H a == 2 || kk H a == 3 || kk H a == 4)) = true
      · rw [if_pos c2]
      · rw [if_neg c2] at h ⊢
        by_cases c3 : (a, b) ∈ Ms
        · rw [if_pos c3]
        · rw [if_neg c3] at h ⊢
          by_cases c4 : 65536 ≤ Ms.length
          · rw [if_pos c4] at h; cases h
          · rw [if_neg c4] at h ⊢
            cases hk : kids H a b with
            | none => rfl
            | some ps =>
              rw [hk] at h
              exact dpL_many (dp_many H f) _ _ h

/-- While two words are compared: the heap, the comparison at cb, its map at mb. -/
structure CI (w : World) (b0 : Nat) (H : AHeap) (bs : List Nat) (cb mb : Nat) (Ms : List (Int × Int)) (fl : Bool) : Prop where
  hs : HS w b0 H bs
  n : cb ∉ bs ∧ mb ∉ bs ∧ cb ≠ mb
  k : Blk w cb #[.pointer (some ⟨b0, 0, none⟩), .map (some mb), .bool fl] 77
  mp : MP w mb Ms

theorem CI.next {w w' : World} {b0 : Nat} {H : AHeap} {bs : List Nat} {cb mb : Nat} {Ms Ms' : List (Int × Int)} {fl fl' : Bool} (h : CI w b0 H bs cb mb Ms fl) (hf : Fr [mb, cb] w w') (hk : Blk w' cb #[.pointer (some ⟨b0, 0, none⟩), .map (some mb), .bool fl'] 77) (hm : MP w' mb Ms') : CI w' b0 H bs cb mb Ms' fl' :=
  ⟨h.hs.fr hf (fun k hk' hm' => by
    rcases List.mem_cons.1 hm' with e | e
    · subst e; exact h.n.2.1 hk'
    · rw [List.mem_singleton] at e; subst e; exact h.n.1 hk'), h.n, hk, hm⟩

theorem CI.bw {w w' : World} {b0 : Nat} {H : AHeap} {bs : List Nat} {cb mb : Nat} {Ms : List (Int × Int)} {fl : Bool} (h : CI w b0 H bs cb mb Ms fl) (hb : Bw w w') : CI w' b0 H bs cb mb Ms fl :=
  h.next (hb.fr _) (h.k.bw hb) (h.mp.keep (hb.block mb h.mp.lt))

theorem frc {a b c : World} {bs : List Nat} (h : Fr bs a b) (k : Fr bs b c) : Fr bs a c := h.trans k (fun x hx => .inl hx)

theorem U_at {H : AHeap} {v i : Int} (hok : HOK H) (hU : U v) (hk : kk H v = 2 ∨ kk H v = 4) : U (aAtV H v i) := by
  have hm := (ob_mem (H := H) hU (by omega)).1
  unfold aAtV
  rw [if_neg (by omega), if_pos hk]
  split
  · rename_i hi
    have hl : i.toNat < (ob H v).vals.length := by omega
    rw [List.getD_eq_getElem?_getD, List.getElem?_eq_getElem hl]
    exact (hok _ hm).2.2.2.1 _ (List.getElem_mem hl)
  · exact ⟨by decide, by decide⟩

set_option maxRecDepth 100000 in
set_option maxHeartbeats 8000000 in
theorem alikeAt_any {b0 : Nat} {H : AHeap} {bs : List Nat} {cb mb : Nat} {Ms : List (Int × Int)} (a b i : Int) (ha : U a) (hb : U b) (w : World) (h : CI w b0 H bs cb mb Ms false) (r : DR)
    (hc : ∀ w1, CI w1 b0 H bs cb mb Ms false → Calls Tryz.prog 31 #[.pointer (some ⟨cb, 0, none⟩), .int .u64 (aAtV H a i), .int .u64 (aAtV H b i)] w1 fun e w2 => e = .returned (.bool r.1) ∧ CI w2 b0 H bs cb mb r.2.1 r.2.2 ∧ Fr [mb, cb] w1 w2) :
    Calls Tryz.prog 58 #[.pointer (some ⟨cb, 0, none⟩), .int .u64 a, .int .u64 b, .int .i64 i] w fun e w' => e = .returned (.bool r.1) ∧ CI w' b0 H bs cb mb r.2.1 r.2.2 ∧ Fr [mb, cb] w w' := by
  have HI := hid h
  have HA := hid ha
  have HB := hid hb
  have HC := hid hc
  have z0 : w.cell? ⟨cb, 0, none⟩ = some (.pointer (some ⟨b0, 0, none⟩)) := h.k.cell 0
  clear h ha hb hc
  go_enter Tryz.func58, Tryz.ntmps58
  go_wp2_with (first
    | (go_at_call_of 82 (Value.int .u64 a); refine (at_any a i HA.out _ HI.out.hs).mono ?_; rintro e w1 ⟨rfl, hl1⟩; have hi1 := HI.out.bw hl1.bw; have y0 : w1.cell? ⟨cb, 0, none⟩ = some (.pointer (some ⟨b0, 0, none⟩)) := hi1.k.cell 0; have HI1 := hid hi1; have F1 := hid (hl1.bw.fr [mb, cb]); clear hl1 hi1)
    | (go_at_call_of 82 (Value.int .u64 b); refine (at_any b i HB.out _ HI1.out.hs).mono ?_; rintro e w2 ⟨rfl, hl2⟩; have HI2 := hid (HI1.out.bw hl2.bw); have F2 := hid (frc F1.out (hl2.bw.fr [mb, cb])); clear hl2)
    | (go_at_call 31; refine (HC.out _ HI2.out).mono ?_; rintro e w3 ⟨rfl, hi3, hf3⟩; have HI3 := hid hi3; have F3 := hid (frc F2.out hf3); clear hi3 hf3)
    | fail)
  all_goals go_ret
  all_goals exact ⟨rfl, HI3.out, F3.out⟩

end Go.Proofs.YtlhgdknmgdohkaaGreatDoor

