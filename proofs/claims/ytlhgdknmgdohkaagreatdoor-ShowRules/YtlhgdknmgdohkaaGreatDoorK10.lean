/- Whether two words are alike, part by part: plain data; the program's steps from entry to entry. · Whether two arrays are alike: the program's loop over their entries. · Whether two words are alike: the program's alike, Deep. -/
import Derived.Test.YtlhgdknmgdohkaaGreatDoorTEk
import Derived.Test.YtlhgdknmgdohkaaGreatDoorTGk
import Derived.Deep.Light
import Derived.Deep.RegionLaw
import Derived.Laws.EntriesVeiled
set_option linter.unusedSimpArgs false
set_option linter.unusedVariables false
namespace Go.Proofs.YtlhgdknmgdohkaaGreatDoor
open Go Go.RowKit

/-- Alike? The pairs that were met; were there too many? -/
abbrev DR := Bool × List (Int × Int) × Bool

/-- One pair behind the other, up to the first that is not alike. -/
def dpL (g : List (Int × Int) → Int → Int → DR) : List (Int × Int) → List (Int × Int) → DR
  | [], Ms => (true, Ms, false)
  | p :: r, Ms => if (g Ms p.1 p.2).1 = true then dpL g r (g Ms p.1 p.2).2.1 else g Ms p.1 p.2

/-- Have two records the same keys (each stands once)? -/
def sameK (k l : List ByteArray) : Bool := decide (k.length = l.length) && k.all (fun s => decide (0 ≤ aKey l s))

/-- What two objects with parts are compared by; none: they differ at first sight. -/
def kids (H : AHeap) (a b : Int) : Option (List (Int × Int)) :=
  if kk H a = 2 then (if (ob H a).vals.length = (ob H b).vals.length then some ((ob H a).vals.zip (ob H b).vals) else none)
  else if kk H a = 3 then (if sameK (ob H a).keys (ob H b).keys = true then some ((ob H a).keys.map fun s => (aFieldV H a s, aFieldV H b s)) else none)
  else some [(aAtV H a 0, aAtV H b 0)]

/-- Are two words alike? (The fuel: more than 65536 less the pairs met is enough.) -/
def dp (H : AHeap) : Nat → List (Int × Int) → Int → Int → DR
  | 0, Ms, _, _ => (false, Ms, false)
  | f + 1, Ms, a, b =>
    if eqW H a b = true then (true, Ms, false)
    else if (kk H a != kk H b || !(kk H a == 2 || kk H a == 3 || kk H a == 4)) = true then (false, Ms, false)
    else if (a, b) ∈ Ms then (true, Ms, false)
    else if 65536 ≤ Ms.length then (false, Ms, true)
    else match kids H a b with
      | none => (false, Ms ++ [(a, b)], false)
      | some ps => dpL (dp H f) ps (Ms ++ [(a, b)])

theorem dpL_len {g : List (Int × Int) → Int → Int → DR} (hg : ∀ Ms a b, Ms.length ≤ (g Ms a b).2.1.length) : ∀ (ps Ms : List (Int × Int)), Ms.length ≤ (dpL g ps Ms).2.1.length
  | [], Ms => Nat.le_refl _
  | p :: r, Ms => by
    unfold dpL
    split
    · exact Nat.le_trans (hg Ms p.1 p.2) (dpL_len hg r _)
    · exact hg Ms p.1 p.2

theorem dp_len (H : AHeap) : ∀ (f : Nat) (Ms : List (Int × Int)) (a b : Int), Ms.length ≤ (dp H f Ms a b).2.1.length
  | 0, Ms, a, b => Nat.le_refl _
  | f + 1, Ms, a, b => by
    unfold dp
    repeat' split
    all_goals first | exact Nat.le_refl _ | (simp; done) | exact Nat.le_trans (by simp) (dpL_len (dp_len H f) _ _)

theorem dpL_many {g : List (Int × Int) → Int → Int → DR} (hg : ∀ Ms a b, (g Ms a b).1 = true → (g Ms a b).2.2 = false) : ∀ (ps Ms : List (Int × Int)), (dpL g ps Ms).1 = true → (dpL g ps Ms).2.2 = false
  | [], Ms, _ => rfl
  | p :: r, Ms, h => by
    unfold dpL at h ⊢
    split
    · rename_i hc
      rw [if_pos hc] at h
      exact dpL_many hg r _ h
    · rename_i hc
      rw [if_neg hc] at h
      exact absurd h hc

theorem dp_many (H : AHeap) : ∀ (f : Nat) (Ms : List (Int × Int)) (a b : Int), (dp H f Ms a b).1 = true → (dp H f Ms a b).2.2 = false
  | 0, Ms, a, b, h => rfl
  | f + 1, Ms, a, b, h => by
    unfold dp at h ⊢
    by_cases c1 : eqW H a b = true
    · rw [if_pos c1]
    · rw [if_neg c1] at h ⊢
      by_cases c2 : (kk H a != kk H b || !(kk H a == 2 || kk H a == 3 || kk H a == 4)) = true
      · rw [if_pos c2]
      · rw [if_neg c2] at h ⊢
        by_cases c3 : (a, b) ∈ Ms
        · rw [if_pos c3]
        · rw [if_neg c3] at h ⊢
          by_cases c4 : 65536 ≤ Ms.length
          · rw [if_pos c4] at h; cases h
          · rw [if_neg c4] at h ⊢
            cases hk : kids H a b with
            | none => rfl
            | some ps =>
              rw [hk] at h
              exact dpL_many (dp_many H f) _ _ h

/-- While two words are compared: the heap, the comparison at cb, its map at mb. -/
structure CI (w : World) (b0 : Nat) (H : AHeap) (bs : List Nat) (cb mb : Nat) (Ms : List (Int × Int)) (fl : Bool) : Prop where
  hs : HS w b0 H bs
  n : cb ∉ bs ∧ mb ∉ bs ∧ cb ≠ mb
  k : Blk w cb #[.pointer (some ⟨b0, 0, none⟩), .map (some mb), .bool fl] 77
  mp : MP w mb Ms

theorem CI.next {w w' : World} {b0 : Nat} {H : AHeap} {bs : List Nat} {cb mb : Nat} {Ms Ms' : List (Int × Int)} {fl fl' : Bool} (h : CI w b0 H bs cb mb Ms fl) (hf : Fr [mb, cb] w w') (hk : Blk w' cb #[.pointer (some ⟨b0, 0, none⟩), .map (some mb), .bool fl'] 77) (hm : MP w' mb Ms') : CI w' b0 H bs cb mb Ms' fl' :=
  ⟨h.hs.fr hf (fun k hk' hm' => by
    rcases List.mem_cons.1 hm' with e | e
    · subst e; exact h.n.2.1 hk'
    · rw [List.mem_singleton] at e; subst e; exact h.n.1 hk'), h.n, hk, hm⟩

theorem CI.bw {w w' : World} {b0 : Nat} {H : AHeap} {bs : List Nat} {cb mb : Nat} {Ms : List (Int × Int)} {fl : Bool} (h : CI w b0 H bs cb mb Ms fl) (hb : Bw w w') : CI w' b0 H bs cb mb Ms fl :=
  h.next (hb.fr _) (h.k.bw hb) (h.mp.keep (hb.block mb h.mp.lt))

theorem frc {a b c : World} {bs : List Nat} (h : Fr bs a b) (k : Fr bs b c) : Fr bs a c := h.trans k (fun x hx => .inl hx)

theorem U_at {H : AHeap} {v i : Int} (hok : HOK H) (hU : U v) (hk : kk H v = 2 ∨ kk H v = 4) : U (aAtV H v i) := by
  have hm := (ob_mem (H := H) hU (by omega)).1
  unfold aAtV
  rw [if_neg (by omega), if_pos hk]
  split
  · rename_i hi
    have hl : i.toNat < (ob H v).vals.length := by omega
    rw [List.getD_eq_getElem?_getD, List.getElem?_eq_getElem hl]
    exact (hok _ hm).2.2.2.1 _ (List.getElem_mem hl)
  · exact ⟨by decide, by decide⟩

set_option maxRecDepth 100000 in
set_option maxHeartbeats 8000000 in
theorem alikeAt_any {b0 : Nat} {H : AHeap} {bs : List Nat} {cb mb : Nat} {Ms : List (Int × Int)} (a b i : Int) (ha : U a) (hb : U b) (w : World) (h : CI w b0 H bs cb mb Ms false) (r : DR)
    (hc : ∀ w1, CI w1 b0 H bs cb mb Ms false → Calls Tryz.prog 31 #[.pointer (some ⟨cb, 0, none⟩), .int .u64 (aAtV H a i), .int .u64 (aAtV H b i)] w1 fun e w2 => e = .returned (.bool r.1) ∧ CI w2 b0 H bs cb mb r.2.1 r.2.2 ∧ Fr [mb, cb] w1 w2) :
    Calls Tryz.prog 58 #[.pointer (some ⟨cb, 0, none⟩), .int .u64 a, .int .u64 b, .int .i64 i] w fun e w' => e = .returned (.bool r.1) ∧ CI w' b0 H bs cb mb r.2.1 r.2.2 ∧ Fr [mb, cb] w w' := by
  have HI := hid h
  have HA := hid ha
  have HB := hid hb
  have HC := hid hc
  have z0 : w.cell? ⟨cb, 0, none⟩ = some (.pointer (some ⟨b0, 0, none⟩)) := h.k.cell 0
  clear h ha hb hc
  go_enter Tryz.func58, Tryz.ntmps58
  go_wp2_with (first
    | (go_at_call_of 82 (Value.int .u64 a); refine (at_any a i HA.out _ HI.out.hs).mono ?_; rintro e w1 ⟨rfl, hl1⟩; have hi1 := HI.out.bw hl1.bw; have y0 : w1.cell? ⟨cb, 0, none⟩ = some (.pointer (some ⟨b0, 0, none⟩)) := hi1.k.cell 0; have HI1 := hid hi1; have F1 := hid (hl1.bw.fr [mb, cb]); clear hl1 hi1)
    | (go_at_call_of 82 (Value.int .u64 b); refine (at_any b i HB.out _ HI1.out.hs).mono ?_; rintro e w2 ⟨rfl, hl2⟩; have HI2 := hid (HI1.out.bw hl2.bw); have F2 := hid (frc F1.out (hl2.bw.fr [mb, cb])); clear hl2)
    | (go_at_call 31; refine (HC.out _ HI2.out).mono ?_; rintro e w3 ⟨rfl, hi3, hf3⟩; have HI3 := hid hi3; have F3 := hid (frc F2.out hf3); clear hi3 hf3)
    | fail)
  all_goals go_ret
  all_goals exact ⟨rfl, HI3.out, F3.out⟩

end Go.Proofs.YtlhgdknmgdohkaaGreatDoor

set_option linter.unusedSimpArgs false
set_option linter.unusedVariables false
namespace Go.Proofs.YtlhgdknmgdohkaaGreatDoor
open Go Go.RowKit

/-- What is known of alike, for so much fuel. -/
def Alk (b0 : Nat) (H : AHeap) (bs : List Nat) (cb mb f : Nat) : Prop :=
  ∀ (Ms : List (Int × Int)) (a b : Int) (w : World), U a → U b → 65536 - Ms.length < f → CI w b0 H bs cb mb Ms false →
    Calls Tryz.prog 31 #[.pointer (some ⟨cb, 0, none⟩), .int .u64 a, .int .u64 b] w fun e w' => e = .returned (.bool (dp H f Ms a b).1) ∧ CI w' b0 H bs cb mb (dp H f Ms a b).2.1 (dp H f Ms a b).2.2 ∧ Fr [mb, cb] w w'

set_option maxRecDepth 100000 in
set_option maxHeartbeats 8000000 in
theorem alikeEntries_any {b0 : Nat} {H : AHeap} {bs : List Nat} {cb mb f : Nat} (hA : Alk b0 H bs cb mb f) {Ms : List (Int × Int)} (a b : Int) (ha : U a) (hb : U b) (w : World) (h : CI w b0 H bs cb mb Ms false) (hf : 65536 - Ms.length < f) (ka : kk H a = 2) (kb : kk H b = 2) (r : DR)
    (hr : r = if (ob H a).vals.length = (ob H b).vals.length then dpL (dp H f) ((ob H a).vals.zip (ob H b).vals) Ms else (false, Ms, false)) :
    Calls Tryz.prog 56 #[.pointer (some ⟨cb, 0, none⟩), .int .u64 a, .int .u64 b] w fun e w' => e = .returned (.bool r.1) ∧ CI w' b0 H bs cb mb r.2.1 r.2.2 ∧ Fr [mb, cb] w w' := by
  have hok := h.hs.ok
  have hma := (ob_mem (H := H) ha (by omega)).1
  have hmb := (ob_mem (H := H) hb (by omega)).1
  have hla : (ob H a).vals.length ≤ 1000000 := (hok _ hma).2.2.2.2.2.2.1
  have HI := hid h
  have HA := hid ha
  have HB := hid hb
  have KA := hid ka
  have KB := hid kb
  have HOKK := hid hok
  have HALK := hid hA
  have HFU := hid hf
  have HAT : Hid (∀ (k : Nat), k < (ob H a).vals.length → k < (ob H b).vals.length → ∃ x y, (ob H a).vals[k]? = some x ∧ (ob H b).vals[k]? = some y ∧ aAtV H a k = x ∧ aAtV H b k = y) := by
    intro k h1 h2
    refine ⟨(ob H a).vals[k], (ob H b).vals[k], List.getElem?_eq_getElem h1, List.getElem?_eq_getElem h2, ?_, ?_⟩
    · unfold aAtV; rw [if_neg (by omega), if_pos (.inl ka), if_pos ⟨by omega, by omega⟩]; simp [h1]
    · unfold aAtV; rw [if_neg (by omega), if_pos (.inl kb), if_pos ⟨by omega, by omega⟩]; simp [h2]
  have HUA := hid (fun i : Int => U_at (H := H) (v := a) (i := i) hok ha (.inl ka))
  have HUB := hid (fun i : Int => U_at (H := H) (v := b) (i := i) hok hb (.inl kb))
  have HLa := hid (fun w h => len_list (b0 := b0) (H := H) (bs := bs) a ha w h (.inl ka))
  have HLb := hid (fun w h => len_list (b0 := b0) (H := H) (bs := bs) b hb w h (.inl kb))
  have z0 : w.cell? ⟨cb, 0, none⟩ = some (.pointer (some ⟨b0, 0, none⟩)) := h.k.cell 0
  clear h ha hb ka kb hA hf hok hma hmb
  generalize (ob H a).vals = x at hr hla HAT HLa
  generalize (ob H b).vals = y at hr HAT HLb
  by_cases hl : x.length = y.length
  · have hne : ((y.length : Int) != (x.length : Int)) = false := by rw [bne_eq_false_iff_eq]; omega
    rw [if_pos hl] at hr
    have HR := hid hr
    have HLE := hid hl
    clear hr hl
    go_enter Tryz.func56, Tryz.ntmps56
    go_wp2_with (first
      | (go_at_call_of 62 (Value.int .u64 a); refine (HLa.out _ HI.out.hs).mono ?_; rintro e w1 ⟨rfl, hl1⟩; have hi1 := HI.out.bw hl1.bw; have y0 : w1.cell? ⟨cb, 0, none⟩ = some (.pointer (some ⟨b0, 0, none⟩)) := hi1.k.cell 0; have HI1 := hid hi1; have F1 := hid (hl1.bw.fr [mb, cb]); clear hl1 hi1)
      | (go_at_call_of 62 (Value.int .u64 b); refine (HLb.out _ HI1.out.hs).mono ?_; rintro e w2 ⟨rfl, hl2⟩; have HI2 := hid (HI1.out.bw hl2.bw); have F2 := hid (frc F1.out (hl2.bw.fr [mb, cb])); clear hl2)
      | fail)
    go_loopw [34] (fun j wr => ∃ (k : Nat) (Mk : List (Int × Int)), k ≤ x.length ∧ j = .int .i64 k ∧ Ms.length ≤ Mk.length ∧ r = dpL (dp H f) ((x.zip y).drop k) Mk ∧ CI wr b0 H bs cb mb Mk false ∧ Fr [mb, cb] w wr) (fun j _ => x.length - (intOf j).toNat)
    case atStart => exact ⟨0, Ms, Nat.zero_le _, rfl, Nat.le_refl _, by simpa using HR.out, HI2.out, F2.out⟩
    case round =>
      clear HR HI1 HI2 F1 F2
      obtain ⟨k, Mk, hk, rfl, hMl, hrk, hci, hfr⟩ := hrel
      have HCI := hid hci
      have HFR := hid hfr
      have HRK := hid hrk
      have HML := hid hMl
      clear hci hfr hrk hMl
      by_cases hlt : k < x.length
      · have hb1 : (0 : Int) ≤ (k : Int) := by omega
        have hb2 : (k : Int) < (x.length : Int) := by omega
        have hlt2 : k < y.length := by have := HLE.out; omega
        obtain ⟨p, q, hp, hq, ep, eq⟩ := HAT.out k hlt hlt2
        have hzk : k < (x.zip y).length := by rw [List.length_zip]; omega
        have hz : (x.zip y).drop k = (p, q) :: (x.zip y).drop (k + 1) := by
          rw [List.drop_eq_getElem_cons hzk]
          congr 1
          rw [List.getElem_zip]
          have e1 := (List.getElem?_eq_some_iff.1 hp).2
          have e2 := (List.getElem?_eq_some_iff.1 hq).2
          rw [e1, e2]
        have HSTEP : Hid (r = if (dp H f Mk p q).1 = true then dpL (dp H f) ((x.zip y).drop (k + 1)) (dp H f Mk p q).2.1 else dp H f Mk p q) := by
          have := HRK.out
          rw [hz, dpL] at this
          exact this
        have HMN := hid (dp_many H f Mk p q)
        have HLN := hid (dp_len H f Mk p q)
        have HCALL : Hid (∀ w1, CI w1 b0 H bs cb mb Mk false → Calls Tryz.prog 31 #[.pointer (some ⟨cb, 0, none⟩), .int .u64 (aAtV H a k), .int .u64 (aAtV H b k)] w1 fun e w2 => e = .returned (.bool (dp H f Mk p q).1) ∧ CI w2 b0 H bs cb mb (dp H f Mk p q).2.1 (dp H f Mk p q).2.2 ∧ Fr [mb, cb] w1 w2) := by
          intro w1 h1
          rw [ep, eq]
          exact HALK.out Mk p q w1 (ep ▸ HUA.out k) (eq ▸ HUB.out k) (by have := HFU.out; have := HML.out; omega) h1
        clear hz hp hq ep eq hzk
        obtain ⟨t, ht⟩ : ∃ t, t = dp H f Mk p q := ⟨_, rfl⟩
        rw [← ht] at HSTEP HMN HLN HCALL
        clear ht
        cases hb3 : t.1
        · have HE : Hid (r = t) := by have := HSTEP.out; rw [hb3, if_neg (by simp)] at this; exact this
          clear HSTEP
          go_wp2_with (first
            | (go_at_call 58; refine (alikeAt_any a b k HA.out HB.out _ HCI.out t HCALL.out).mono ?_; rw [hb3]; rintro e w3 ⟨rfl, hi3, hf3⟩; have HI3 := hid hi3; have F3 := hid (frc HFR.out hf3); clear hi3 hf3)
            | fail)
          all_goals go_ret
          all_goals exact ⟨ret_bool (by rw [HE.out, hb3]), by rw [HE.out]; exact HI3.out, F3.out⟩
        · have HE : Hid (r = dpL (dp H f) ((x.zip y).drop (k + 1)) t.2.1) := by have := HSTEP.out; rw [hb3, if_pos rfl] at this; exact this
          have HM2 := hid (HMN.out hb3)
          clear HSTEP
          go_wp2_with (first
            | (go_at_call 58; refine (alikeAt_any a b k HA.out HB.out _ HCI.out t HCALL.out).mono ?_; rw [hb3]; rintro e w3 ⟨rfl, hi3, hf3⟩; have HI3 := hid hi3; have F3 := hid (frc HFR.out hf3); clear hi3 hf3)
            | fail)
          go_roundw
          case rel => exact ⟨k + 1, t.2.1, by omega, by go_num, Nat.le_trans HML.out HLN.out, HE.out, by have := HI3.out; rw [HM2.out] at this; exact this, F3.out⟩
          case measure => simp [intOf]; omega
      · have hk0 : k = x.length := by omega
        have HE : Hid (r = (true, Mk, false)) := by
          have := HRK.out
          rw [List.drop_eq_nil_of_le (by rw [List.length_zip]; omega), dpL] at this
          exact this
        go_wp2
        all_goals go_ret
        all_goals exact ⟨ret_bool (by rw [HE.out]), by rw [HE.out]; exact HCI.out, HFR.out⟩
  · have hne : ((y.length : Int) != (x.length : Int)) = true := by rw [bne_iff_ne]; omega
    rw [if_neg hl] at hr
    have HR := hid hr
    clear hr hl
    go_enter Tryz.func56, Tryz.ntmps56
    go_wp2_with (first
      | (go_at_call_of 62 (Value.int .u64 a); refine (HLa.out _ HI.out.hs).mono ?_; rintro e w1 ⟨rfl, hl1⟩; have hi1 := HI.out.bw hl1.bw; have y0 : w1.cell? ⟨cb, 0, none⟩ = some (.pointer (some ⟨b0, 0, none⟩)) := hi1.k.cell 0; have HI1 := hid hi1; have F1 := hid (hl1.bw.fr [mb, cb]); clear hl1 hi1)
      | (go_at_call_of 62 (Value.int .u64 b); refine (HLb.out _ HI1.out.hs).mono ?_; rintro e w2 ⟨rfl, hl2⟩; have HI2 := hid (HI1.out.bw hl2.bw); have F2 := hid (frc F1.out (hl2.bw.fr [mb, cb])); clear hl2)
      | fail)
    all_goals go_ret
    all_goals exact ⟨ret_bool (by rw [HR.out]), by rw [HR.out]; exact HI2.out, F2.out⟩

end Go.Proofs.YtlhgdknmgdohkaaGreatDoor

set_option linter.unusedSimpArgs false
set_option linter.unusedVariables false
namespace Go.Proofs.YtlhgdknmgdohkaaGreatDoor
open Go Go.RowKit

/-- len of a map, as one step of a region that draws. -/
theorem step_len_own {P : Program} {ops : Array Oper} {o : Oper} {a : Act} {w : World} {K : Act → World → Prop} {Q : Exit → Act → World → Prop} {E : Prop}
    (hg : o.guard = none) (m : Operand) (t : TypeId) (hop : o.op = Op.call { callee := Callee.builtin Builtin.len, args := #[m], argTypes := #[t] })
    (k e : TypeId) (ht : P.underlying t = some (.map k e)) (R : Value → Option (DataW Unit × List MemPlace)) (b n : Nat) (D : DataW Unit) (hm : a.eval m = .map (some b)) (hown : w.ownsMap P k R b n D)
    (hK : K (a.put o.dst (.int .i64 (Maps.size D))) w) :
    if Region.wanted o (yielded ops a.tmps) = true then Oper.wp P o a w K Q else E := by
  have hw : Region.wanted o (yielded ops a.tmps) = true := by simp [Region.wanted, hg]
  rw [if_pos hw]
  unfold Oper.wp
  simp [execOp, hop, resolve, invoke, builtin, hm, hown.len ht o.type, Result.andThen]
  exact hK

theorem MP.own {w : World} {b : Nat} {Ms : List (Int × Int)} (h : MP w b Ms) : ∃ D, w.ownsMap Tryz.prog 117 (plainElem (H := Unit) Tryz.prog 3) b Ms.length D ∧ RowP D Ms := h

/-- A pair that was met, or was not: what the map says. -/
theorem MP.look {w : World} {b : Nat} {Ms : List (Int × Int)} (h : MP w b Ms) (x y : Int) (hx : U x) (hy : U y) :
    ∃ c : Int, (Instr.lookup 75 (.map (some b)) (.agg #[.int .u64 x, .int .u64 y]) true).run Tryz.prog w = .ok (.tuple #[.int .i64 c, .bool (decide ((x, y) ∈ Ms))]) w := by
  obtain ⟨D, ho, hr⟩ := h
  obtain ⟨l, hl⟩ := keyP (x, y) hx hy
  obtain ⟨v, ps, hrun, hv⟩ := ho.look_ok lawP underMm (zeroKI w) (plainElem_int underKI (by decide)) hl
  obtain ⟨c, rfl, _, _⟩ := plainElem_int_inv underKI hv
  rw [hr.has (x, y) l hl] at hrun
  exact ⟨c, hrun⟩

/-- A pair that is new is written down. -/
theorem MP.store {w : World} {b : Nat} {Ms : List (Int × Int)} (h : MP w b Ms) (x y n : Int) (hx : U x) (hy : U y) (hn : (Lit.int .i64 n).wf = true) (hlen : Ms.length ≤ 70000) (hnew : (x, y) ∉ Ms) :
    ∃ w', (Instr.mapUpdate 75 (.map (some b)) (.agg #[.int .u64 x, .int .u64 y]) (.int .i64 n)).run Tryz.prog w = .ok () w' ∧ MP w' b (Ms ++ [(x, y)]) ∧ w.mapTurned w' b := by
  obtain ⟨D, ho, hr⟩ := h
  obtain ⟨l, hl⟩ := keyP (x, y) hx hy
  obtain ⟨w', hrun, ho', ht⟩ := ho.store lawP underMm (by unfold maxLen; omega) hl (plainElem_int underKI hn)
  exact ⟨w', hrun, ⟨_, by simpa using ho', hr.snoc hl hnew _⟩, ht⟩

theorem CI.turned {w w' : World} {b0 : Nat} {H : AHeap} {bs : List Nat} {cb mb : Nat} {Ms Ms' : List (Int × Int)} {fl : Bool} (h : CI w b0 H bs cb mb Ms fl) (ht : w.mapTurned w' mb) (hm : MP w' mb Ms') : CI w' b0 H bs cb mb Ms' fl ∧ Fr [mb, cb] w w' := by
  have hg := ht.grown
  have hf : Fr [mb, cb] w w' := ⟨hg.os, hg.tape, hg.output, hg.size, fun b h1 h2 => hg.block b h1 (fun e => h2 (by rw [Option.some.inj e]; simp))⟩
  exact ⟨h.next hf (h.k.keep (hg.block cb h.k.lt (fun e => h.n.2.2 (Option.some.inj e)))) hm, hf⟩

theorem CI.flag {w : World} {b0 : Nat} {H : AHeap} {bs : List Nat} {cb mb : Nat} {Ms : List (Int × Int)} {fl : Bool} (h : CI w b0 H bs cb mb Ms fl) (t : Bool) : CI (w.setCell ⟨cb, 2, none⟩ (.bool t)) b0 H bs cb mb Ms t ∧ Fr [mb, cb] w (w.setCell ⟨cb, 2, none⟩ (.bool t)) := by
  have hg := grown_set w cb 2 (.bool t)
  have hf : Fr [mb, cb] w (w.setCell ⟨cb, 2, none⟩ (.bool t)) := ⟨hg.os, hg.tape, hg.output, hg.size, fun b h1 h2 => hg.block b h1 (fun e => h2 (by rw [Option.some.inj e]; simp))⟩
  exact ⟨h.next hf (h.k.set 2 _) (h.mp.keep (hg.block mb h.mp.lt (fun e => h.n.2.2 (Option.some.inj e).symm))), hf⟩

set_option maxRecDepth 100000 in
set_option maxHeartbeats 8000000 in
theorem alike_early {b0 : Nat} {H : AHeap} {bs : List Nat} {cb mb : Nat} {Ms : List (Int × Int)} (a b : Int) (ha : U a) (hb : U b) (w : World) (h : CI w b0 H bs cb mb Ms false) (r : Bool)
    (hr : (eqW H a b = true ∧ r = true) ∨ (eqW H a b = false ∧ (kk H a != kk H b || !(kk H a == 2 || kk H a == 3 || kk H a == 4)) = true ∧ r = false)) :
    Calls Tryz.prog 31 #[.pointer (some ⟨cb, 0, none⟩), .int .u64 a, .int .u64 b] w fun e w' => e = .returned (.bool r) ∧ CI w' b0 H bs cb mb Ms false ∧ Fr [mb, cb] w w' := by
  have HI := hid h
  have HA := hid ha
  have HB := hid hb
  have HEQ := hid (equal_any a b ha hb w h.hs)
  have z0 : w.cell? ⟨cb, 0, none⟩ = some (.pointer (some ⟨b0, 0, none⟩)) := h.k.cell 0
  clear h ha hb
  rcases hr with ⟨h1, rfl⟩ | ⟨h1, h2, rfl⟩
  · rw [h1] at HEQ
    go_enter Tryz.func31, Tryz.ntmps31
    go_wp2_with (first
      | (go_at_call 12; refine HEQ.out.mono ?_; rintro e w1 ⟨rfl, hb1⟩; have HI1 := hid (HI.out.bw hb1); have F1 := hid (hb1.fr [mb, cb]); clear hb1)
      | fail)
    all_goals go_ret
    all_goals exact ⟨rfl, HI1.out, F1.out⟩
  · rw [h1] at HEQ
    have hcs : ((kk H a != kk H b) = true) ∨ ((kk H a != kk H b) = false ∧ (kk H a == 2 || kk H a == 3 || kk H a == 4) = false) := by
      cases c : (kk H a != kk H b)
      · rw [c] at h2
        exact .inr ⟨rfl, by simpa using h2⟩
      · exact .inl rfl
    rcases hcs with c1 | ⟨c1, c2⟩
    all_goals
      go_enter Tryz.func31, Tryz.ntmps31
      go_wp2_with (first
        | (go_at_call 12; refine HEQ.out.mono ?_; rintro e w1 ⟨rfl, hb1⟩; have hi1 := HI.out.bw hb1; have y0 : w1.cell? ⟨cb, 0, none⟩ = some (.pointer (some ⟨b0, 0, none⟩)) := hi1.k.cell 0; have HI1 := hid hi1; have F1 := hid (hb1.fr [mb, cb]); clear hb1 hi1)
        | (go_at_call_of 33 (Value.int .u64 a); refine (kind_hs4 _ HA.out _ HI1.out.hs).mono ?_; rintro e w' ⟨rfl, hw'⟩; subst w')
        | (go_at_call_of 33 (Value.int .u64 b); refine (kind_hs4 _ HB.out _ HI1.out.hs).mono ?_; rintro e w' ⟨rfl, hw'⟩; subst w')
        | (go_at_call 55; refine (hasParts_any _ _).mono ?_; rintro e w' ⟨rfl, hw'⟩; subst w'; rw [c2])
        | fail)
      all_goals go_ret
      all_goals exact ⟨rfl, HI1.out, F1.out⟩

end Go.Proofs.YtlhgdknmgdohkaaGreatDoor

