/- Whether two records have the same keys: the program's sameKeys. · Whether two records are alike: the program's loop over their keys. · Whether two words are alike: the program's alike, for every fuel. · Whether two words are alike: the program's Deep. -/
import Derived.Test.YtlhgdknmgdohkaaGreatDoorTKk
import Derived.Test.YtlhgdknmgdohkaaGreatDoorKeys
import Derived.Sort.OwnSorted
import Derived.Sort.KeysCollected
import Derived.Laws.EntriesVeiled
set_option linter.unusedSimpArgs false
set_option linter.unusedVariables false
namespace Go.Proofs.YtlhgdknmgdohkaaGreatDoor
open Go Go.RowKit Go.Sort

/-- Strings as lists of bytes. -/
def kb (k : List ByteArray) : List (List UInt8) := k.map fun s => s.data.toList
/-- Lists of bytes as strings. -/
def bk (l : List (List UInt8)) : List ByteArray := l.map fun b => ⟨b.toArray⟩
/-- The keys in order. -/
def srt (k : List ByteArray) : List (List UInt8) := (kb k).mergeSort fun x y => decide (x ≤ y)

theorem srt_len (k : List ByteArray) : (srt k).length = k.length := by simp [srt, kb]
theorem kb_enc (k : List ByteArray) : (kb k).map encStr = k.map Value.string := by
  unfold kb
  rw [List.map_map]
  apply List.map_congr_left
  intro s _
  simp [encStr]
theorem bk_enc (l : List (List UInt8)) : (bk l).map Value.string = l.map encStr := by
  unfold bk
  rw [List.map_map]
  apply List.map_congr_left
  intro s _
  simp [encStr]
theorem bk_inj {l m : List (List UInt8)} (h : bk l = bk m) : l = m := by
  have := congrArg (fun z : List ByteArray => z.map fun s => s.data.toList) h
  simpa [bk, List.map_map, Function.comp_def] using this
theorem kb_inj {k l : ByteArray} (h : k.data.toList = l.data.toList) : k = l := by
  cases k; cases l
  simp only [ByteArray.mk.injEq]
  exact Array.toList_inj.1 h

theorem clone_any {w : World} {base : Nat} {v : Value} {k : List ByteArray} (h : w.ownsRow base 9 1 v k.length (k.map Value.string)) (hl : k.length ≤ 1000000) :
    Calls Tryz.prog 94 #[v] w fun e w' => ∃ v', e = .returned v' ∧ w'.ownsRow w.heap.size 9 1 v' k.length (k.map Value.string) ∧ Bw w w' := by
  rcases h.2 with ⟨rfl, h0⟩ | ⟨g, cap, cur, rfl, hb, hg, hnc, hm, hsz, htake⟩
  · refine (shCloneNil 0 0 w).mono ?_
    rintro e w' ⟨he, hw⟩
    refine ⟨_, he, ?_, by rw [hw]; exact Bw.refl _⟩
    have hk : k = [] := List.eq_nil_of_length_eq_zero h0
    subst hk
    exact ⟨rfl, .inl ⟨rfl, rfl⟩⟩
  · have hsl := own_sl (G := fun _ => True) h (fun _ _ => trivial)
    refine (shClone g 0 k.length cap k w (Nat.le_refl _) (by omega) (fun j hj => ?_)).mono ?_
    · obtain ⟨b, o, e, _, hc⟩ := hsl.at hj
      cases e
      rw [hc]
      simp [hj]
    · rintro e w' ⟨v', he, ho, _, hbw⟩
      exact ⟨v', he, by simpa using ho, hbw⟩

theorem sort_any {w : World} {base : Nat} {v : Value} {k : List ByteArray} (h : w.ownsRow base 9 1 v k.length (k.map Value.string)) (hl : k.length ≤ 1000000) :
    Calls Tryz.prog 95 #[v] w fun e w' => (∃ x, e = .returned x) ∧ w'.ownsRow base 9 1 v k.length ((srt k).map encStr) ∧ w.grownBy w' v.ownBlock := by
  rcases h.2 with ⟨rfl, h0⟩ | ⟨g, cap, cur, rfl, hb, hg, hnc, hm, hsz, htake⟩
  · have hk : k = [] := List.eq_nil_of_length_eq_zero h0
    subst hk
    refine (shSort0 none 0 w).mono ?_
    rintro e w' ⟨he, hw⟩
    rw [hw]
    exact ⟨⟨_, he⟩, by simpa [srt, kb] using h, grown_refl w _⟩
  · have hkl : (kb k).length = k.length := by simp [kb]
    have hH : Holds encStr w g 0 (kb k).toArray := holds_of_block hg (by rw [kb_enc, hkl]; simpa using htake)
    have hc := shSort g 0 cap (kb k) w hH (Array.getElem?_eq_some_iff.1 hg).1 (by omega)
    rw [hkl] at hc
    refine hc.mono ?_
    rintro e w' ⟨he, n, os, hw⟩
    rw [hw]
    refine ⟨⟨_, he⟩, ?_, grownBy_sorted _⟩
    have := ownsRow_sorted (n := n) (os := os) (ss := kb k) (ts := srt k) (by simp [srt]) hb hg (by omega) hm hsz
    rw [hkl] at this
    exact this

theorem keq_any {w : World} {b1 b2 : Nat} {u v : Value} {l m : List (List UInt8)} (h1 : w.ownsRow b1 9 1 u l.length (l.map encStr)) (h2 : w.ownsRow b2 9 1 v m.length (m.map encStr)) (hl : l.length ≤ 1000000) (hm : m.length ≤ 1000000) :
    Calls Tryz.prog 96 #[u, v] w fun e w' => e = .returned (.bool (decide (l = m))) ∧ Bw w w' := by
  by_cases hlm : l.length = m.length
  · by_cases h0 : l.length = 0
    · obtain ⟨a1, c1, rfl⟩ := own_form h1
      obtain ⟨a2, c2, rfl⟩ := own_form h2
      have e1 : l = [] := List.eq_nil_of_length_eq_zero h0
      have e2 : m = [] := List.eq_nil_of_length_eq_zero (by omega)
      subst e1 e2
      refine (shEq0 a1 a2 c1 0 c2 w (by omega)).mono ?_
      rintro e w' ⟨he, hw⟩
      exact ⟨by rw [he]; rfl, by rw [hw]; exact Bw.refl _⟩
    · have s1 := own_sl (G := fun _ => True) h1 (fun _ _ => trivial)
      have s2 := own_sl (G := fun _ => True) h2 (fun _ _ => trivial)
      rcases h1.2 with ⟨_, hz⟩ | ⟨g1, cap1, cur1, rfl, _⟩
      · omega
      rcases h2.2 with ⟨_, hz⟩ | ⟨g2, cap2, cur2, rfl, _⟩
      · omega
      have k1 : (bk l).length = l.length := by simp [bk]
      have k2 : (bk m).length = m.length := by simp [bk]
      refine (shEq g1 0 l.length cap1 g2 0 m.length cap2 (bk l) (bk m) w (by omega) (by omega) (by omega) (by omega) (fun j hj => ?_) (fun j hj => ?_)).mono ?_
      · obtain ⟨b, o, e, _, hc⟩ := s1.at (show j < l.length by omega)
        cases e
        rw [hc, ← bk_enc]
        simp [hj]
      · obtain ⟨b, o, e, _, hc⟩ := s2.at (show j < m.length by omega)
        cases e
        rw [hc, ← bk_enc]
        simp [hj]
      · rintro e w' ⟨he, q, hw⟩
        refine ⟨?_, by rw [hw]; exact bw_drewN w q⟩
        rw [he, ← k1, ← k2, List.take_length, List.take_length]
        congr 2
        by_cases h : l = m
        · rw [h]; simp
        · rw [decide_eq_false h, decide_eq_false (fun k => h (bk_inj k))]
  · obtain ⟨a1, c1, rfl⟩ := own_form h1
    obtain ⟨a2, c2, rfl⟩ := own_form h2
    refine (shEqLens a1 a2 l.length c1 m.length c2 w hlm).mono ?_
    rintro e w' ⟨he, hw⟩
    exact ⟨by rw [he, decide_eq_false (fun h => hlm (by rw [h]))], by rw [hw]; exact Bw.refl _⟩

theorem perm_of_sub : ∀ (k l : List ByteArray), k.Nodup → (∀ s ∈ k, s ∈ l) → l.length ≤ k.length → k.Perm l
  | [], l, _, _, h => by
    have : l = [] := List.eq_nil_of_length_eq_zero (by simpa using h)
    rw [this]
  | s :: r, l, hn, hs, h => by
    obtain ⟨l1, l2, rfl⟩ := List.append_of_mem (hs s (List.mem_cons_self ..))
    rw [List.nodup_cons] at hn
    have hp := perm_of_sub r (l1 ++ l2) hn.2 (fun t ht => by
      have h1 := hs t (List.mem_cons_of_mem _ ht)
      rw [List.mem_append, List.mem_cons] at h1
      rw [List.mem_append]
      rcases h1 with h1 | h1 | h1
      · exact .inl h1
      · subst h1; exact absurd ht hn.1
      · exact .inr h1) (by simp at h ⊢; omega)
    exact (hp.cons s).trans List.perm_middle.symm

/-- Sorted alike: the same keys. -/
theorem srt_same {k l : List ByteArray} (hk : k.Nodup) (hl : l.Nodup) : decide (srt k = srt l) = sameK k l := by
  have inj : ∀ x y : ByteArray, x.data.toList = y.data.toList → x = y := fun x y h => kb_inj h
  by_cases h : srt k = srt l
  · rw [decide_eq_true h]
    have hp : (kb k).Perm (kb l) := (List.mergeSort_perm (kb k) _).symm.trans ((by show (srt k).Perm _; rw [h]; exact List.mergeSort_perm (kb l) _))
    symm
    unfold sameK
    rw [Bool.and_eq_true, decide_eq_true_iff, List.all_eq_true]
    refine ⟨by have := hp.length_eq; simpa [kb] using this, fun s hs => ?_⟩
    rw [decide_eq_true_iff, aKey_mem]
    have hm : s.data.toList ∈ kb l := hp.mem_iff.1 (List.mem_map.2 ⟨s, hs, rfl⟩)
    obtain ⟨t, ht, e⟩ := List.mem_map.1 hm
    rw [← inj _ _ e]
    exact ht
  · rw [decide_eq_false h]
    symm
    rw [← Bool.not_eq_true]
    intro hs
    apply h
    unfold sameK at hs
    rw [Bool.and_eq_true, decide_eq_true_iff, List.all_eq_true] at hs
    have hsub : k ⊆ l := fun s hm => aKey_mem.1 (of_decide_eq_true (hs.2 s hm))
    have hp : k.Perm l := perm_of_sub k l hk (fun s hm => hsub hm) (by omega)
    exact mergeSort_of_perm (hp.map _)

set_option maxRecDepth 100000 in
set_option maxHeartbeats 4000000 in
theorem sameKeys_any {w : World} {base1 base2 : Nat} {u v : Value} {k l : List ByteArray} (h1 : w.ownsRow base1 9 1 u k.length (k.map Value.string)) (h2 : w.ownsRow base2 9 1 v l.length (l.map Value.string)) (hk : k.length ≤ 1000000) (hl : l.length ≤ 1000000) (nk : k.Nodup) (nl : l.Nodup) :
    Calls Tryz.prog 80 #[u, v] w fun e w' => e = .returned (.bool (sameK k l)) ∧ Bw w w' := by
  rw [← srt_same nk nl]
  have H1 := hid h1
  have H2 := hid h2
  have HK := hid hk
  have HL := hid hl
  clear h1 h2 hk hl nk nl
  go_enter Tryz.func80, Tryz.ntmps80
  go_wp2_with (first
    | (go_at_call_of 94 u; refine (clone_any H1.out HK.out).mono ?_; rintro e w1 ⟨r1, rfl, ho1, hb1⟩; have O1 := hid ho1; have B1 := hid hb1; clear ho1 hb1)
    | (go_at_call_of 94 v; refine (clone_any (own_bw H2.out B1.out) HL.out).mono ?_; rintro e w2 ⟨r2, rfl, ho2, hb2⟩; have O2 := hid ho2; have P1 := hid (own_bw O1.out hb2); have B2 := hid hb2; clear ho2 hb2)
    | (go_at_call_of 95 r1; refine (sort_any P1.out HK.out).mono ?_; rintro e w3 ⟨⟨x3, rfl⟩, ho3, hg3⟩; have O3 := hid ho3; have G3 := hid hg3; have Q2 := hid (own_same O2.out (fun b hb => hg3.block b (own_lt O2.out hb) (fun e => by have h1 := (O2.out.lt b hb).1; have h2 := (O1.out.lt b e.symm).2; omega))); clear ho3 hg3)
    | (go_at_call_of 95 r2; refine (sort_any Q2.out HL.out).mono ?_; rintro e w4 ⟨⟨x4, rfl⟩, ho4, hg4⟩; have O4 := hid ho4; have G4 := hid hg4; have Q3 := hid (own_same O3.out (fun b hb => hg4.block b (own_lt O3.out hb) (fun e => by have h1 := (O2.out.lt b e.symm).1; have h2 := (O1.out.lt b hb).2; omega))); clear ho4 hg4)
    | (go_at_call 96; refine (keq_any (l := srt k) (m := srt l) (by rw [srt_len]; exact Q3.out) (by rw [srt_len]; exact O4.out) (by rw [srt_len]; exact HK.out) (by rw [srt_len]; exact HL.out)).mono ?_; rintro e w5 ⟨rfl, hb5⟩; have B5 := hid hb5; clear hb5)
    | fail)
  all_goals go_ret
  all_goals refine ⟨rfl, ?_⟩
  all_goals
    have b12 := Bw.trans B1.out B2.out
    have b3 : Bw w w3 := Below.grown b12 G3.out b12.size (fun b e => (O1.out.lt b e).1)
    have b4 : Bw w w4 := Below.grown b3 G4.out b3.size (fun b e => Nat.le_trans B1.out.size (O2.out.lt b e).1)
    exact Bw.trans b4 B5.out

end Go.Proofs.YtlhgdknmgdohkaaGreatDoor

set_option linter.unusedSimpArgs false
set_option linter.unusedVariables false
namespace Go.Proofs.YtlhgdknmgdohkaaGreatDoor
open Go Go.RowKit

theorem U_field {H : AHeap} {v : Int} {s : ByteArray} (hok : HOK H) (hU : U v) (hk : kk H v = 3) : U (aFieldV H v s) := by
  have hm := (ob_mem (H := H) hU (by omega)).1
  unfold aFieldV
  rw [if_pos hk]
  split
  · rw [List.getD_eq_getElem?_getD]
    cases h : (ob H v).vals[(aKey (ob H v).keys s).toNat]? with
    | none => exact ⟨by decide, by decide⟩
    | some x => exact (hok _ hm).2.2.2.1 _ (List.mem_of_getElem? h)
  · exact ⟨by decide, by decide⟩

set_option maxRecDepth 100000 in
set_option maxHeartbeats 8000000 in
theorem alikeFields_any {b0 : Nat} {H : AHeap} {bs : List Nat} {cb mb f : Nat} (hA : Alk b0 H bs cb mb f) {Ms : List (Int × Int)} (a b : Int) (ha : U a) (hb : U b) (w : World) (h : CI w b0 H bs cb mb Ms false) (hf : 65536 - Ms.length < f) (ka : kk H a = 3) (kb : kk H b = 3) (hnd : ∀ o ∈ H.2, o.keys.Nodup) (r : DR)
    (hr : r = if sameK (ob H a).keys (ob H b).keys = true then dpL (dp H f) ((ob H a).keys.map fun s => (aFieldV H a s, aFieldV H b s)) Ms else (false, Ms, false)) :
    Calls Tryz.prog 57 #[.pointer (some ⟨cb, 0, none⟩), .int .u64 a, .int .u64 b] w fun e w' => e = .returned (.bool r.1) ∧ CI w' b0 H bs cb mb r.2.1 r.2.2 ∧ Fr [mb, cb] w w' := by
  have hok := h.hs.ok
  have hma := (ob_mem (H := H) ha (by omega)).1
  have hmb := (ob_mem (H := H) hb (by omega)).1
  have hla : (ob H a).keys.length ≤ 1000000 := (hok _ hma).2.2.2.2.2.2.2
  have HLB := hid (show (ob H b).keys.length ≤ 1000000 from (hok _ hmb).2.2.2.2.2.2.2)
  have NA := hid (hnd _ hma)
  have NB := hid (hnd _ hmb)
  have HI := hid h
  have HA := hid ha
  have HB := hid hb
  have HALK := hid hA
  have HFU := hid hf
  have HUA := hid (fun s => U_field (H := H) (v := a) (s := s) hok ha ka)
  have HUB := hid (fun s => U_field (H := H) (v := b) (s := s) hok hb kb)
  have HKa := hid (fun w h => keys_yes (b0 := b0) (H := H) (bs := bs) a ha w h ka)
  have HKb := hid (fun w h => keys_yes (b0 := b0) (H := H) (bs := bs) b hb w h kb)
  have z0 : w.cell? ⟨cb, 0, none⟩ = some (.pointer (some ⟨b0, 0, none⟩)) := h.k.cell 0
  clear h ha hb ka kb hA hf hok hma hmb hnd
  generalize (ob H a).keys = x at hr hla HKa NA
  generalize (ob H b).keys = y at hr HLB HKb NB
  cases hs : sameK x y
  · rw [hs, if_neg (by simp)] at hr
    have HR := hid hr
    clear hr
    go_enter Tryz.func57, Tryz.ntmps57
    go_wp2_with (first
      | (go_at_call_of 79 (Value.int .u64 a); refine (HKa.out _ HI.out.hs).mono ?_; rintro e w1 ⟨r1, rfl, ho1, hb1⟩; have hi1 := HI.out.bw hb1; have y0 : w1.cell? ⟨cb, 0, none⟩ = some (.pointer (some ⟨b0, 0, none⟩)) := hi1.k.cell 0; have HI1 := hid hi1; have O1 := hid ho1; have F1 := hid (hb1.fr [mb, cb]); clear hb1 hi1 ho1)
      | (go_at_call_of 79 (Value.int .u64 b); refine (HKb.out _ HI1.out.hs).mono ?_; rintro e w2 ⟨r2, rfl, ho2, hb2⟩; have HI2 := hid (HI1.out.bw hb2); have O2 := hid ho2; have P1 := hid (own_bw O1.out hb2); have F2 := hid (frc F1.out (hb2.fr [mb, cb])); clear hb2 ho2)
      | (go_at_call 80; refine (sameKeys_any P1.out O2.out hla HLB.out NA.out NB.out).mono ?_; rw [hs]; rintro e w3 ⟨rfl, hb3⟩; have HI3 := hid (HI2.out.bw hb3); have F3 := hid (frc F2.out (hb3.fr [mb, cb])); clear hb3)
      | fail)
    all_goals go_ret
    all_goals exact ⟨ret_bool (by rw [HR.out]), by rw [HR.out]; exact HI3.out, F3.out⟩
  · rw [hs, if_pos rfl] at hr
    have HR := hid hr
    clear hr
    go_enter Tryz.func57, Tryz.ntmps57
    go_wp2_with (first
      | (go_at_call_of 79 (Value.int .u64 a); refine (HKa.out _ HI.out.hs).mono ?_; rintro e w1 ⟨r1, rfl, ho1, hb1⟩; have hi1 := HI.out.bw hb1; have y0 : w1.cell? ⟨cb, 0, none⟩ = some (.pointer (some ⟨b0, 0, none⟩)) := hi1.k.cell 0; have HI1 := hid hi1; have O1 := hid ho1; obtain ⟨a1, c1, e1⟩ := own_form ho1; subst e1; have F1 := hid (hb1.fr [mb, cb]); clear hb1 hi1 ho1)
      | (go_at_call_of 79 (Value.int .u64 b); refine (HKb.out _ HI1.out.hs).mono ?_; rintro e w2 ⟨r2, rfl, ho2, hb2⟩; have HI2 := hid (HI1.out.bw hb2); have O2 := hid ho2; have P1 := hid (own_bw O1.out hb2); have F2 := hid (frc F1.out (hb2.fr [mb, cb])); clear hb2 ho2)
      | (go_at_call 80; refine (sameKeys_any P1.out O2.out hla HLB.out NA.out NB.out).mono ?_; rw [hs]; rintro e w3 ⟨rfl, hb3⟩; have HI3 := hid (HI2.out.bw hb3); have P3 := hid (own_bw P1.out hb3); have F3 := hid (frc F2.out (hb3.fr [mb, cb])); clear hb3)
      | fail)
    have HNM : Hid (∀ g, Value.ownBlock (.slice a1 x.length c1) = some g → g ≠ mb ∧ g ≠ cb) := fun g hg => by
      have h1 := (O1.out.lt g hg).1
      have h2 := HI.out.k.lt
      have h3 := HI.out.mp.lt
      exact ⟨by omega, by omega⟩
    go_loopw [41] (fun j wr => ∃ (k : Nat) (Mk : List (Int × Int)), k ≤ x.length ∧ j = .int .i64 k ∧ Ms.length ≤ Mk.length ∧ r = dpL (dp H f) ((x.map fun s => (aFieldV H a s, aFieldV H b s)).drop k) Mk ∧ CI wr b0 H bs cb mb Mk false ∧ wr.ownsRow w.heap.size 9 1 (.slice a1 x.length c1) x.length (x.map Value.string) ∧ Fr [mb, cb] w wr) (fun j _ => x.length - (intOf j).toNat)
    case atStart => exact ⟨0, Ms, Nat.zero_le _, rfl, Nat.le_refl _, by simpa using HR.out, HI3.out, P3.out, F3.out⟩
    case round =>
      clear HR HI1 HI2 HI3 F1 F2 F3 O1 O2 P1 P3
      obtain ⟨k, Mk, hk, rfl, hMl, hrk, hci, how, hfr⟩ := hrel
      have HCI := hid hci
      have HFR := hid hfr
      have HRK := hid hrk
      have HML := hid hMl
      have HOW := hid how
      have u0 : wr.cell? ⟨cb, 0, none⟩ = some (.pointer (some ⟨b0, 0, none⟩)) := hci.k.cell 0
      clear hci hfr hrk hMl
      by_cases hlt : k < x.length
      · have hb1 : (0 : Int) ≤ (k : Int) := by omega
        have hb2 : (k : Int) < (x.length : Int) := by omega
        obtain ⟨g, o, rfl, hg, hcell⟩ := (own_sl (G := fun _ => True) how (fun _ _ => trivial)).at hlt
        have hc1 : wr.cell? ⟨g, o + k, none⟩ = some (.string x[k]) := by rw [hcell]; simp [hlt]
        have HSTEP0 : Hid (r = if (dp H f Mk (aFieldV H a x[k]) (aFieldV H b x[k])).1 = true then dpL (dp H f) ((x.map fun s => (aFieldV H a s, aFieldV H b s)).drop (k + 1)) (dp H f Mk (aFieldV H a x[k]) (aFieldV H b x[k])).2.1 else dp H f Mk (aFieldV H a x[k]) (aFieldV H b x[k])) := by
          have := HRK.out
          rw [List.drop_eq_getElem_cons (by simpa using hlt), dpL] at this
          show r = if (dp H f Mk (aFieldV H a x[k]) (aFieldV H b x[k])).1 = true then _ else _
          simpa using this
        clear how hcell
        generalize x[k] = s at hc1 HSTEP0
        have HMN := hid (dp_many H f Mk (aFieldV H a s) (aFieldV H b s))
        have HLN := hid (dp_len H f Mk (aFieldV H a s) (aFieldV H b s))
        have HCALL : Hid (∀ w1, CI w1 b0 H bs cb mb Mk false → Calls Tryz.prog 31 #[.pointer (some ⟨cb, 0, none⟩), .int .u64 (aFieldV H a s), .int .u64 (aFieldV H b s)] w1 fun e w2 => e = .returned (.bool (dp H f Mk (aFieldV H a s) (aFieldV H b s)).1) ∧ CI w2 b0 H bs cb mb (dp H f Mk (aFieldV H a s) (aFieldV H b s)).2.1 (dp H f Mk (aFieldV H a s) (aFieldV H b s)).2.2 ∧ Fr [mb, cb] w1 w2) := fun w1 h1 =>
          HALK.out Mk _ _ w1 (HUA.out s) (HUB.out s) (by have := HFU.out; have := HML.out; omega) h1
        obtain ⟨t, ht⟩ : ∃ t, t = dp H f Mk (aFieldV H a s) (aFieldV H b s) := ⟨_, rfl⟩
        rw [← ht] at HSTEP0 HMN HLN HCALL
        clear ht
        cases hb3 : t.1
        · have HE : Hid (r = t) := by have := HSTEP0.out; rw [hb3, if_neg (by simp)] at this; exact this
          rw [hb3] at HCALL
          clear HSTEP0
          go_wp2_with (first
            | (go_at_call_of 81 (Value.int .u64 a); refine (field_any a s HA.out _ HCI.out.hs).mono ?_; rintro e w3 ⟨rfl, hl3⟩; have hi3 := HCI.out.bw hl3.bw; have v0 : w3.cell? ⟨cb, 0, none⟩ = some (.pointer (some ⟨b0, 0, none⟩)) := hi3.k.cell 0; have HI3 := hid hi3; have F3 := hid (frc HFR.out (hl3.bw.fr [mb, cb])); clear hl3 hi3)
            | (go_at_call_of 81 (Value.int .u64 b); refine (field_any b s HB.out _ HI3.out.hs).mono ?_; rintro e w4 ⟨rfl, hl4⟩; have HI4 := hid (HI3.out.bw hl4.bw); have F4 := hid (frc F3.out (hl4.bw.fr [mb, cb])); clear hl4)
            | (go_at_call 31; refine (HCALL.out _ HI4.out).mono ?_; rintro e w5 ⟨rfl, hi5, hf5⟩; have HI5 := hid hi5; have F5 := hid (frc F4.out hf5); clear hi5 hf5)
            | fail)
          all_goals go_ret
          all_goals exact ⟨ret_bool (by rw [HE.out, hb3]), by rw [HE.out]; exact HI5.out, F5.out⟩
        · have HE : Hid (r = dpL (dp H f) ((x.map fun s => (aFieldV H a s, aFieldV H b s)).drop (k + 1)) t.2.1) := by have := HSTEP0.out; rw [hb3, if_pos rfl] at this; exact this
          have HM2 := hid (HMN.out hb3)
          rw [hb3] at HCALL
          clear HSTEP0
          go_wp2_with (first
            | (go_at_call_of 81 (Value.int .u64 a); refine (field_any a s HA.out _ HCI.out.hs).mono ?_; rintro e w3 ⟨rfl, hl3⟩; have hi3 := HCI.out.bw hl3.bw; have v0 : w3.cell? ⟨cb, 0, none⟩ = some (.pointer (some ⟨b0, 0, none⟩)) := hi3.k.cell 0; have HI3 := hid hi3; have O3 := hid (own_bw HOW.out hl3.bw); have F3 := hid (frc HFR.out (hl3.bw.fr [mb, cb])); clear hl3 hi3)
            | (go_at_call_of 81 (Value.int .u64 b); refine (field_any b s HB.out _ HI3.out.hs).mono ?_; rintro e w4 ⟨rfl, hl4⟩; have HI4 := hid (HI3.out.bw hl4.bw); have O4 := hid (own_bw O3.out hl4.bw); have F4 := hid (frc F3.out (hl4.bw.fr [mb, cb])); clear hl4)
            | (go_at_call 31; refine (HCALL.out _ HI4.out).mono ?_; rintro e w5 ⟨rfl, hi5, hf5⟩; have HI5 := hid hi5; have O5 := hid (own_same O4.out (fun q hq => hf5.block q (own_lt O4.out hq) (fun hm => by have := HNM.out q hq; rcases List.mem_cons.1 hm with e | e; exact this.1 e; rw [List.mem_singleton] at e; exact this.2 e))); have F5 := hid (frc F4.out hf5); clear hi5 hf5)
            | fail)
          go_roundw
          case rel => exact ⟨k + 1, t.2.1, by omega, by go_num, Nat.le_trans HML.out HLN.out, HE.out, by have := HI5.out; rw [HM2.out] at this; exact this, O5.out, F5.out⟩
          case measure => simp [intOf]; omega
      · have hk0 : k = x.length := by omega
        have HE : Hid (r = (true, Mk, false)) := by
          have := HRK.out
          rw [List.drop_eq_nil_of_le (by simp; omega), dpL] at this
          exact this
        go_wp2
        all_goals go_ret
        all_goals exact ⟨ret_bool (by rw [HE.out]), by rw [HE.out]; exact HCI.out, HFR.out⟩

end Go.Proofs.YtlhgdknmgdohkaaGreatDoor

set_option linter.unusedSimpArgs false
set_option linter.unusedVariables false
namespace Go.Proofs.YtlhgdknmgdohkaaGreatDoor
open Go Go.RowKit

set_option maxHeartbeats 2000000 in
theorem alike_any {b0 : Nat} {H : AHeap} {bs : List Nat} {cb mb : Nat} (hok : HOK H) (hnd : ∀ o ∈ H.2, o.keys.Nodup) : ∀ f, Alk b0 H bs cb mb f
  | 0 => fun Ms a b w ha hb hf h => absurd hf (Nat.not_lt_zero _)
  | f + 1 => fun Ms a b w ha hb hf h => by
    by_cases c1 : eqW H a b = true
    · have e : dp H (f + 1) Ms a b = (true, Ms, false) := by rw [dp, if_pos c1]
      rw [e]
      exact alike_early a b ha hb w h true (.inl ⟨c1, rfl⟩)
    · have c1' : eqW H a b = false := by simpa using c1
      by_cases c2 : (kk H a != kk H b || !(kk H a == 2 || kk H a == 3 || kk H a == 4)) = true
      · have e : dp H (f + 1) Ms a b = (false, Ms, false) := by rw [dp, if_neg c1, if_pos c2]
        rw [e]
        exact alike_early a b ha hb w h false (.inr ⟨c1', c2, rfl⟩)
      · have c2' := c2
        rw [Bool.not_eq_true, Bool.or_eq_false_iff] at c2'
        obtain ⟨k1, k2⟩ := c2'
        have k3 : (kk H a == 2 || kk H a == 3 || kk H a == 4) = true := by
          have := k2
          rwa [Bool.not_eq_false'] at this
        have k4 : kk H a = kk H b := by simpa using k1
        by_cases c3 : (a, b) ∈ Ms
        · have e : dp H (f + 1) Ms a b = (true, Ms, false) := by rw [dp, if_neg c1, if_neg c2, if_pos c3]
          rw [e]
          exact alike_met a b ha hb w h c1' k1 k3 c3
        · by_cases c4 : 65536 ≤ Ms.length
          · have e : dp H (f + 1) Ms a b = (false, Ms, true) := by rw [dp, if_neg c1, if_neg c2, if_neg c3, if_pos c4]
            rw [e]
            exact alike_many a b ha hb w h c1' k1 k3 c3 c4
          · have hlt : 65536 - (Ms ++ [(a, b)]).length < f := by simp only [List.length_append, List.length_singleton]; omega
            have en : kids H a b = none → dp H (f + 1) Ms a b = (false, Ms ++ [(a, b)], false) := fun hk => by rw [dp, if_neg c1, if_neg c2, if_neg c3, if_neg c4, hk]
            have es : ∀ ps, kids H a b = some ps → dp H (f + 1) Ms a b = dpL (dp H f) ps (Ms ++ [(a, b)]) := fun ps hk => by rw [dp, if_neg c1, if_neg c2, if_neg c3, if_neg c4, hk]
            have hA := alike_any (b0 := b0) (bs := bs) (cb := cb) (mb := mb) hok hnd f
            refine alike_new a b ha hb w h c1' k1 c3 (by omega) _ ?_
            have kc : kk H a = 2 ∨ kk H a = 3 ∨ kk H a = 4 := by simpa [or_assoc] using k3
            rcases kc with ka | ka | ka
            · refine .inl ⟨ka, fun w2 h2 => alikeEntries_any hA a b ha hb w2 h2 hlt ka (k4 ▸ ka) _ ?_⟩
              by_cases hl : (ob H a).vals.length = (ob H b).vals.length
              · rw [if_pos hl]; exact es _ (by rw [kids, if_pos ka, if_pos hl])
              · rw [if_neg hl]; exact en (by rw [kids, if_pos ka, if_neg hl])
            · refine .inr (.inl ⟨ka, fun w2 h2 => alikeFields_any hA a b ha hb w2 h2 hlt ka (k4 ▸ ka) hnd _ ?_⟩)
              by_cases hl : sameK (ob H a).keys (ob H b).keys = true
              · rw [if_pos hl]; exact es _ (by rw [kids, if_neg (by omega), if_pos ka, if_pos hl])
              · rw [if_neg hl]; exact en (by rw [kids, if_neg (by omega), if_pos ka, if_neg hl])
            · refine .inr (.inr ⟨ka, fun w2 h2 => alikeAt_any a b 0 ha hb w2 h2 _ ?_⟩)
              intro w1 hi
              have e2 : dp H (f + 1) Ms a b = dp H f (Ms ++ [(a, b)]) (aAtV H a 0) (aAtV H b 0) := by
                rw [es [(aAtV H a 0, aAtV H b 0)] (by rw [kids, if_neg (by omega), if_neg (by omega)])]
                simp only [dpL]
                by_cases ht : (dp H f (Ms ++ [(a, b)]) (aAtV H a 0) (aAtV H b 0)).1 = true
                · rw [if_pos ht]
                  have hm := dp_many H f _ _ _ ht
                  generalize dp H f (Ms ++ [(a, b)]) (aAtV H a 0) (aAtV H b 0) = t at ht hm ⊢
                  obtain ⟨t1, t2, t3⟩ := t
                  simp only at ht hm ⊢
                  rw [ht, hm]
                · rw [if_neg ht]
              rw [e2]
              exact hA _ _ _ w1 (U_at hok ha (.inr ka)) (U_at hok hb (.inr (k4 ▸ ka))) hlt hi

end Go.Proofs.YtlhgdknmgdohkaaGreatDoor

set_option linter.unusedSimpArgs false
set_option linter.unusedVariables false
namespace Go.Proofs.YtlhgdknmgdohkaaGreatDoor
open Go Go.RowKit

theorem CI.begin {w : World} {b0 : Nat} {H : AHeap} {bs : List Nat} (h : HS w b0 H bs) :
    CI ((w.alloc (.map #[] 0)).alloc (.cells #[.pointer (some ⟨b0, 0, none⟩), .map (some w.heap.size), .bool false] 77)) b0 H bs (w.heap.size + 1) w.heap.size [] false where
  hs := h.bw (((Bw.refl w).alloc _).alloc _)
  n := ⟨fun hk => by have := h.lt hk; omega, fun hk => by have := h.lt hk; omega, by omega⟩
  k := by
    have := Blk.new (w.alloc (.map #[] 0)) #[.pointer (some ⟨b0, 0, none⟩), .map (some w.heap.size), .bool false] 77
    simpa using this
  mp := by
    have := World.ownsMap_made w Tryz.prog 117 (plainElem (H := Unit) Tryz.prog 3)
    exact ⟨_, this.alloc _, RowP.nil⟩

set_option maxRecDepth 100000 in
set_option maxHeartbeats 8000000 in
theorem deep_any {b0 : Nat} {H : AHeap} {bs : List Nat} (hnd : ∀ o ∈ H.2, o.keys.Nodup) (a b : Int) (ha : U a) (hb : U b) (w : World) (h : HS w b0 H bs) :
    Calls Tryz.prog 10 #[.pointer (some ⟨b0, 0, none⟩), .int .u64 a, .int .u64 b] w fun e w' => e = .returned (.tuple #[.bool (dp H 65537 [] a b).1, .int .i64 (if (dp H 65537 [] a b).2.2 = true then 3 else 0)]) ∧ Bw w w' := by
  have HB := hid (CI.begin h)
  have HC := hid (fun w1 h1 => alike_any (b0 := b0) (bs := bs) (cb := w.heap.size + 1) (mb := w.heap.size) h.ok hnd 65537 [] a b w1 ha hb (by simp) h1)
  have HM := hid (dp_many H 65537 [] a b)
  have HBW := hid (((Bw.refl w).alloc (.map #[] 0)).alloc (.cells #[.pointer (some ⟨b0, 0, none⟩), .map (some w.heap.size), .bool false] 77))
  clear h ha hb hnd
  have hmm := @run_makeMap Tryz.prog
  generalize dp H 65537 [] a b = r at HC HM ⊢
  obtain ⟨r1, r2, r3⟩ := r
  cases r3
  · go_enter Tryz.func10, Tryz.ntmps10
    go_wp2_with (first
      | (go_at_call 31; refine (HC.out _ HB.out).mono ?_; rintro e w1 ⟨rfl, hi1, hf1⟩; have y2 := hi1.k.cell 2; have HF1 := hid hf1; clear hi1 hf1)
      | fail)
    all_goals go_ret2
    all_goals refine ⟨rfl, ?_⟩
    all_goals exact ⟨HF1.out.os.trans HBW.out.os, HF1.out.tape.trans HBW.out.tape, HF1.out.output.trans HBW.out.output, Nat.le_trans HBW.out.size HF1.out.size, fun b hb => (HF1.out.block b (Nat.lt_of_lt_of_le hb HBW.out.size) (by simp; omega)).trans (HBW.out.block b hb)⟩
  · have h1 : r1 = false := by
      cases r1
      · rfl
      · exact absurd (HM.out rfl) (by simp)
    subst h1
    go_enter Tryz.func10, Tryz.ntmps10
    go_wp2_with (first
      | (go_at_call 31; refine (HC.out _ HB.out).mono ?_; rintro e w1 ⟨rfl, hi1, hf1⟩; have y2 := hi1.k.cell 2; have HF1 := hid hf1; clear hi1 hf1)
      | fail)
    all_goals go_ret2
    all_goals refine ⟨rfl, ?_⟩
    all_goals exact ⟨HF1.out.os.trans HBW.out.os, HF1.out.tape.trans HBW.out.tape, HF1.out.output.trans HBW.out.output, Nat.le_trans HBW.out.size HF1.out.size, fun b hb => (HF1.out.block b (Nat.lt_of_lt_of_le hb HBW.out.size) (by simp; omega)).trans (HBW.out.block b hb)⟩

end Go.Proofs.YtlhgdknmgdohkaaGreatDoor

