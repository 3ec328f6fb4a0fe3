/- The program asks whether an object may be made: words that are not good, keys that stand twice, what is too long, what is wrong: the contracts. -/
import Derived.Test.YtjcoifdfemejkaaGreatDoorM2
import Derived.Deep.Light
set_option linter.unusedSimpArgs false
set_option linter.unusedVariables false
namespace Go.Proofs.YtjcoifdfemejkaaGreatDoor
open Go Go.RowKit

set_option maxHeartbeats 2000000 in
theorem allGood_any (G : Nat → Prop) {b0 : Nat} {H : AHeap} {vo : Value} {t : List (Value × Value × Value)} (sv : Value) (l : List Int) (w : World) (h : PH w b0 H vo t) (hs : Sl w G sv l.length 1 (l.map (Value.int .u64))) (hU : ∀ v ∈ l, U v) (hm : l.length ≤ 9223372036854775806) :
    Calls Tryz.prog 127 #[.pointer (some ⟨b0, 0, none⟩), sv] w fun e w' => e = .returned (.bool (l.all (gd H.2.length))) ∧ w' = w := by
  have HP := hid h
  have HS := hid hs
  have HU := hid hU
  obtain ⟨a, cap, rfl⟩ := hs.form
  clear h hs hU
  go_enter Tryz.func127, Tryz.ntmps127
  go_wp2
  go_loopw [9] (fun i wr => ∃ (k : Nat), k ≤ l.length ∧ i = .int .i64 k ∧ wr = w ∧ ∀ j (hj : j < k) (hl : j < l.length), gd H.2.length l[j] = true) (fun i _ => l.length - (intOf i).toNat)
  case atStart => exact ⟨0, Nat.zero_le _, rfl, rfl, fun j hj => absurd hj (by omega)⟩
  case round =>
    obtain ⟨k, hk, rfl, rfl, hd⟩ := hrel
    have HD := hid hd
    clear hd
    by_cases hlt : k < l.length
    · obtain ⟨b, off, rfl, hbs, c1⟩ := HS.out.at hlt
      have c2 : wr.cell? ⟨b, off + k, none⟩ = some (.int .u64 l[k]) := by rw [c1]; simp [hlt]
      have hb1 : (0 : Int) ≤ (k : Int) := by omega
      have hb2 : (k : Int) < (l.length : Int) := by omega
      have HUk := hid (HU.out _ (List.getElem_mem hlt))
      have HG : Hid (gd H.2.length l[k] = false → l.all (gd H.2.length) = false) := fun he => by
        show l.all (gd H.2.length) = false
        rw [List.all_eq_false]
        exact ⟨l[k], List.getElem_mem hlt, by simp [he]⟩
      have HN : Hid (gd H.2.length l[k] = true → ∀ j (hj : j < k + 1) (hl : j < l.length), gd H.2.length l[j] = true) := by
        intro he j hj hl
        by_cases hjk : j = k
        · subst hjk; exact he
        · exact HD.out j (by omega) hl
      clear c1
      generalize l[k] = z at c2 HUk HG HN
      cases hg : gd H.2.length z
      · have HG' := hid (HG.out hg)
        go_wp2_with (first | (go_at_call 71; refine (good_any _ HUk.out _ HP.out).mono ?_; rintro e w' ⟨rfl, rfl⟩))
        all_goals go_ret
        all_goals exact ⟨ret_bool HG'.out.symm, rfl⟩
      · have HN' := hid (HN.out hg)
        go_wp2_with (first | (go_at_call 71; refine (good_any _ HUk.out _ HP.out).mono ?_; rintro e w' ⟨rfl, rfl⟩))
        go_roundw
        case rel => exact ⟨k + 1, by omega, by go_num, trivial, HN'.out⟩
        case measure => simp [intOf]; omega
    · have hall : l.all (gd H.2.length) = true := by
        rw [List.all_eq_true]
        intro x hx
        obtain ⟨j, hj, rfl⟩ := List.getElem_of_mem hx
        exact HD.out j (by omega) hj
      have HA := hid hall
      clear hall
      go_wp2
      all_goals go_ret
      all_goals exact ⟨ret_bool HA.out.symm, rfl⟩

theorem Sl.take {w : World} {G : Nat → Prop} {a : Option Addr} {cap n : Nat} {cs : List Value} (h : Sl w G (.slice a n cap) n 1 cs) {k : Nat} (hk : k ≤ n) : Sl w G (.slice a k cap) k 1 (cs.take k) := by
  have hl := h.1
  obtain ⟨_, a', cap', e, hn, h⟩ := h
  cases e
  refine ⟨by simp; omega, a, cap, rfl, ⟨by have := hn.1; omega, hn.2⟩, ?_⟩
  rcases h with h | ⟨b, o, e, hlt, hg, hc⟩
  · exact .inl (by omega)
  · refine .inr ⟨b, o, e, hlt, hg, fun i hi => ?_⟩
    rw [hc i (by omega), List.getElem?_take, if_pos (by omega)]

theorem aKey_mem {l : List ByteArray} {s : ByteArray} : 0 ≤ aKey l s ↔ s ∈ l := by
  constructor
  · intro h
    rcases Classical.em (s ∈ l) with h1 | h1
    · exact h1
    · have := aKey_miss (l := l) (k := s) (fun j hj e => h1 (e ▸ List.getElem_mem hj))
      omega
  · intro h
    unfold aKey
    split
    · omega
    · rename_i hn
      rw [List.findIdx?_eq_none_iff] at hn
      have := hn s h
      simp at this

theorem nodup_of_before {l : List ByteArray} (h : ∀ p (hp : p < l.length), l[p] ∉ l.take p) : l.Nodup := by
  rw [List.Nodup, List.pairwise_iff_getElem]
  intro i j hi hj hij he
  refine h j hj ?_
  rw [← he]
  exact List.mem_take_iff_getElem.2 ⟨i, by omega, rfl⟩
theorem not_nodup_of {l : List ByteArray} {p : Nat} (hp : p < l.length) (h : l[p] ∈ l.take p) : ¬ l.Nodup := by
  intro hn
  obtain ⟨i, hi, he⟩ := List.mem_take_iff_getElem.1 h
  rw [List.Nodup, List.pairwise_iff_getElem] at hn
  exact hn i p (by omega) hp (by omega) he

theorem Sl.cap {w : World} {G : Nat → Prop} {a : Option Addr} {cap n size : Nat} {cs : List Value} (h : Sl w G (.slice a n cap) n size cs) : n ≤ cap := by
  obtain ⟨_, a', cap', e, hn, _⟩ := h
  cases e
  exact hn.1

set_option maxHeartbeats 4000000 in
theorem anyTwice_any (G : Nat → Prop) (sv : Value) (l : List ByteArray) (w : World) (hs : Sl w G sv l.length 1 (l.map Value.string)) (hm : l.length ≤ 1000000000) :
    Calls Tryz.prog 126 #[sv] w fun e w' => e = .returned (.bool (!decide l.Nodup)) ∧ w' = w := by
  have HS := hid hs
  obtain ⟨a, cap, rfl⟩ := hs.form
  clear hs
  go_enter Tryz.func126, Tryz.ntmps126
  go_wp2
  go_loopw [7] (fun i wr => ∃ (k : Nat), k ≤ l.length ∧ i = .int .i64 k ∧ wr = w ∧ ∀ p (hp : p < k) (hl : p < l.length), l[p] ∉ l.take p) (fun i _ => l.length - (intOf i).toNat)
  case atStart => exact ⟨0, Nat.zero_le _, rfl, rfl, fun j hj => absurd hj (by omega)⟩
  case round =>
    obtain ⟨k, hk, rfl, rfl, hd⟩ := hrel
    have HD := hid hd
    clear hd
    by_cases hlt : k < l.length
    · obtain ⟨b, off, rfl, hbs, c1⟩ := HS.out.at hlt
      have c2 : wr.cell? ⟨b, off + k, none⟩ = some (.string l[k]) := by rw [c1]; simp [hlt]
      have hb1 : (0 : Int) ≤ (k : Int) := by omega
      have hb2 : (k : Int) < (l.length : Int) := by omega
      have hcap := HS.out.cap
      have hb3 : (k : Int) ≤ (cap : Int) := by omega
      have ht : Sl wr G (.slice (some ⟨b, off, none⟩) k cap) (l.take k).length 1 ((l.take k).map Value.string) := by
        have := HS.out.take (k := k) (by omega)
        rw [show (l.take k).length = k by simp; omega]
        simpa using this
      have HT := hid ht
      clear ht
      have HY : Hid (l[k] ∈ l.take k → (!decide l.Nodup) = true) := fun hx => by
        show (!decide l.Nodup) = true
        simp [not_nodup_of hlt hx]
      have HN : Hid (l[k] ∉ l.take k → ∀ p (hp : p < k + 1) (hl : p < l.length), l[p] ∉ l.take p) := by
        intro hx p hp hl
        by_cases hpk : p = k
        · subst hpk; exact hx
        · exact HD.out p (by omega) hl
      clear c1 hcap
      generalize l[k] = z at c2 HY HN
      by_cases hz : z ∈ l.take k
      · have HY' := hid (HY.out hz)
        have hd : decide (0 ≤ aKey (l.take k) z) = true := decide_eq_true (aKey_mem.2 hz)
        clear hz
        go_wp2_with (first | (go_at_call 132; refine (ctS_any G _ (l.take k) _ _ HT.out (by simp; omega)).mono ?_; rintro e w' ⟨rfl, rfl⟩))
        all_goals go_ret
        all_goals exact ⟨ret_bool HY'.out.symm, rfl⟩
      · have HN' := hid (HN.out hz)
        have hd : decide (0 ≤ aKey (l.take k) z) = false := decide_eq_false (fun h => hz (aKey_mem.1 h))
        clear hz
        go_wp2_with (first | (go_at_call 132; refine (ctS_any G _ (l.take k) _ _ HT.out (by simp; omega)).mono ?_; rintro e w' ⟨rfl, rfl⟩))
        go_roundw
        case rel => exact ⟨k + 1, by omega, by go_num, trivial, HN'.out⟩
        case measure => simp [intOf]; omega
    · have hall : (!decide l.Nodup) = false := by
        have : l.Nodup := nodup_of_before (fun p hp => HD.out p (by omega) hp)
        simp [this]
      have HA := hid hall
      clear hall
      go_wp2
      all_goals go_ret
      all_goals exact ⟨ret_bool HA.out.symm, rfl⟩

/-- The value of an object of the program. -/
abbrev pobj (o : AObj) (x : Value × Value × Value) : Value := .agg #[.int .i64 o.kind, x.1, x.2.1, x.2.2, .int .i64 o.num, .int .u64 o.re, .int .u64 o.im]

/-- Its three lists read as its own. -/
def PO (w : World) (G : Nat → Prop) (o : AObj) (x : Value × Value × Value) : Prop :=
  Sl w G x.1 o.bytes.length 1 (o.bytes.map (Value.int .u8)) ∧ Sl w G x.2.1 o.keys.length 1 (o.keys.map Value.string) ∧ Sl w G x.2.2 o.vals.length 1 (o.vals.map (Value.int .u64))
theorem PO.bw {w w' : World} {G : Nat → Prop} {o : AObj} {x : Value × Value × Value} (h : PO w G o x) (hb : Bw w w') : PO w' G o x := ⟨h.1.below hb, h.2.1.below hb, h.2.2.below hb⟩

def pLong (o : AObj) : Bool :=
  if o.kind = 1 then decide ((65536 : Int) < o.bytes.length) else if o.kind = 2 then decide ((65536 : Int) < o.vals.length) else if o.kind = 3 then decide ((256 : Int) < o.keys.length) else if o.kind = 5 then decide ((256 : Int) < o.vals.length) else false

set_option maxHeartbeats 2000000 in
theorem tooLong_any (G : Nat → Prop) (o : AObj) (x : Value × Value × Value) (w : World) (h : PO w G o x) (m1 : o.bytes.length ≤ 9223372036854775807) (m2 : o.vals.length ≤ 9223372036854775807) (m3 : o.keys.length ≤ 9223372036854775807) :
    Calls Tryz.prog 110 #[pobj o x] w fun e w' => e = .returned (.bool (pLong o)) ∧ Ly w w' := by
  obtain ⟨vb, vk, vl⟩ := x
  obtain ⟨ab, cb, rfl⟩ := h.1.form
  obtain ⟨ak, ck, rfl⟩ := h.2.1.form
  obtain ⟨al, cl, rfl⟩ := h.2.2.form
  clear h
  go_enter Tryz.func110, Tryz.ntmps110
  go_wp2
  all_goals go_ret
  all_goals refine ⟨ret_bool ?_, by repeat (first | exact Ly.refl _ | apply Ly.lay | apply Ly.alloc | apply Ly.drewN | apply Ly.drew)⟩
  all_goals simp_all [pLong]

def pSound (n : Nat) (o : AObj) : Bool :=
  if o.kind = 3 then decide (o.keys.length = o.vals.length) && decide o.keys.Nodup && o.vals.all (gd n)
  else if o.kind = 2 ∨ o.kind = 4 then o.vals.all (gd n)
  else if o.kind = 5 then o.vals.all (gd n) && decide (0 ≤ o.num)
  else if o.kind = 7 ∨ o.kind = 8 ∨ o.kind = 9 then decide (0 ≤ o.num) else true

set_option maxHeartbeats 4000000 in
theorem sound_any (G : Nat → Prop) {b0 : Nat} {H : AHeap} {vo : Value} {t : List (Value × Value × Value)} (o : AObj) (x : Value × Value × Value) (w : World) (hp : PH w b0 H vo t) (h : PO w G o x) (hU : ∀ v ∈ o.vals, U v) (m1 : o.bytes.length ≤ 1000000000) (m2 : o.vals.length ≤ 1000000000) (m3 : o.keys.length ≤ 1000000000) :
    Calls Tryz.prog 111 #[.pointer (some ⟨b0, 0, none⟩), pobj o x] w fun e w' => e = .returned (.bool (pSound H.2.length o)) ∧ Ly w w' := by
  obtain ⟨vb, vk, vl⟩ := x
  have HP := hid hp
  have HO := hid h
  have HU := hid hU
  obtain ⟨ab, cb, rfl⟩ := h.1.form
  obtain ⟨ak, ck, rfl⟩ := h.2.1.form
  obtain ⟨al, cl, rfl⟩ := h.2.2.form
  clear h hp hU
  go_enter Tryz.func111, Tryz.ntmps111
  go_wp2_with (first
    | (go_at_call 126; refine (anyTwice_any G _ o.keys _ (Sl.below HO.out.2.1 (Bw.alloc (Bw.refl _) _)) (by omega)).mono ?_; rintro e w' ⟨rfl, rfl⟩)
    | (go_at_call 127; refine (allGood_any G _ o.vals _ (PH.bw HP.out (Bw.alloc (Bw.refl _) _)) (Sl.below HO.out.2.2 (Bw.alloc (Bw.refl _) _)) HU.out (by omega)).mono ?_; rintro e w' ⟨rfl, rfl⟩))
  all_goals go_ret
  all_goals refine ⟨ret_bool ?_, by repeat (first | exact Ly.refl _ | apply Ly.lay | apply Ly.alloc | apply Ly.drewN | apply Ly.drew)⟩
  all_goals go_light
  all_goals clear HP HO HU
  all_goals simp_all [pSound]
  all_goals first
    | (intro _; omega)
    | (intro hh; omega)
    | (intro hh; rename_i he; obtain ⟨y, hy, hy'⟩ := he; rw [hh y hy] at hy'; cases hy')

end Go.Proofs.YtjcoifdfemejkaaGreatDoor

