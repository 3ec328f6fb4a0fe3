/- What serves the statements: objects that were made, and stay as they are; lists that are not too long; new lists of zeros; keys of two bytes. Nothing of the program's calls is in it. -/
import Derived.Test.YtjemhdepgeecjaaPY
import Derived.Test.YtjemhdepgeecjaaPR
import Derived.Laws.BytesArg
import Derived.Laws.OwnMore
set_option linter.unusedSimpArgs false
set_option linter.unusedVariables false
namespace Go.Proofs.Ytjemhdepgeecjaa
open Go Go.RowKit

theorem U_ref {k : Nat} (h : k ≤ 65536) : U (4 * (k : Int) + 2) := ⟨by omega, by omega⟩

theorem kk_at {H : AHeap} {k : Nat} (hk : k ≤ 65536) {o : AObj} (h : H.2[k]? = some o) : kk H (4 * (k : Int) + 2) = o.kind ∧ ob H (4 * (k : Int) + 2) = o := by
  have hl : k < H.2.length := (List.getElem?_eq_some_iff.1 h).1
  have h2 : ob H (4 * (k : Int) + 2) = o := by
    unfold ob
    rw [idx_refN hk]
    simp [List.getD, h]
  refine ⟨?_, h2⟩
  unfold kk
  rw [if_pos ⟨kd_ref hk, by rw [idx_refN hk]; omega⟩]
  have := h2
  unfold ob noObj at this
  exact congrArg AObj.kind this

/-- What was made is the last one. -/
theorem make_new {H : AHeap} {o : AObj} (hE : aMakeE H o = 0) (hl : H.2.length ≤ 65535) :
    aMakeV H o = 4 * (H.2.length : Int) + 2 ∧ kk (aMakeH H o) (4 * (H.2.length : Int) + 2) = o.kind ∧ ob (aMakeH H o) (4 * (H.2.length : Int) + 2) = o := by
  refine ⟨by unfold aMakeV; rw [if_pos hE], ?_⟩
  have : (aMakeH H o).2[H.2.length]? = some o := by
    unfold aMakeH; rw [if_pos hE]; simp
  exact kk_at (by omega) this

/-- The others stay. -/
theorem make_old (H : AHeap) (o : AObj) {k : Nat} (hk : k < H.2.length) (h6 : k ≤ 65536) : kk (aMakeH H o) (4 * (k : Int) + 2) = kk H (4 * (k : Int) + 2) ∧ ob (aMakeH H o) (4 * (k : Int) + 2) = ob H (4 * (k : Int) + 2) := by
  have h1 : H.2[k]? = some H.2[k] := List.getElem?_eq_getElem hk
  have h2 : (aMakeH H o).2[k]? = some H.2[k] := by
    unfold aMakeH
    split
    · simp [List.getElem?_append_left hk, h1]
    · exact h1
  rw [(kk_at h6 h1).1, (kk_at h6 h1).2, (kk_at h6 h2).1, (kk_at h6 h2).2]
  exact ⟨rfl, rfl⟩

theorem make_len (H : AHeap) (o : AObj) : H.2.length ≤ (aMakeH H o).2.length ∧ (aMakeE H o = 0 → (aMakeH H o).2.length = H.2.length + 1) ∧ (aMakeH H o).2.length ≤ H.2.length + 1 := by
  unfold aMakeH
  split <;> simp_all

/-- What is pushed to one array leaves the others. -/
theorem push_other {H : AHeap} {x : Int} {i k : Nat} (hi : i ≤ 65536) (hk : k ≤ 65536) (hne : i ≠ k) : kk (aPushH H (4 * (i : Int) + 2) x) (4 * (k : Int) + 2) = kk H (4 * (k : Int) + 2) ∧ ob (aPushH H (4 * (i : Int) + 2) x) (4 * (k : Int) + 2) = ob H (4 * (k : Int) + 2) := by
  unfold aPushH
  split
  · unfold kk ob
    rw [idx_refN hi, idx_refN hk]
    simp [List.getD, List.getElem?_set_ne hne]
  · exact ⟨rfl, rfl⟩

/-- No list is longer than it may be. -/
def Capped (H : AHeap) : Prop := ∀ o ∈ H.2, o.vals.length ≤ 65536 ∧ o.keys.length ≤ 256

theorem Capped.nil (n : Int) : Capped (n, []) := fun o ho => by simp at ho

theorem Capped.add {H : AHeap} {o : AObj} (h : Capped H) (ho : aMakeE H o = 0 → o.vals.length ≤ 65536 ∧ o.keys.length ≤ 256) : Capped (aMakeH H o) := by
  unfold aMakeH
  split
  · rename_i hE
    intro u hu
    rw [List.mem_append, List.mem_singleton] at hu
    rcases hu with hu | rfl
    · exact h u hu
    · exact ho hE
  · exact h

theorem make_short {H : AHeap} {o : AObj} (h : aMakeE H o = 0) : pLong o = false ∧ pSound H.2.length o = true := by
  unfold aMakeE at h
  split at h
  · omega
  · rename_i h1
    split at h
    · omega
    · rename_i h2
      exact ⟨by simpa using h1, by simpa using h2⟩

theorem Capped.str {H : AHeap} (b : List Int) (h : Capped H) : Capped (aMakeH H (oStr b)) := h.add fun _ => ⟨Nat.zero_le _, Nat.zero_le _⟩

theorem Capped.arr {H : AHeap} (l : List Int) (h : Capped H) : Capped (aMakeH H (oArr l)) := h.add fun e => by
  have h1 : decide ((65536 : Int) < (l.length : Int)) = false := (make_short e).1
  have := of_decide_eq_false h1
  exact ⟨show l.length ≤ 65536 by omega, Nat.zero_le _⟩

theorem Capped.fun {H : AHeap} (n : Int) (l : List Int) (h : Capped H) : Capped (aMakeH H (oFun n l)) := h.add fun e => by
  have h1 : decide ((256 : Int) < (l.length : Int)) = false := (make_short e).1
  have := of_decide_eq_false h1
  exact ⟨show l.length ≤ 65536 by omega, Nat.zero_le _⟩

theorem Capped.rec {H : AHeap} (k : List ByteArray) (l : List Int) (h : Capped H) : Capped (aMakeH H (oRec k l)) := h.add fun e => by
  have h1 : decide ((256 : Int) < (k.length : Int)) = false := (make_short e).1
  have h2 : (decide (k.length = l.length) && decide k.Nodup && l.all (gd H.2.length)) = true := (make_short e).2
  have := of_decide_eq_false h1
  simp only [Bool.and_eq_true, decide_eq_true_iff] at h2
  exact ⟨show l.length ≤ 65536 by omega, show k.length ≤ 256 by omega⟩

theorem Capped.cell {H : AHeap} (x : Int) (h : Capped H) : Capped (aMakeH H (oCell x)) := h.add fun _ => ⟨(by decide : 1 ≤ 65536), Nat.zero_le _⟩

theorem Capped.none {H : AHeap} {o : AObj} (h : Capped H) (h1 : o.vals = []) (h2 : o.keys = []) : Capped (aMakeH H o) := h.add fun _ => ⟨by rw [h1]; exact Nat.zero_le _, by rw [h2]; exact Nat.zero_le _⟩

theorem Capped.make {H : AHeap} (a : AAct) (h : Capped H) : Capped (kMakeH H a) := by
  unfold kMakeH
  split
  · exact h
  · unfold mkO
    split
    · exact h.str _
    split
    · exact h.arr _
    split
    · exact h.rec _ _
    split
    · exact h.cell _
    split
    · exact h.fun _ _
    split
    · exact h.none rfl rfl
    · exact h.none rfl rfl

theorem Capped.upd {H : AHeap} {k : Nat} {o : AObj} (h : Capped H) (ho : o.vals.length ≤ 65536 ∧ o.keys.length ≤ 256) : Capped (H.1, H.2.set k o) := by
  intro u hu
  rcases List.mem_or_eq_of_mem_set hu with hu | rfl
  · exact h u hu
  · exact ho

theorem Capped.ob {H : AHeap} {v : Int} (h : Capped H) : (ob H v).vals.length ≤ 65536 ∧ (ob H v).keys.length ≤ 256 := by
  by_cases hl : (idxV v).toNat < H.2.length
  · have : Proofs.Ytjemhdepgeecjaa.ob H v = H.2[(idxV v).toNat] := by
      unfold Proofs.Ytjemhdepgeecjaa.ob; simp [List.getD, hl]
    rw [this]
    exact h _ (List.getElem_mem hl)
  · have : Proofs.Ytjemhdepgeecjaa.ob H v = noObj := by
      unfold Proofs.Ytjemhdepgeecjaa.ob
      simp [List.getD, List.getElem?_eq_none (Nat.le_of_not_lt hl)]
    rw [this]
    exact ⟨Nat.zero_le _, Nat.zero_le _⟩

theorem Capped.push {H : AHeap} (v x : Int) (h : Capped H) : Capped (aPushH H v x) := by
  unfold aPushH
  split
  · rename_i hc
    have := h.ob (v := v)
    refine h.upd ⟨?_, this.2⟩
    show ((Proofs.Ytjemhdepgeecjaa.ob H v).vals ++ [x]).length ≤ 65536
    rw [List.length_append, List.length_singleton]
    omega
  · exact h

theorem Capped.set {H : AHeap} (v i x : Int) (h : Capped H) : Capped (aSetH H v i x) := by
  unfold aSetH
  split
  · have := h.ob (v := v)
    refine h.upd ⟨?_, this.2⟩
    show ((Proofs.Ytjemhdepgeecjaa.ob H v).vals.set i.toNat x).length ≤ 65536
    rw [List.length_set]
    exact this.1
  · exact h

theorem Capped.pop {H : AHeap} (v : Int) (h : Capped H) : Capped (aPopH H v) := by
  unfold aPopH
  split
  · have := h.ob (v := v)
    refine h.upd ⟨?_, this.2⟩
    show ((Proofs.Ytjemhdepgeecjaa.ob H v).vals.take _).length ≤ 65536
    rw [List.length_take]
    omega
  · exact h

theorem Capped.put {H : AHeap} (v : Int) (s : ByteArray) (x : Int) (hok : HOK H) (hU : U v) (h : Capped H) : Capped (aPutH H v s x) := by
  unfold aPutH
  split
  · rename_i hc
    have := h.ob (v := v)
    have hr := kk_ref (H := H) (v := v) (by omega)
    have hoo := ob_ok (v := v) hok hU hr.2.1
    have hlen := hoo.2.2.1 (by omega)
    split
    · refine h.upd ⟨?_, this.2⟩
      show ((Proofs.Ytjemhdepgeecjaa.ob H v).vals.set _ x).length ≤ 65536
      rw [List.length_set]
      exact this.1
    · split
      · exact h
      · refine h.upd ⟨?_, ?_⟩
        · show ((Proofs.Ytjemhdepgeecjaa.ob H v).vals ++ [x]).length ≤ 65536
          rw [List.length_append, List.length_singleton]
          omega
        · show ((Proofs.Ytjemhdepgeecjaa.ob H v).keys ++ [s]).length ≤ 256
          rw [List.length_append, List.length_singleton]
          omega
  · exact h

/-- A list of zeros. -/
def zs (n : Nat) : List Int := List.replicate n 0

theorem zs_len (n : Nat) : (zs n).length = n := List.length_replicate

theorem zs_u64 (n : Nat) : (madeCells #[Value.int .u64 0] n).toList = (zs n).map (Value.int .u64) := by
  exact (toList_madeCells_one _ n).trans (by simp [zs])

theorem zs_u8 (n : Nat) : (madeCells #[Value.int .u8 0] n).toList = (zs n).map (Value.int .u8) := by
  exact (toList_madeCells_one _ n).trans (by simp [zs])

theorem zs_U (n : Nat) : ∀ x ∈ zs n, U x := fun x hx => by
  rw [List.eq_of_mem_replicate hx]; exact ⟨by decide, by decide⟩

theorem zs_B (n : Nat) : ∀ x ∈ zs n, 0 ≤ x ∧ x ≤ 255 := fun x hx => by
  rw [List.eq_of_mem_replicate hx]; exact ⟨by decide, by decide⟩

theorem gd_zero (n : Nat) : gd n 0 = true := by
  have : kd 0 = 0 := by decide
  simp [gd, this]

theorem zs_good (n m : Nat) : (zs m).all (gd n) = true := by
  rw [List.all_eq_true]
  intro x hx
  rw [List.eq_of_mem_replicate hx]
  exact gd_zero n

/-- The key of a number: two bytes. -/
def kb (k : Nat) : ByteArray := strOfNums [((k % 256 : Nat) : Int), ((k / 256 : Nat) : Int)]

theorem kb_inj {i j : Nat} (hi : i < 65536) (hj : j < 65536) (h : kb i = kb j) : i = j := by
  have h1 := congrArg (fun b : ByteArray => b.data.toList.map UInt8.toNat) h
  simp [kb, strOfNums] at h1
  omega

theorem kb_long (k : Nat) : kb k ≠ ⟨#[108, 111, 110, 103, 32, 107, 101, 121]⟩ := fun h => by
  have h1 := congrArg (fun b : ByteArray => b.data.size) h
  simp [kb, strOfNums] at h1

def kbs (m : Nat) : List ByteArray := (List.range m).map kb

theorem kbs_len (m : Nat) : (kbs m).length = m := by simp [kbs]

theorem kbs_nodup {m : Nat} (hm : m ≤ 65536) : (kbs m).Nodup := by
  unfold kbs
  rw [List.nodup_iff_pairwise_ne, List.pairwise_map]
  refine List.Pairwise.imp_of_mem ?_ List.nodup_range
  intro a b ha hb hne h
  rw [List.mem_range] at ha hb
  exact hne (kb_inj (by omega) (by omega) h)

theorem kbs_long (m : Nat) : aKey (kbs m) ⟨#[108, 111, 110, 103, 32, 107, 101, 121]⟩ = -1 := by
  refine aKey_miss fun j hj => ?_
  simp only [kbs, List.getElem_map]
  exact kb_long _

end Go.Proofs.Ytjemhdepgeecjaa
