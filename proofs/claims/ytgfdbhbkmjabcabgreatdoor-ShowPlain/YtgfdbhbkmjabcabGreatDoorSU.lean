/- Numbers' digits, and what words that are no objects look like: the program's calls. -/
import Derived.Test.YtgfdbhbkmjabcabGreatDoorSR
import Derived.Test.YtgfdbhbkmjabcabGreatDoorItoa
import Derived.Lib.LaidTab
import Derived.Laws.Concat
set_option linter.unusedSimpArgs false
set_option linter.unusedVariables false
namespace Go.Proofs.YtgfdbhbkmjabcabGreatDoor
open Go Go.RowKit

/-- The library's table of powers of ten lies there. -/
abbrev Pw (w : World) : Prop := Lib.TabIs Tryz.prog w "internal/strconv.uint64pow10" .u64 Lib.pow10Tab

theorem Pw.bw {w w' : World} (h : Pw w) (hb : Bw w w') : Pw w' := by
  unfold Pw Lib.TabIs World.var? at h ⊢
  cases hg : Tryz.prog.globalNamed "internal/strconv.uint64pow10" with
  | none => rw [hg] at h; cases h
  | some g =>
    rw [hg] at h
    simp only [Option.bind_some] at h ⊢
    have hlt : g < w.heap.size := by
      rcases Nat.lt_or_ge g w.heap.size with h' | h'
      · exact h'
      · rw [Array.getElem?_eq_none h'] at h; cases h
    rw [hb.block g hlt]
    exact h

/-- A number's digits, as bytes. -/
def itoaL (n : Int) : List Int := (Lib.itoa n).map fun u => (u.toNat : Int)

theorem strOf_bytes (l : List UInt8) : strOfNums (l.map fun u => (u.toNat : Int)) = ⟨l.toArray⟩ := by
  simp [strOfNums, List.map_map, Function.comp_def]

theorem itoa_str (n : Int) : strOfNums (itoaL n) = ⟨(Lib.itoa n).toArray⟩ := strOf_bytes _

theorem itoaL_byte (n : Int) : ∀ c ∈ itoaL n, 0 ≤ c ∧ c ≤ 255 := by
  intro c hc
  obtain ⟨u, _, rfl⟩ := List.mem_map.1 hc
  have := u.toNat_lt
  omega

theorem decDigits_len : ∀ (k u : Nat), u < 10 ^ (k + 1) → (Lib.decDigits u).length ≤ k + 1
  | 0, u, h => by rw [Lib.decDigits, dif_pos (by simpa using h)]; simp
  | k + 1, u, h => by
    rw [Lib.decDigits]
    by_cases h10 : u < 10
    · rw [dif_pos h10]; simp
    · rw [dif_neg h10]
      have := decDigits_len k (u / 10) (by rw [Nat.pow_succ] at h; omega)
      simp; omega

theorem itoaL_len (n : Int) (h0 : -9223372036854775808 ≤ n) (h1 : n ≤ 9223372036854775807) : (itoaL n).length ≤ 21 := by
  unfold itoaL Lib.itoa
  rw [List.length_map]
  split
  · have := decDigits_len 19 n.natAbs (by omega)
    simp; omega
  · have := decDigits_len 19 n.toNat (by omega)
    omega

theorem itoa_any (n : Int) (h0 : -9223372036854775808 ≤ n) (h1 : n ≤ 9223372036854775807) (w : World) (hp : Pw w) :
    Calls Tryz.prog 39 #[.int .i64 n] w fun e w' => e = .returned (.string (strOfNums (itoaL n))) ∧ Bw w w' := by
  refine (shItoa n h0 h1 w hp).mono ?_
  rintro e w' ⟨he, k, os, hw⟩
  rw [itoa_str]
  refine ⟨he, ?_⟩
  rw [hw]
  exact ⟨rfl, rfl, rfl, by simp [Go.Sort.grow], fun b hb => by
    show (w.heap ++ os)[b]? = _
    rw [Array.getElem?_append_left hb]⟩

set_option maxHeartbeats 400000 in
theorem tnum_yes (v : Int) (hv : U v) (hn : kd v = 0) (w : World) :
    Calls Tryz.prog 41 #[.int .u64 v] w fun e w' => e = .returned (.tuple #[.int .i64 (nm v), .bool true]) ∧ w' = w := by
  have hk : (kd v != 0) = false := by simp [hn]
  go_enter Tryz.func41, Tryz.ntmps41
  go_wp2_with (go_at_call 30; refine (kind_any _ hv _).mono ?_; rintro e w' ⟨rfl, rfl⟩)
  go_ret2
  exact ⟨ret_ib (nm_of v) rfl, rfl⟩

/-- What a word that is no object looks like, as bytes. -/
def plL (v : Int) : List Int :=
  if kd v = 0 then itoaL (nm v) else if kd v = 1 then (if v = 5 then [102, 97, 108, 115, 101] else if v = 9 then [116, 114, 117, 101] else [110, 105, 108])
  else if kd v = 3 then [112, 114, 105, 109, 58] ++ itoaL (idxV v) else [63]

theorem kd_cases (v : Int) : kd v = 0 ∨ kd v = 1 ∨ kd v = 2 ∨ kd v = 3 ∨ kd v = 4 := by
  unfold kd; repeat' split
  all_goals omega

theorem idx_top (v : Int) (hU : U v) : 0 ≤ idxV v ∧ idxV v ≤ 4611686018427387904 := by
  unfold U at hU; unfold idxV; split <;> omega

theorem plL_byte (v : Int) : ∀ c ∈ plL v, 0 ≤ c ∧ c ≤ 255 := by
  unfold plL
  repeat' split
  · exact itoaL_byte _
  · decide
  · decide
  · decide
  · intro c hc
    rcases List.mem_append.1 hc with h | h
    · have hd : ∀ c ∈ ([112, 114, 105, 109, 58] : List Int), 0 ≤ c ∧ c ≤ 255 := by decide
      exact hd c h
    · exact itoaL_byte _ c h
  · decide

theorem plL_len (v : Int) (hU : U v) : (plL v).length ≤ 30 := by
  unfold plL
  have h1 := itoaL_len (nm v) (by have := nm_bd v; omega) (by have := nm_bd v; omega)
  have h2 := itoaL_len (idxV v) (by have := idx_top v hU; omega) (by have := idx_top v hU; omega)
  repeat' split
  all_goals first | (simp; omega) | simp | omega

theorem strOf_app4 (a b : List Int) : strOfNums a ++ strOfNums b = strOfNums (a ++ b) := by
  apply str_inj
  simp [strOfNums, ByteArray.toList_eq]

theorem strCells_nums (l : List Int) (h : ∀ c ∈ l, 0 ≤ c ∧ c ≤ 255) : Lib.strCells (strOfNums l) = l.map (Value.int .u8) := by
  unfold Lib.strCells strOfNums
  simp only [List.map_map]
  apply List.map_congr_left
  intro c hc
  have := h c hc
  simp only [Function.comp]
  congr 1
  rw [UInt8.toNat_ofNat_of_lt' (by show c.toNat < 256; omega)]
  omega

theorem atomS_nums (v : Int) (hk : kd v = 1) : atomS v = strOfNums (plL v) := by
  have e : plL v = if v = 5 then [102, 97, 108, 115, 101] else if v = 9 then [116, 114, 117, 101] else [110, 105, 108] := by
    unfold plL
    rw [if_neg (by omega), if_pos hk]
  rw [e]
  unfold atomS
  by_cases h5 : v = 5
  · rw [if_pos h5, if_pos h5]; rfl
  · rw [if_neg h5, if_neg h5]
    by_cases h9 : v = 9
    · rw [if_pos h9, if_pos h9]; rfl
    · rw [if_neg h9, if_neg h9]; rfl

set_option maxRecDepth 100000 in
set_option maxHeartbeats 4000000 in
theorem plain_int (hv : Value) (v : Int) (hU : U v) (w : World) (hk : kd v = 0) (hp : Pw w) :
    Calls Tryz.prog 23 #[hv, .int .u64 v] w fun e w' => e = .returned (.string (strOfNums (plL v))) ∧ Bw w w' := by
  have e : plL v = itoaL (nm v) := by unfold plL; rw [if_pos hk]
  rw [e]
  have HU := hid hU
  have HP := hid hp
  have HK := hid hk
  have HN := hid (nm_bd v)
  generalize hs : strOfNums (itoaL (nm v)) = s
  have HI : Hid (Calls Tryz.prog 39 #[.int .i64 (nm v)] w fun e w' => e = .returned (.string s) ∧ Bw w w') := by
    rw [← hs]
    exact itoa_any (nm v) (by have := HN.out; omega) (by have := HN.out; omega) w HP.out
  clear hU hp e hs
  go_enter Tryz.func23, Tryz.ntmps23
  go_wp2_with (first
    | (go_at_call 30; refine (kind_any _ HU.out _).mono ?_; rintro e w' ⟨rfl, hw'⟩; subst w'; rw [hk])
    | (go_at_call 41; refine (tnum_yes _ HU.out HK.out _).mono ?_; rintro e w' ⟨rfl, hw'⟩; subst w')
    | (go_at_call 39; refine HI.out.mono ?_; rintro e w1 ⟨rfl, hb1⟩; have HB1 := hid hb1; clear hb1)
    | fail)
  all_goals go_ret
  all_goals exact ⟨rfl, HB1.out⟩

set_option maxRecDepth 100000 in
set_option maxHeartbeats 4000000 in
theorem plain_prim (hv : Value) (v : Int) (hU : U v) (w : World) (hk : kd v = 3) (hp : Pw w) :
    Calls Tryz.prog 23 #[hv, .int .u64 v] w fun e w' => e = .returned (.string (strOfNums (plL v))) ∧ Bw w w' := by
  have e : plL v = [112, 114, 105, 109, 58] ++ itoaL (idxV v) := by unfold plL; rw [if_neg (by omega), if_neg (by omega), if_pos hk]
  have hl := itoaL_len (idxV v) (by have := idx_top v hU; omega) (by have := idx_top v hU; omega)
  rw [e, ← strOf_app4]
  have HU := hid hU
  have HX := hid (idx_top v hU)
  have HI : Hid (Calls Tryz.prog 39 #[.int .i64 (idxV v)] w fun e w' => e = .returned (.string (strOfNums (itoaL (idxV v)))) ∧ Bw w w') :=
    hid (itoa_any (idxV v) (by have := HX.out; omega) (by have := HX.out; omega) w hp)
  have hz : (strOfNums (itoaL (idxV v))).size ≤ 21 := by rw [strOfNums_size]; exact hl
  generalize strOfNums (itoaL (idxV v)) = s at HI hz ⊢
  generalize hpe : (strOfNums [112, 114, 105, 109, 58] ++ s : ByteArray) = p
  have hadd : ∀ w, (Op.stringOp .add ⟨#[112, 114, 105, 109, 58]⟩ s).run Tryz.prog w = .ok (.string p) w := fun w => by
    rw [← hpe]
    exact run_string_add_sum (P := Tryz.prog) w ⟨#[112, 114, 105, 109, 58]⟩ s (by show 5 + s.size ≤ _; omega)
  have hpe' : (⟨#[112, 114, 105, 109, 58]⟩ ++ s : ByteArray) = p := hpe
  have hno : ¬ (9223372036854775807 < 5 + s.size) := by omega
  clear hU hp e hl hz hpe
  go_enter Tryz.func23, Tryz.ntmps23
  go_wp2_with (first
    | (go_at_call 30; refine (kind_any _ HU.out _).mono ?_; rintro e w' ⟨rfl, hw'⟩; subst w'; rw [hk])
    | (go_at_call 32; refine (index_any _ HU.out _).mono ?_; rintro e w' ⟨rfl, hw'⟩; subst w')
    | (go_at_call 39; refine HI.out.mono ?_; rintro e w1 ⟨rfl, hb1⟩; have HB1 := hid hb1; clear hb1)
    | fail)
  all_goals go_ret
  all_goals exact ⟨rfl, HB1.out⟩

set_option maxRecDepth 100000 in
set_option maxHeartbeats 4000000 in
theorem object_none {b0 : Nat} {H : AHeap} {bs : List Nat} (v : Int) (hU : U v) (w : World) (hp : HS w b0 H bs) (hk : kk H v = 0) :
    Calls Tryz.prog 43 #[.pointer (some ⟨b0, 0, none⟩), .int .u64 v] w fun e w' => e = .returned (.string ⟨#[63]⟩) ∧ w' = w := by
  have HU := hid hU
  have HP := hid hp
  clear hU hp
  go_enter Tryz.func43, Tryz.ntmps43
  go_wp2_with (first
    | (go_at_call 14; refine (kind_hs4 _ HU.out _ HP.out).mono ?_; rintro e w' ⟨rfl, hw'⟩; subst w'; rw [hk])
    | fail)
  all_goals go_ret
  all_goals exact ⟨rfl, rfl⟩

set_option maxRecDepth 100000 in
set_option maxHeartbeats 4000000 in
theorem plain_none {b0 : Nat} {H : AHeap} {bs : List Nat} (v : Int) (hU : U v) (w : World) (hp : HS w b0 H bs) (hk0 : kk H v = 0) (hk : kd v = 2) :
    Calls Tryz.prog 23 #[.pointer (some ⟨b0, 0, none⟩), .int .u64 v] w fun e w' => e = .returned (.string (strOfNums (plL v))) ∧ w' = w := by
  have e : strOfNums (plL v) = ⟨#[63]⟩ := by unfold plL; rw [if_neg (by omega), if_neg (by omega), if_neg (by omega)]; rfl
  rw [e]
  have HU := hid hU
  have HO := hid (object_none v hU w hp hk0)
  clear hU hp e hk0
  go_enter Tryz.func23, Tryz.ntmps23
  go_wp2_with (first
    | (go_at_call 30; refine (kind_any _ HU.out _).mono ?_; rintro e w' ⟨rfl, hw'⟩; subst w'; rw [hk])
    | (go_at_call 43; refine HO.out.mono ?_; rintro e w' ⟨rfl, hw'⟩; subst w')
    | fail)
  all_goals go_ret
  all_goals exact ⟨rfl, rfl⟩

set_option maxRecDepth 100000 in
set_option maxHeartbeats 4000000 in
theorem plain_four (hv : Value) (v : Int) (hU : U v) (w : World) (hk : kd v = 4) :
    Calls Tryz.prog 23 #[hv, .int .u64 v] w fun e w' => e = .returned (.string (strOfNums (plL v))) ∧ w' = w := by
  have e : strOfNums (plL v) = ⟨#[63]⟩ := by unfold plL; rw [if_neg (by omega), if_neg (by omega), if_neg (by omega)]; rfl
  rw [e]
  have HU := hid hU
  clear hU e
  go_enter Tryz.func23, Tryz.ntmps23
  go_wp2_with (first
    | (go_at_call 30; refine (kind_any _ HU.out _).mono ?_; rintro e w' ⟨rfl, hw'⟩; subst w'; rw [hk])
    | fail)
  all_goals go_ret
  all_goals exact ⟨rfl, rfl⟩

/-- What any word that is no object looks like: the program's plain. -/
theorem plain_no {b0 : Nat} {H : AHeap} {bs : List Nat} (v : Int) (hU : U v) (w : World) (hp : HS w b0 H bs) (hk : kk H v = 0) (hw : Pw w) :
    Calls Tryz.prog 23 #[.pointer (some ⟨b0, 0, none⟩), .int .u64 v] w fun e w' => e = .returned (.string (strOfNums (plL v))) ∧ Bw w w' := by
  rcases kd_cases v with h | h | h | h | h
  · exact plain_int _ v hU w h hw
  · rw [← atomS_nums v h]
    exact (plain_atom _ v hU w h).mono (fun e w2 h => ⟨h.1, by rw [h.2]; exact Bw.refl _⟩)
  · exact (plain_none v hU w hp hk h).mono (fun e w2 h => ⟨h.1, by rw [h.2]; exact Bw.refl _⟩)
  · exact plain_prim _ v hU w h hw
  · exact (plain_four _ v hU w h).mono (fun e w2 h => ⟨h.1, by rw [h.2]; exact Bw.refl _⟩)

end Go.Proofs.YtgfdbhbkmjabcabGreatDoor
