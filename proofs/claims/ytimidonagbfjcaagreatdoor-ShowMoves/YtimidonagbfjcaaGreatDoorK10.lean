/- strconv.Itoa: its contract, laid at this program. · Numbers' digits, and what words that are no objects look like: the program's calls. · The library's table of powers of ten, out of the condition. -/
import Derived.Shelf.LaysM
import Derived.Shelf.Strconv.Itoa3
import Derived.Test.YtimidonagbfjcaaGreatDoorProg
import Derived.Test.YtimidonagbfjcaaGreatDoorK9
import Derived.Lib.LaidTab
import Derived.Laws.Concat
import Derived.Test.YtimidonagbfjcaaGreatDoorFr4k
set_option linter.unusedVariables false
namespace Go.Proofs.YtimidonagbfjcaaGreatDoor
open Go Go.Shelf
def shRen : Go.Shelf.Ren := ⟨fun | 171 => 61 | 243 => 70 | 246 => 78 | 283 => 87 | 284 => 88 | 285 => 89 | 286 => 90 | 129 => 99 | 317 => 98 | 318 => 100 | 319 => 101 | 320 => 102 | 337 => 108 | 338 => 109 | n => n, fun | 3 => 3 | 9 => 9 | 2 => 2 | 4 => 4 | 171 => 129 | 0 => 0 | 53 => 26 | 37 => 30 | 5 => 5 | 173 => 132 | 212 => 149 | 51 => 150 | 20 => 20 | 213 => 151 | 46 => 83 | 232 => 162 | 233 => 163 | n => n, fun | 17 => 0 | 18 => 1 | 19 => 2 | n => n⟩
theorem shLays : Go.Proofs.LaysM.n171 Tryz.prog shRen := {
  mixed := by kernel_rfl
  f129 := Tryz.func99.trans (congrArg some (by kernel_rfl))
  f171 := Tryz.func61.trans (congrArg some (by kernel_rfl))
  f243 := Tryz.func70.trans (congrArg some (by kernel_rfl))
  f246 := Tryz.func78.trans (congrArg some (by kernel_rfl))
  f283 := Tryz.func87.trans (congrArg some (by kernel_rfl))
  f284 := Tryz.func88.trans (congrArg some (by kernel_rfl))
  f285 := Tryz.func89.trans (congrArg some (by kernel_rfl))
  f286 := Tryz.func90.trans (congrArg some (by kernel_rfl))
  f317 := Tryz.func98.trans (congrArg some (by kernel_rfl))
  f318 := Tryz.func100.trans (congrArg some (by kernel_rfl))
  f319 := Tryz.func101.trans (congrArg some (by kernel_rfl))
  f320 := Tryz.func102.trans (congrArg some (by kernel_rfl))
  f337 := Tryz.func108.trans (congrArg some (by kernel_rfl))
  f338 := Tryz.func109.trans (congrArg some (by kernel_rfl))
  t0 := Tryz.underlying0
  a0 := Tryz.isAgg0
  z0 := Tryz.sizeOf0
  v0 := Tryz.zeroValue0
  t2 := Tryz.underlying2
  a2 := Tryz.isAgg2
  z2 := Tryz.sizeOf2
  v2 := Tryz.zeroValue2
  t3 := Tryz.underlying3
  a3 := Tryz.isAgg3
  z3 := Tryz.sizeOf3
  v3 := Tryz.zeroValue3
  t4 := Tryz.underlying4
  a4 := Tryz.isAgg4
  z4 := Tryz.sizeOf4
  v4 := Tryz.zeroValue4
  t5 := Tryz.underlying5
  a5 := Tryz.isAgg5
  z5 := Tryz.sizeOf5
  v5 := Tryz.zeroValue5
  t9 := Tryz.underlying9
  a9 := Tryz.isAgg9
  z9 := Tryz.sizeOf9
  v9 := Tryz.zeroValue9
  t20 := Tryz.underlying20
  a20 := Tryz.isAgg20
  z20 := Tryz.sizeOf20
  v20 := Tryz.zeroValue20
  t37 := Tryz.underlying30
  a37 := Tryz.isAgg30
  z37 := Tryz.sizeOf30
  v37 := Tryz.zeroValue30
  t46 := Tryz.underlying83
  a46 := Tryz.isAgg83
  z46 := Tryz.sizeOf83
  v46 := Tryz.zeroValue83
  t51 := Tryz.underlying150
  a51 := Tryz.isAgg150
  z51 := Tryz.sizeOf150
  v51 := Tryz.zeroValue150
  t53 := Tryz.underlying26
  a53 := Tryz.isAgg26
  z53 := Tryz.sizeOf26
  v53 := Tryz.zeroValue26
  t171 := Tryz.underlying129
  a171 := Tryz.isAgg129
  z171 := Tryz.sizeOf129
  v171 := Tryz.zeroValue129
  t173 := Tryz.underlying132
  a173 := Tryz.isAgg132
  z173 := Tryz.sizeOf132
  v173 := Tryz.zeroValue132
  t212 := Tryz.underlying149
  a212 := Tryz.isAgg149
  z212 := Tryz.sizeOf149
  v212 := Tryz.zeroValue149
  t213 := Tryz.underlying151
  a213 := Tryz.isAgg151
  z213 := Tryz.sizeOf151
  t232 := Tryz.underlying162
  a232 := Tryz.isAgg162
  z232 := Tryz.sizeOf162
  v232 := Tryz.zeroValue162
  t233 := Tryz.underlying163
  a233 := Tryz.isAgg163
  z233 := Tryz.sizeOf163
  v233 := Tryz.zeroValue163
  g17 := by kernel_rfl
  g18 := by kernel_rfl
  g19 := by kernel_rfl
  i0 := by kernel_rfl
  i2 := by kernel_rfl
  i3 := by kernel_rfl
  i4 := by kernel_rfl
  i5 := by kernel_rfl
  i9 := by kernel_rfl
  i20 := by kernel_rfl
  i37 := by kernel_rfl
  i46 := by kernel_rfl
  i51 := by kernel_rfl
  i53 := by kernel_rfl
  i171 := by kernel_rfl
  i173 := by kernel_rfl
  i212 := by kernel_rfl
  i232 := by kernel_rfl
  i233 := by kernel_rfl
  m17 := by kernel_rfl
  m18 := by kernel_rfl
  m19 := by kernel_rfl }
theorem shItoa (n : Int) (h0 : -9223372036854775808 ≤ n) (h1 : n ≤ 9223372036854775807) (w : World) (htab : Lib.TabIs Tryz.prog w "internal/strconv.uint64pow10" .u64 Lib.pow10Tab) :
    Calls Tryz.prog 61 #[.int .i64 n] w fun e w' => e = .returned (.string ⟨(Lib.itoa n).toArray⟩) ∧ ∃ k os, w' = Go.Sort.grow (w.drewN k) os := Any.strconv_Itoa shLays n h0 h1 w htab
end Go.Proofs.YtimidonagbfjcaaGreatDoor

set_option linter.unusedSimpArgs false
set_option linter.unusedVariables false
namespace Go.Proofs.YtimidonagbfjcaaGreatDoor
open Go Go.RowKit

/-- The library's table of powers of ten lies there. -/
abbrev Pw (w : World) : Prop := Lib.TabIs Tryz.prog w "internal/strconv.uint64pow10" .u64 Lib.pow10Tab

theorem Pw.bw {w w' : World} (h : Pw w) (hb : Bw w w') : Pw w' := by
  unfold Pw Lib.TabIs World.var? at h ⊢
  cases hg : Tryz.prog.globalNamed "internal/strconv.uint64pow10" with
  | none => rw [hg] at h; cases h
  | some g =>
    rw [hg] at h
    simp only [Option.bind_some] at h ⊢
    have hlt : g < w.heap.size := by
      rcases Nat.lt_or_ge g w.heap.size with h' | h'
      · exact h'
      · rw [Array.getElem?_eq_none h'] at h; cases h
    rw [hb.block g hlt]
    exact h

/-- A number's digits, as bytes. -/
def itoaL (n : Int) : List Int := (Lib.itoa n).map fun u => (u.toNat : Int)

theorem strOf_bytes (l : List UInt8) : strOfNums (l.map fun u => (u.toNat : Int)) = ⟨l.toArray⟩ := by
  simp [strOfNums, List.map_map, Function.comp_def]

theorem itoa_str (n : Int) : strOfNums (itoaL n) = ⟨(Lib.itoa n).toArray⟩ := strOf_bytes _

theorem itoaL_byte (n : Int) : ∀ c ∈ itoaL n, 0 ≤ c ∧ c ≤ 255 := by
  intro c hc
  obtain ⟨u, _, rfl⟩ := List.mem_map.1 hc
  have := u.toNat_lt
  omega

theorem decDigits_len : ∀ (k u : Nat), u < 10 ^ (k + 1) → (Lib.decDigits u).length ≤ k + 1
  | 0, u, h => by rw [Lib.decDigits, dif_pos (by simpa using h)]; simp
  | k + 1, u, h => by
    rw [Lib.decDigits]
    by_cases h10 : u < 10
    · rw [dif_pos h10]; simp
    · rw [dif_neg h10]
      have := decDigits_len k (u / 10) (by rw [Nat.pow_succ] at h; omega)
      simp; omega

theorem itoaL_len (n : Int) (h0 : -9223372036854775808 ≤ n) (h1 : n ≤ 9223372036854775807) : (itoaL n).length ≤ 21 := by
  unfold itoaL Lib.itoa
  rw [List.length_map]
  split
  · have := decDigits_len 19 n.natAbs (by omega)
    simp; omega
  · have := decDigits_len 19 n.toNat (by omega)
    omega

theorem itoa_any (n : Int) (h0 : -9223372036854775808 ≤ n) (h1 : n ≤ 9223372036854775807) (w : World) (hp : Pw w) :
    Calls Tryz.prog 61 #[.int .i64 n] w fun e w' => e = .returned (.string (strOfNums (itoaL n))) ∧ Bw w w' := by
  refine (shItoa n h0 h1 w hp).mono ?_
  rintro e w' ⟨he, k, os, hw⟩
  rw [itoa_str]
  refine ⟨he, ?_⟩
  rw [hw]
  exact ⟨rfl, rfl, rfl, by simp [Go.Sort.grow], fun b hb => by
    show (w.heap ++ os)[b]? = _
    rw [Array.getElem?_append_left hb]⟩

set_option maxHeartbeats 400000 in
theorem tnum_yes (v : Int) (hv : U v) (hn : kd v = 0) (w : World) :
    Calls Tryz.prog 63 #[.int .u64 v] w fun e w' => e = .returned (.tuple #[.int .i64 (nm v), .bool true]) ∧ w' = w := by
  have hk : (kd v != 0) = false := by simp [hn]
  go_enter Tryz.func63, Tryz.ntmps63
  go_wp2_with (go_at_call 56; refine (kind_any _ hv _).mono ?_; rintro e w' ⟨rfl, rfl⟩)
  go_ret2
  exact ⟨ret_ib (nm_of v) rfl, rfl⟩

/-- What a word that is no object looks like, as bytes. -/
def plL (v : Int) : List Int :=
  if kd v = 0 then itoaL (nm v) else if kd v = 1 then (if v = 5 then [102, 97, 108, 115, 101] else if v = 9 then [116, 114, 117, 101] else [110, 105, 108])
  else if kd v = 3 then [112, 114, 105, 109, 58] ++ itoaL (idxV v) else [63]

theorem kd_cases (v : Int) : kd v = 0 ∨ kd v = 1 ∨ kd v = 2 ∨ kd v = 3 ∨ kd v = 4 := by
  unfold kd; repeat' split
  all_goals omega

theorem idx_top (v : Int) (hU : U v) : 0 ≤ idxV v ∧ idxV v ≤ 4611686018427387904 := by
  unfold U at hU; unfold idxV; split <;> omega

theorem plL_byte (v : Int) : ∀ c ∈ plL v, 0 ≤ c ∧ c ≤ 255 := by
  unfold plL
  repeat' split
  · exact itoaL_byte _
  · decide
  · decide
  · decide
  · intro c hc
    rcases List.mem_append.1 hc with h | h
    · have hd : ∀ c ∈ ([112, 114, 105, 109, 58] : List Int), 0 ≤ c ∧ c ≤ 255 := by decide
      exact hd c h
    · exact itoaL_byte _ c h
  · decide

theorem plL_len (v : Int) (hU : U v) : (plL v).length ≤ 30 := by
  unfold plL
  have h1 := itoaL_len (nm v) (by have := nm_bd v; omega) (by have := nm_bd v; omega)
  have h2 := itoaL_len (idxV v) (by have := idx_top v hU; omega) (by have := idx_top v hU; omega)
  repeat' split
  all_goals first | (simp; omega) | simp | omega

theorem strOf_app4 (a b : List Int) : strOfNums a ++ strOfNums b = strOfNums (a ++ b) := by
  apply str_inj
  simp [strOfNums, ByteArray.toList_eq]

theorem strCells_nums (l : List Int) (h : ∀ c ∈ l, 0 ≤ c ∧ c ≤ 255) : Lib.strCells (strOfNums l) = l.map (Value.int .u8) := by
  unfold Lib.strCells strOfNums
  simp only [List.map_map]
  apply List.map_congr_left
  intro c hc
  have := h c hc
  simp only [Function.comp]
  congr 1
  rw [UInt8.toNat_ofNat_of_lt' (by show c.toNat < 256; omega)]
  omega

theorem atomS_nums (v : Int) (hk : kd v = 1) : atomS v = strOfNums (plL v) := by
  have e : plL v = if v = 5 then [102, 97, 108, 115, 101] else if v = 9 then [116, 114, 117, 101] else [110, 105, 108] := by
    unfold plL
    rw [if_neg (by omega), if_pos hk]
  rw [e]
  unfold atomS
  by_cases h5 : v = 5
  · rw [if_pos h5, if_pos h5]; rfl
  · rw [if_neg h5, if_neg h5]
    by_cases h9 : v = 9
    · rw [if_pos h9, if_pos h9]; rfl
    · rw [if_neg h9, if_neg h9]; rfl

set_option maxRecDepth 100000 in
set_option maxHeartbeats 4000000 in
theorem plain_int (hv : Value) (v : Int) (hU : U v) (w : World) (hk : kd v = 0) (hp : Pw w) :
    Calls Tryz.prog 47 #[hv, .int .u64 v] w fun e w' => e = .returned (.string (strOfNums (plL v))) ∧ Bw w w' := by
  have e : plL v = itoaL (nm v) := by unfold plL; rw [if_pos hk]
  rw [e]
  have HU := hid hU
  have HP := hid hp
  have HK := hid hk
  have HN := hid (nm_bd v)
  generalize hs : strOfNums (itoaL (nm v)) = s
  have HI : Hid (Calls Tryz.prog 61 #[.int .i64 (nm v)] w fun e w' => e = .returned (.string s) ∧ Bw w w') := by
    rw [← hs]
    exact itoa_any (nm v) (by have := HN.out; omega) (by have := HN.out; omega) w HP.out
  clear hU hp e hs
  go_enter Tryz.func47, Tryz.ntmps47
  go_wp2_with (first
    | (go_at_call 56; refine (kind_any _ HU.out _).mono ?_; rintro e w' ⟨rfl, hw'⟩; subst w'; rw [hk])
    | (go_at_call 63; refine (tnum_yes _ HU.out HK.out _).mono ?_; rintro e w' ⟨rfl, hw'⟩; subst w')
    | (go_at_call 61; refine HI.out.mono ?_; rintro e w1 ⟨rfl, hb1⟩; have HB1 := hid hb1; clear hb1)
    | fail)
  all_goals go_ret
  all_goals exact ⟨rfl, HB1.out⟩

set_option maxRecDepth 100000 in
set_option maxHeartbeats 4000000 in
theorem plain_prim (hv : Value) (v : Int) (hU : U v) (w : World) (hk : kd v = 3) (hp : Pw w) :
    Calls Tryz.prog 47 #[hv, .int .u64 v] w fun e w' => e = .returned (.string (strOfNums (plL v))) ∧ Bw w w' := by
  have e : plL v = [112, 114, 105, 109, 58] ++ itoaL (idxV v) := by unfold plL; rw [if_neg (by omega), if_neg (by omega), if_pos hk]
  have hl := itoaL_len (idxV v) (by have := idx_top v hU; omega) (by have := idx_top v hU; omega)
  rw [e, ← strOf_app4]
  have HU := hid hU
  have HX := hid (idx_top v hU)
  have HI : Hid (Calls Tryz.prog 61 #[.int .i64 (idxV v)] w fun e w' => e = .returned (.string (strOfNums (itoaL (idxV v)))) ∧ Bw w w') :=
    hid (itoa_any (idxV v) (by have := HX.out; omega) (by have := HX.out; omega) w hp)
  have hz : (strOfNums (itoaL (idxV v))).size ≤ 21 := by rw [strOfNums_size]; exact hl
  generalize strOfNums (itoaL (idxV v)) = s at HI hz ⊢
  generalize hpe : (strOfNums [112, 114, 105, 109, 58] ++ s : ByteArray) = p
  have hadd : ∀ w, (Op.stringOp .add ⟨#[112, 114, 105, 109, 58]⟩ s).run Tryz.prog w = .ok (.string p) w := fun w => by
    rw [← hpe]
    exact run_string_add_sum (P := Tryz.prog) w ⟨#[112, 114, 105, 109, 58]⟩ s (by show 5 + s.size ≤ _; omega)
  have hpe' : (⟨#[112, 114, 105, 109, 58]⟩ ++ s : ByteArray) = p := hpe
  have hno : ¬ (9223372036854775807 < 5 + s.size) := by omega
  clear hU hp e hl hz hpe
  go_enter Tryz.func47, Tryz.ntmps47
  go_wp2_with (first
    | (go_at_call 56; refine (kind_any _ HU.out _).mono ?_; rintro e w' ⟨rfl, hw'⟩; subst w'; rw [hk])
    | (go_at_call 55; refine (index_any _ HU.out _).mono ?_; rintro e w' ⟨rfl, hw'⟩; subst w')
    | (go_at_call 61; refine HI.out.mono ?_; rintro e w1 ⟨rfl, hb1⟩; have HB1 := hid hb1; clear hb1)
    | fail)
  all_goals go_ret
  all_goals exact ⟨rfl, HB1.out⟩

set_option maxRecDepth 100000 in
set_option maxHeartbeats 4000000 in
theorem object_none {b0 : Nat} {H : AHeap} {bs : List Nat} (v : Int) (hU : U v) (w : World) (hp : HS w b0 H bs) (hk : kk H v = 0) :
    Calls Tryz.prog 65 #[.pointer (some ⟨b0, 0, none⟩), .int .u64 v] w fun e w' => e = .returned (.string ⟨#[63]⟩) ∧ w' = w := by
  have HU := hid hU
  have HP := hid hp
  clear hU hp
  go_enter Tryz.func65, Tryz.ntmps65
  go_wp2_with (first
    | (go_at_call 31; refine (kind_hs4 _ HU.out _ HP.out).mono ?_; rintro e w' ⟨rfl, hw'⟩; subst w'; rw [hk])
    | fail)
  all_goals go_ret
  all_goals exact ⟨rfl, rfl⟩

set_option maxRecDepth 100000 in
set_option maxHeartbeats 4000000 in
theorem plain_none {b0 : Nat} {H : AHeap} {bs : List Nat} (v : Int) (hU : U v) (w : World) (hp : HS w b0 H bs) (hk0 : kk H v = 0) (hk : kd v = 2) :
    Calls Tryz.prog 47 #[.pointer (some ⟨b0, 0, none⟩), .int .u64 v] w fun e w' => e = .returned (.string (strOfNums (plL v))) ∧ w' = w := by
  have e : strOfNums (plL v) = ⟨#[63]⟩ := by unfold plL; rw [if_neg (by omega), if_neg (by omega), if_neg (by omega)]; rfl
  rw [e]
  have HU := hid hU
  have HO := hid (object_none v hU w hp hk0)
  clear hU hp e hk0
  go_enter Tryz.func47, Tryz.ntmps47
  go_wp2_with (first
    | (go_at_call 56; refine (kind_any _ HU.out _).mono ?_; rintro e w' ⟨rfl, hw'⟩; subst w'; rw [hk])
    | (go_at_call 65; refine HO.out.mono ?_; rintro e w' ⟨rfl, hw'⟩; subst w')
    | fail)
  all_goals go_ret
  all_goals exact ⟨rfl, rfl⟩

set_option maxRecDepth 100000 in
set_option maxHeartbeats 4000000 in
theorem plain_four (hv : Value) (v : Int) (hU : U v) (w : World) (hk : kd v = 4) :
    Calls Tryz.prog 47 #[hv, .int .u64 v] w fun e w' => e = .returned (.string (strOfNums (plL v))) ∧ w' = w := by
  have e : strOfNums (plL v) = ⟨#[63]⟩ := by unfold plL; rw [if_neg (by omega), if_neg (by omega), if_neg (by omega)]; rfl
  rw [e]
  have HU := hid hU
  clear hU e
  go_enter Tryz.func47, Tryz.ntmps47
  go_wp2_with (first
    | (go_at_call 56; refine (kind_any _ HU.out _).mono ?_; rintro e w' ⟨rfl, hw'⟩; subst w'; rw [hk])
    | fail)
  all_goals go_ret
  all_goals exact ⟨rfl, rfl⟩

/-- What any word that is no object looks like: the program's plain. -/
theorem plain_no {b0 : Nat} {H : AHeap} {bs : List Nat} (v : Int) (hU : U v) (w : World) (hp : HS w b0 H bs) (hk : kk H v = 0) (hw : Pw w) :
    Calls Tryz.prog 47 #[.pointer (some ⟨b0, 0, none⟩), .int .u64 v] w fun e w' => e = .returned (.string (strOfNums (plL v))) ∧ Bw w w' := by
  rcases kd_cases v with h | h | h | h | h
  · exact plain_int _ v hU w h hw
  · rw [← atomS_nums v h]
    exact (plain_atom _ v hU w h).mono (fun e w2 h => ⟨h.1, by rw [h.2]; exact Bw.refl _⟩)
  · exact (plain_none v hU w hp hk h).mono (fun e w2 h => ⟨h.1, by rw [h.2]; exact Bw.refl _⟩)
  · exact plain_prim _ v hU w h hw
  · exact (plain_four _ v hU w h).mono (fun e w2 h => ⟨h.1, by rw [h.2]; exact Bw.refl _⟩)

end Go.Proofs.YtimidonagbfjcaaGreatDoor

set_option linter.unusedVariables false
set_option linter.unusedSimpArgs false
namespace Go.Proofs.YtimidonagbfjcaaGreatDoor
open Go.ChangeShapes Go.WideShapes Go.ChangeAt Go.RowKit

theorem pow_datum : (Rows.laid_internal_strconv_uint64pow10 : DataW Unit) = Lib.tabData .u64 Lib.pow10Tab := by rfl

theorem pw_of_laid {W : World} (h : laidMetH Tryz.prog laidS W) : Pw W := by
  rw [MakeChecks.laidMetH_plain _ _ _ (by kernel_rfl)] at h
  obtain ⟨ps, ⟨g0, t0, c0, f0, p0, q0, _, _, _, _, r0, e0⟩, _⟩ := h
  obtain ⟨g1, t1, c1, f1, p1, q1, _, _, _, _, r1, e1⟩ := r0
  obtain ⟨g2, t2, c2, f2, p2, q2, hg2, ht2, hv2, hd2, _, _⟩ := r1
  rw [pow_datum] at hd2
  have hty : (Tryz.prog.globalNamed "internal/strconv.uint64pow10").bind (fun g => (Tryz.prog.globals[g]?).map (·.type)) = some 149 := by kernel_rfl
  rw [hg2] at hty
  obtain rfl := Option.some.inj (hty.symm.trans ht2)
  unfold Pw Lib.TabIs
  rw [hv2, ← Lib.cells_of_tab (n := 20) (e := 26) (by kernel_rfl) (by kernel_rfl) (by kernel_rfl) (by kernel_rfl) hd2]

end Go.Proofs.YtimidonagbfjcaaGreatDoor

