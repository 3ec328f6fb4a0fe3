/- strconv.Itoa: its contract, laid at this program. · Numbers' digits, and what words that are no objects look like: the program's calls. · Hexadecimal digits: the library's FormatUint at base 16, and the program's 16 digits. -/
import Derived.Shelf.LaysM
import Derived.Shelf.Strconv.Itoa3
import Derived.Test.YtlhgdknmgdohkaaGreatDoorProg
import Derived.Test.YtlhgdknmgdohkaaGreatDoorK8
import Derived.Lib.LaidTab
import Derived.Laws.Concat
set_option linter.unusedVariables false
namespace Go.Proofs.YtlhgdknmgdohkaaGreatDoor
open Go Go.Shelf
def shRen : Go.Shelf.Ren := ⟨fun | 171 => 83 | 243 => 99 | 246 => 109 | 283 => 125 | 284 => 126 | 285 => 127 | 286 => 128 | 129 => 124 | 317 => 142 | 318 => 143 | 319 => 144 | 320 => 145 | 337 => 152 | 338 => 153 | n => n, fun | 3 => 3 | 9 => 9 | 2 => 2 | 4 => 4 | 171 => 170 | 0 => 0 | 53 => 26 | 37 => 44 | 5 => 5 | 173 => 172 | 212 => 193 | 51 => 168 | 20 => 20 | 213 => 194 | 46 => 102 | 232 => 206 | 233 => 207 | n => n, fun | 17 => 0 | 18 => 1 | 19 => 2 | n => n⟩
theorem shLays : Go.Proofs.LaysM.n171 Tryz.prog shRen := {
  mixed := by kernel_rfl
  f129 := Tryz.func124.trans (congrArg some (by kernel_rfl))
  f171 := Tryz.func83.trans (congrArg some (by kernel_rfl))
  f243 := Tryz.func99.trans (congrArg some (by kernel_rfl))
  f246 := Tryz.func109.trans (congrArg some (by kernel_rfl))
  f283 := Tryz.func125.trans (congrArg some (by kernel_rfl))
  f284 := Tryz.func126.trans (congrArg some (by kernel_rfl))
  f285 := Tryz.func127.trans (congrArg some (by kernel_rfl))
  f286 := Tryz.func128.trans (congrArg some (by kernel_rfl))
  f317 := Tryz.func142.trans (congrArg some (by kernel_rfl))
  f318 := Tryz.func143.trans (congrArg some (by kernel_rfl))
  f319 := Tryz.func144.trans (congrArg some (by kernel_rfl))
  f320 := Tryz.func145.trans (congrArg some (by kernel_rfl))
  f337 := Tryz.func152.trans (congrArg some (by kernel_rfl))
  f338 := Tryz.func153.trans (congrArg some (by kernel_rfl))
  t0 := Tryz.underlying0
  a0 := Tryz.isAgg0
  z0 := Tryz.sizeOf0
  v0 := Tryz.zeroValue0
  t2 := Tryz.underlying2
  a2 := Tryz.isAgg2
  z2 := Tryz.sizeOf2
  v2 := Tryz.zeroValue2
  t3 := Tryz.underlying3
  a3 := Tryz.isAgg3
  z3 := Tryz.sizeOf3
  v3 := Tryz.zeroValue3
  t4 := Tryz.underlying4
  a4 := Tryz.isAgg4
  z4 := Tryz.sizeOf4
  v4 := Tryz.zeroValue4
  t5 := Tryz.underlying5
  a5 := Tryz.isAgg5
  z5 := Tryz.sizeOf5
  v5 := Tryz.zeroValue5
  t9 := Tryz.underlying9
  a9 := Tryz.isAgg9
  z9 := Tryz.sizeOf9
  v9 := Tryz.zeroValue9
  t20 := Tryz.underlying20
  a20 := Tryz.isAgg20
  z20 := Tryz.sizeOf20
  v20 := Tryz.zeroValue20
  t37 := Tryz.underlying44
  a37 := Tryz.isAgg44
  z37 := Tryz.sizeOf44
  v37 := Tryz.zeroValue44
  t46 := Tryz.underlying102
  a46 := Tryz.isAgg102
  z46 := Tryz.sizeOf102
  v46 := Tryz.zeroValue102
  t51 := Tryz.underlying168
  a51 := Tryz.isAgg168
  z51 := Tryz.sizeOf168
  v51 := Tryz.zeroValue168
  t53 := Tryz.underlying26
  a53 := Tryz.isAgg26
  z53 := Tryz.sizeOf26
  v53 := Tryz.zeroValue26
  t171 := Tryz.underlying170
  a171 := Tryz.isAgg170
  z171 := Tryz.sizeOf170
  v171 := Tryz.zeroValue170
  t173 := Tryz.underlying172
  a173 := Tryz.isAgg172
  z173 := Tryz.sizeOf172
  v173 := Tryz.zeroValue172
  t212 := Tryz.underlying193
  a212 := Tryz.isAgg193
  z212 := Tryz.sizeOf193
  v212 := Tryz.zeroValue193
  t213 := Tryz.underlying194
  a213 := Tryz.isAgg194
  z213 := Tryz.sizeOf194
  t232 := Tryz.underlying206
  a232 := Tryz.isAgg206
  z232 := Tryz.sizeOf206
  v232 := Tryz.zeroValue206
  t233 := Tryz.underlying207
  a233 := Tryz.isAgg207
  z233 := Tryz.sizeOf207
  v233 := Tryz.zeroValue207
  g17 := by kernel_rfl
  g18 := by kernel_rfl
  g19 := by kernel_rfl
  i0 := by kernel_rfl
  i2 := by kernel_rfl
  i3 := by kernel_rfl
  i4 := by kernel_rfl
  i5 := by kernel_rfl
  i9 := by kernel_rfl
  i20 := by kernel_rfl
  i37 := by kernel_rfl
  i46 := by kernel_rfl
  i51 := by kernel_rfl
  i53 := by kernel_rfl
  i171 := by kernel_rfl
  i173 := by kernel_rfl
  i212 := by kernel_rfl
  i232 := by kernel_rfl
  i233 := by kernel_rfl
  m17 := by kernel_rfl
  m18 := by kernel_rfl
  m19 := by kernel_rfl }
theorem shItoa (n : Int) (h0 : -9223372036854775808 ≤ n) (h1 : n ≤ 9223372036854775807) (w : World) (htab : Lib.TabIs Tryz.prog w "internal/strconv.uint64pow10" .u64 Lib.pow10Tab) :
    Calls Tryz.prog 83 #[.int .i64 n] w fun e w' => e = .returned (.string ⟨(Lib.itoa n).toArray⟩) ∧ ∃ k os, w' = Go.Sort.grow (w.drewN k) os := Any.strconv_Itoa shLays n h0 h1 w htab
end Go.Proofs.YtlhgdknmgdohkaaGreatDoor

set_option linter.unusedSimpArgs false
set_option linter.unusedVariables false
namespace Go.Proofs.YtlhgdknmgdohkaaGreatDoor
open Go Go.RowKit

/-- The library's table of powers of ten lies there. -/
abbrev Pw (w : World) : Prop := Lib.TabIs Tryz.prog w "internal/strconv.uint64pow10" .u64 Lib.pow10Tab

theorem Pw.bw {w w' : World} (h : Pw w) (hb : Bw w w') : Pw w' := by
  unfold Pw Lib.TabIs World.var? at h ⊢
  cases hg : Tryz.prog.globalNamed "internal/strconv.uint64pow10" with
  | none => rw [hg] at h; cases h
  | some g =>
    rw [hg] at h
    simp only [Option.bind_some] at h ⊢
    have hlt : g < w.heap.size := by
      rcases Nat.lt_or_ge g w.heap.size with h' | h'
      · exact h'
      · rw [Array.getElem?_eq_none h'] at h; cases h
    rw [hb.block g hlt]
    exact h

/-- A number's digits, as bytes. -/
def itoaL (n : Int) : List Int := (Lib.itoa n).map fun u => (u.toNat : Int)

theorem strOf_bytes (l : List UInt8) : strOfNums (l.map fun u => (u.toNat : Int)) = ⟨l.toArray⟩ := by
  simp [strOfNums, List.map_map, Function.comp_def]

theorem itoa_str (n : Int) : strOfNums (itoaL n) = ⟨(Lib.itoa n).toArray⟩ := strOf_bytes _

theorem itoaL_byte (n : Int) : ∀ c ∈ itoaL n, 0 ≤ c ∧ c ≤ 255 := by
  intro c hc
  obtain ⟨u, _, rfl⟩ := List.mem_map.1 hc
  have := u.toNat_lt
  omega

theorem decDigits_len : ∀ (k u : Nat), u < 10 ^ (k + 1) → (Lib.decDigits u).length ≤ k + 1
  | 0, u, h => by rw [Lib.decDigits, dif_pos (by simpa using h)]; simp
  | k + 1, u, h => by
    rw [Lib.decDigits]
    by_cases h10 : u < 10
    · rw [dif_pos h10]; simp
    · rw [dif_neg h10]
      have := decDigits_len k (u / 10) (by rw [Nat.pow_succ] at h; omega)
      simp; omega

theorem itoaL_len (n : Int) (h0 : -9223372036854775808 ≤ n) (h1 : n ≤ 9223372036854775807) : (itoaL n).length ≤ 21 := by
  unfold itoaL Lib.itoa
  rw [List.length_map]
  split
  · have := decDigits_len 19 n.natAbs (by omega)
    simp; omega
  · have := decDigits_len 19 n.toNat (by omega)
    omega

theorem itoa_any (n : Int) (h0 : -9223372036854775808 ≤ n) (h1 : n ≤ 9223372036854775807) (w : World) (hp : Pw w) :
    Calls Tryz.prog 83 #[.int .i64 n] w fun e w' => e = .returned (.string (strOfNums (itoaL n))) ∧ Bw w w' := by
  refine (shItoa n h0 h1 w hp).mono ?_
  rintro e w' ⟨he, k, os, hw⟩
  rw [itoa_str]
  refine ⟨he, ?_⟩
  rw [hw]
  exact ⟨rfl, rfl, rfl, by simp [Go.Sort.grow], fun b hb => by
    show (w.heap ++ os)[b]? = _
    rw [Array.getElem?_append_left hb]⟩

set_option maxHeartbeats 400000 in
theorem tnum_yes (v : Int) (hv : U v) (hn : kd v = 0) (w : World) :
    Calls Tryz.prog 85 #[.int .u64 v] w fun e w' => e = .returned (.tuple #[.int .i64 (nm v), .bool true]) ∧ w' = w := by
  have hk : (kd v != 0) = false := by simp [hn]
  go_enter Tryz.func85, Tryz.ntmps85
  go_wp2_with (go_at_call 60; refine (kind_any _ hv _).mono ?_; rintro e w' ⟨rfl, rfl⟩)
  go_ret2
  exact ⟨ret_ib (nm_of v) rfl, rfl⟩

/-- What a word that is no object looks like, as bytes. -/
def plL (v : Int) : List Int :=
  if kd v = 0 then itoaL (nm v) else if kd v = 1 then (if v = 5 then [102, 97, 108, 115, 101] else if v = 9 then [116, 114, 117, 101] else [110, 105, 108])
  else if kd v = 3 then [112, 114, 105, 109, 58] ++ itoaL (idxV v) else [63]

theorem kd_cases (v : Int) : kd v = 0 ∨ kd v = 1 ∨ kd v = 2 ∨ kd v = 3 ∨ kd v = 4 := by
  unfold kd; repeat' split
  all_goals omega

theorem idx_top (v : Int) (hU : U v) : 0 ≤ idxV v ∧ idxV v ≤ 4611686018427387904 := by
  unfold U at hU; unfold idxV; split <;> omega

theorem plL_byte (v : Int) : ∀ c ∈ plL v, 0 ≤ c ∧ c ≤ 255 := by
  unfold plL
  repeat' split
  · exact itoaL_byte _
  · decide
  · decide
  · decide
  · intro c hc
    rcases List.mem_append.1 hc with h | h
    · have hd : ∀ c ∈ ([112, 114, 105, 109, 58] : List Int), 0 ≤ c ∧ c ≤ 255 := by decide
      exact hd c h
    · exact itoaL_byte _ c h
  · decide

theorem plL_len (v : Int) (hU : U v) : (plL v).length ≤ 30 := by
  unfold plL
  have h1 := itoaL_len (nm v) (by have := nm_bd v; omega) (by have := nm_bd v; omega)
  have h2 := itoaL_len (idxV v) (by have := idx_top v hU; omega) (by have := idx_top v hU; omega)
  repeat' split
  all_goals first | (simp; omega) | simp | omega

theorem strOf_app4 (a b : List Int) : strOfNums a ++ strOfNums b = strOfNums (a ++ b) := by
  apply str_inj
  simp [strOfNums, ByteArray.toList_eq]

theorem strCells_nums (l : List Int) (h : ∀ c ∈ l, 0 ≤ c ∧ c ≤ 255) : Lib.strCells (strOfNums l) = l.map (Value.int .u8) := by
  unfold Lib.strCells strOfNums
  simp only [List.map_map]
  apply List.map_congr_left
  intro c hc
  have := h c hc
  simp only [Function.comp]
  congr 1
  rw [UInt8.toNat_ofNat_of_lt' (by show c.toNat < 256; omega)]
  omega

theorem atomS_nums (v : Int) (hk : kd v = 1) : atomS v = strOfNums (plL v) := by
  have e : plL v = if v = 5 then [102, 97, 108, 115, 101] else if v = 9 then [116, 114, 117, 101] else [110, 105, 108] := by
    unfold plL
    rw [if_neg (by omega), if_pos hk]
  rw [e]
  unfold atomS
  by_cases h5 : v = 5
  · rw [if_pos h5, if_pos h5]; rfl
  · rw [if_neg h5, if_neg h5]
    by_cases h9 : v = 9
    · rw [if_pos h9, if_pos h9]; rfl
    · rw [if_neg h9, if_neg h9]; rfl

set_option maxRecDepth 100000 in
set_option maxHeartbeats 4000000 in
theorem plain_int (hv : Value) (v : Int) (hU : U v) (w : World) (hk : kd v = 0) (hp : Pw w) :
    Calls Tryz.prog 67 #[hv, .int .u64 v] w fun e w' => e = .returned (.string (strOfNums (plL v))) ∧ Bw w w' := by
  have e : plL v = itoaL (nm v) := by unfold plL; rw [if_pos hk]
  rw [e]
  have HU := hid hU
  have HP := hid hp
  have HK := hid hk
  have HN := hid (nm_bd v)
  generalize hs : strOfNums (itoaL (nm v)) = s
  have HI : Hid (Calls Tryz.prog 83 #[.int .i64 (nm v)] w fun e w' => e = .returned (.string s) ∧ Bw w w') := by
    rw [← hs]
    exact itoa_any (nm v) (by have := HN.out; omega) (by have := HN.out; omega) w HP.out
  clear hU hp e hs
  go_enter Tryz.func67, Tryz.ntmps67
  go_wp2_with (first
    | (go_at_call 60; refine (kind_any _ HU.out _).mono ?_; rintro e w' ⟨rfl, hw'⟩; subst w'; rw [hk])
    | (go_at_call 85; refine (tnum_yes _ HU.out HK.out _).mono ?_; rintro e w' ⟨rfl, hw'⟩; subst w')
    | (go_at_call 83; refine HI.out.mono ?_; rintro e w1 ⟨rfl, hb1⟩; have HB1 := hid hb1; clear hb1)
    | fail)
  all_goals go_ret
  all_goals exact ⟨rfl, HB1.out⟩

set_option maxRecDepth 100000 in
set_option maxHeartbeats 4000000 in
theorem plain_prim (hv : Value) (v : Int) (hU : U v) (w : World) (hk : kd v = 3) (hp : Pw w) :
    Calls Tryz.prog 67 #[hv, .int .u64 v] w fun e w' => e = .returned (.string (strOfNums (plL v))) ∧ Bw w w' := by
  have e : plL v = [112, 114, 105, 109, 58] ++ itoaL (idxV v) := by unfold plL; rw [if_neg (by omega), if_neg (by omega), if_pos hk]
  have hl := itoaL_len (idxV v) (by have := idx_top v hU; omega) (by have := idx_top v hU; omega)
  rw [e, ← strOf_app4]
  have HU := hid hU
  have HX := hid (idx_top v hU)
  have HI : Hid (Calls Tryz.prog 83 #[.int .i64 (idxV v)] w fun e w' => e = .returned (.string (strOfNums (itoaL (idxV v)))) ∧ Bw w w') :=
    hid (itoa_any (idxV v) (by have := HX.out; omega) (by have := HX.out; omega) w hp)
  have hz : (strOfNums (itoaL (idxV v))).size ≤ 21 := by rw [strOfNums_size]; exact hl
  generalize strOfNums (itoaL (idxV v)) = s at HI hz ⊢
  generalize hpe : (strOfNums [112, 114, 105, 109, 58] ++ s : ByteArray) = p
  have hadd : ∀ w, (Op.stringOp .add ⟨#[112, 114, 105, 109, 58]⟩ s).run Tryz.prog w = .ok (.string p) w := fun w => by
    rw [← hpe]
    exact run_string_add_sum (P := Tryz.prog) w ⟨#[112, 114, 105, 109, 58]⟩ s (by show 5 + s.size ≤ _; omega)
  have hpe' : (⟨#[112, 114, 105, 109, 58]⟩ ++ s : ByteArray) = p := hpe
  have hno : ¬ (9223372036854775807 < 5 + s.size) := by omega
  clear hU hp e hl hz hpe
  go_enter Tryz.func67, Tryz.ntmps67
  go_wp2_with (first
    | (go_at_call 60; refine (kind_any _ HU.out _).mono ?_; rintro e w' ⟨rfl, hw'⟩; subst w'; rw [hk])
    | (go_at_call 61; refine (index_any _ HU.out _).mono ?_; rintro e w' ⟨rfl, hw'⟩; subst w')
    | (go_at_call 83; refine HI.out.mono ?_; rintro e w1 ⟨rfl, hb1⟩; have HB1 := hid hb1; clear hb1)
    | fail)
  all_goals go_ret
  all_goals exact ⟨rfl, HB1.out⟩

set_option maxRecDepth 100000 in
set_option maxHeartbeats 4000000 in
theorem object_none {b0 : Nat} {H : AHeap} {bs : List Nat} (v : Int) (hU : U v) (w : World) (hp : HS w b0 H bs) (hk : kk H v = 0) :
    Calls Tryz.prog 87 #[.pointer (some ⟨b0, 0, none⟩), .int .u64 v] w fun e w' => e = .returned (.string ⟨#[63]⟩) ∧ w' = w := by
  have HU := hid hU
  have HP := hid hp
  clear hU hp
  go_enter Tryz.func87, Tryz.ntmps87
  go_wp2_with (first
    | (go_at_call 33; refine (kind_hs4 _ HU.out _ HP.out).mono ?_; rintro e w' ⟨rfl, hw'⟩; subst w'; rw [hk])
    | fail)
  all_goals go_ret
  all_goals exact ⟨rfl, rfl⟩

set_option maxRecDepth 100000 in
set_option maxHeartbeats 4000000 in
theorem plain_none {b0 : Nat} {H : AHeap} {bs : List Nat} (v : Int) (hU : U v) (w : World) (hp : HS w b0 H bs) (hk0 : kk H v = 0) (hk : kd v = 2) :
    Calls Tryz.prog 67 #[.pointer (some ⟨b0, 0, none⟩), .int .u64 v] w fun e w' => e = .returned (.string (strOfNums (plL v))) ∧ w' = w := by
  have e : strOfNums (plL v) = ⟨#[63]⟩ := by unfold plL; rw [if_neg (by omega), if_neg (by omega), if_neg (by omega)]; rfl
  rw [e]
  have HU := hid hU
  have HO := hid (object_none v hU w hp hk0)
  clear hU hp e hk0
  go_enter Tryz.func67, Tryz.ntmps67
  go_wp2_with (first
    | (go_at_call 60; refine (kind_any _ HU.out _).mono ?_; rintro e w' ⟨rfl, hw'⟩; subst w'; rw [hk])
    | (go_at_call 87; refine HO.out.mono ?_; rintro e w' ⟨rfl, hw'⟩; subst w')
    | fail)
  all_goals go_ret
  all_goals exact ⟨rfl, rfl⟩

set_option maxRecDepth 100000 in
set_option maxHeartbeats 4000000 in
theorem plain_four (hv : Value) (v : Int) (hU : U v) (w : World) (hk : kd v = 4) :
    Calls Tryz.prog 67 #[hv, .int .u64 v] w fun e w' => e = .returned (.string (strOfNums (plL v))) ∧ w' = w := by
  have e : strOfNums (plL v) = ⟨#[63]⟩ := by unfold plL; rw [if_neg (by omega), if_neg (by omega), if_neg (by omega)]; rfl
  rw [e]
  have HU := hid hU
  clear hU e
  go_enter Tryz.func67, Tryz.ntmps67
  go_wp2_with (first
    | (go_at_call 60; refine (kind_any _ HU.out _).mono ?_; rintro e w' ⟨rfl, hw'⟩; subst w'; rw [hk])
    | fail)
  all_goals go_ret
  all_goals exact ⟨rfl, rfl⟩

/-- What any word that is no object looks like: the program's plain. -/
theorem plain_no {b0 : Nat} {H : AHeap} {bs : List Nat} (v : Int) (hU : U v) (w : World) (hp : HS w b0 H bs) (hk : kk H v = 0) (hw : Pw w) :
    Calls Tryz.prog 67 #[.pointer (some ⟨b0, 0, none⟩), .int .u64 v] w fun e w' => e = .returned (.string (strOfNums (plL v))) ∧ Bw w w' := by
  rcases kd_cases v with h | h | h | h | h
  · exact plain_int _ v hU w h hw
  · rw [← atomS_nums v h]
    exact (plain_atom _ v hU w h).mono (fun e w2 h => ⟨h.1, by rw [h.2]; exact Bw.refl _⟩)
  · exact (plain_none v hU w hp hk h).mono (fun e w2 h => ⟨h.1, by rw [h.2]; exact Bw.refl _⟩)
  · exact plain_prim _ v hU w h hw
  · exact (plain_four _ v hU w h).mono (fun e w2 h => ⟨h.1, by rw [h.2]; exact Bw.refl _⟩)

end Go.Proofs.YtlhgdknmgdohkaaGreatDoor

set_option linter.unusedSimpArgs false
set_option linter.unusedVariables false
namespace Go.Proofs.YtlhgdknmgdohkaaGreatDoor
open Go Go.RowKit

/-- The library's table of de Bruijn's bits, at the one place that is read here. -/
def Dz (w : World) : Prop := w.cell? ⟨2, 15, none⟩ = some (.int .u8 4)

theorem Dz.bw {w w' : World} (h : Dz w) (hb : Bw w w') : Dz w' := by
  have hlt : 2 < w.heap.size := World.block_lt_of_cell? w ⟨2, 15, none⟩ h
  unfold Dz at h ⊢
  rw [← h]
  exact World.cell?_of_block (w := w) (w' := w') (a := ⟨2, 15, none⟩) (hb.block 2 hlt)

/-- The last j hexadecimal digits, the first ahead. -/
def nibs : Nat → Int → List Int
  | 0, _ => []
  | j + 1, x => hexD ((x / 16 ^ j) % 16) :: nibs j x

theorem nibs_len (j : Nat) (x : Int) : (nibs j x).length = j := by
  induction j with
  | zero => rfl
  | succ j ih => rw [nibs, List.length_cons, ih]

theorem nibs_byte (j : Nat) (x : Int) : ∀ c ∈ nibs j x, 0 ≤ c ∧ c ≤ 255 := by
  induction j with
  | zero => intro c hc; cases hc
  | succ j ih =>
    intro c hc
    rcases List.mem_cons.1 hc with rfl | hc
    · exact hexD_byte (by omega) (by omega)
    · exact ih c hc

theorem dig_at (w : World) (n : Int) (h0 : 0 ≤ n) (h1 : n < 16) :
    (Instr.index 9 (.string ⟨#[48, 49, 50, 51, 52, 53, 54, 55, 56, 57, 97, 98, 99, 100, 101, 102, 103, 104, 105, 106, 107, 108, 109, 110, 111, 112, 113, 114, 115, 116, 117, 118, 119, 120, 121, 122]⟩) (.int .u64 n)).run Tryz.prog w = .ok (.int .u8 (hexD n)) w := by
  have hn : n = 0 ∨ n = 1 ∨ n = 2 ∨ n = 3 ∨ n = 4 ∨ n = 5 ∨ n = 6 ∨ n = 7 ∨ n = 8 ∨ n = 9 ∨ n = 10 ∨ n = 11 ∨ n = 12 ∨ n = 13 ∨ n = 14 ∨ n = 15 := by omega
  rw [run_index_string w 9 _ .u64 n under9]
  rcases hn with rfl | rfl | rfl | rfl | rfl | rfl | rfl | rfl | rfl | rfl | rfl | rfl | rfl | rfl | rfl | rfl <;> rfl

theorem and15u (c : Int) (h : U c) : bits .and .u64 c 15 = c % 16 := by
  rw [u64_and c 15 h.1 (by have := h.2; omega) (by omega) (by omega)]
  have e := Nat.and_two_pow_sub_one_eq_mod c.toNat 4
  have e2 : c.toNat &&& 15 = c.toNat % 16 := e
  have := h.1
  rw [show (15 : Int).toNat = 15 from rfl, e2]
  omega

set_option maxHeartbeats 4000000 in
theorem tz64_16 (w : World) (hd : Dz w) : Calls Tryz.prog 153 #[.int .u64 16] w fun e w' => e = .returned (.int .i64 4) ∧ w' = w := by
  have hd' : w.cell? ⟨2, 15, none⟩ = some (.int .u8 4) := hd
  have h1 : bits .and .u64 16 (IntKind.u64.wrap (-16)) = 16 := by decide
  have h2 : IntKind.u64.wrap (16 * 285870213051353865) = 4573923408821661840 := by decide
  go_enter Tryz.func153, Tryz.ntmps153
  go_wp2
  all_goals go_ret
  all_goals exact ⟨rfl, rfl⟩

set_option maxHeartbeats 4000000 in
theorem tz_16 (w : World) (hd : Dz w) : Calls Tryz.prog 145 #[.int .u64 16] w fun e w' => e = .returned (.int .i64 4) ∧ w' = w := by
  have HD := hid hd
  clear hd
  go_enter Tryz.func145, Tryz.ntmps145
  go_wp2_with (first
    | (go_at_call 153; refine (tz64_16 _ HD.out).mono ?_; rintro e w' ⟨rfl, hw'⟩; subst w')
    | fail)
  all_goals go_ret
  all_goals exact ⟨rfl, rfl⟩

set_option maxHeartbeats 4000000 in
theorem pow2_16 (w : World) : Calls Tryz.prog 144 #[.int .i64 16] w fun e w' => e = .returned (.bool true) ∧ w' = w := by
  have h1 : bits .and .i64 16 15 = 0 := by decide
  go_enter Tryz.func144, Tryz.ntmps144
  go_wp2
  all_goals go_ret
  all_goals exact ⟨rfl, rfl⟩

theorem pow16 (j : Nat) : (0 : Int) < 16 ^ j := by
  induction j with
  | zero => decide
  | succ j ih => rw [Int.pow_succ]; omega

theorem div16 (x : Int) (j : Nat) : x / 16 ^ j / 16 = x / 16 ^ (j + 1) := by
  rw [Int.pow_succ, Int.ediv_ediv_of_nonneg (Int.le_of_lt (pow16 j))]

theorem div_bd {x : Int} (h : U x) (j : Nat) : 0 ≤ x / 16 ^ j ∧ x / 16 ^ j ≤ x := by
  have hp := pow16 j
  exact ⟨Int.ediv_nonneg h.1 (Int.le_of_lt hp), Int.ediv_le_self _ h.1⟩

theorem drop_set {α : Type} (l : List α) (m : Nat) (v : α) (h : m < l.length) : (l.set m v).drop m = v :: l.drop (m + 1) := by
  rw [List.drop_eq_getElem_cons (by simpa using h), List.getElem_set_self, List.drop_set_of_lt (by omega)]

theorem slice65 (g m j : Nat) (h : m + j = 64) (w : World) : (Instr.sliceAt 194 (.pointer (some ⟨g, 0, none⟩)) (some (.int .i64 (m : Int))) none none).run Tryz.prog w = .ok (.slice (some ⟨g, m, none⟩) (j + 1) (j + 1)) w := by
  have e65 : Tryz.prog.arrayLen 194 = 65 := by kernel_rfl
  have es : (sizeOf (Tryz.prog.elem 194)).run Tryz.prog w = .ok 1 w := by kernel_rfl
  rw [run_sliceAt_array_l w 194 _ (by kernel_rfl) .i64 m (by omega) (by rw [e65]; omega), es]
  simp only [Result.andThen_ok, slicedAt, e65, Int.toNat_natCast]
  rw [if_neg (by omega), show 65 - m = j + 1 by omega]
  simp [Addr.add]
  intro e
  exact e.symm

set_option maxRecDepth 100000 in
set_option maxHeartbeats 16000000 in
theorem fbits_any (x : Int) (hU : U x) (w : World) (hd : Dz w) :
    Calls Tryz.prog 128 #[.slice none 0 0, .int .u64 x, .int .i64 16, .bool false, .bool false] w fun e w' => ∃ j : Nat, j ≤ 15 ∧ x / 16 ^ (j + 1) = 0 ∧ e = .returned (.tuple #[.slice none 0 0, .string (strOfNums (nibs (j + 1) x))]) ∧ Bw w w' := by
  have HU := hid hU
  have HD := hid hd
  clear hU hd
  go_enter Tryz.func128, Tryz.ntmps128
  go_upto_region 4 with fail
  go_cut [13] (fun s wc => s = .int .i64 65 ∧ ∃ cur : Array Value, cur.size = 65 ∧ Blk wc w.heap.size cur 194 ∧ Bw w wc)
  case first =>
    go_wp2
    go_meet
    exact ⟨rfl, _, rfl, Blk.new w _ _, by repeat (first | exact Bw.refl _ | apply Bw.lay | apply Bw.alloc | apply Bw.drewN | apply Bw.drew)⟩
  case rest =>
    obtain ⟨rfl, cur0, hsz0, hk0, hb0⟩ := hcut
    rename World => w1
    have K0 := hid hk0
    have B0 := hid hb0
    have S0 := hid hsz0
    have D1 := hid (HD.out.bw hb0)
    clear hk0 hb0 hsz0
    go_wp2_with (first
      | (go_at_call 144; refine (pow2_16 _).mono ?_; rintro e w' ⟨rfl, hw'⟩; subst w')
      | (go_at_call 145; refine (tz_16 _ D1.out).mono ?_; rintro e w' ⟨rfl, hw'⟩; subst w')
      | fail)
    go_loopw [1, 13] (fun u i wr => ∃ (j m : Nat) (cur : Array Value), j ≤ 15 ∧ m + j = 64 ∧ u = .int .u64 (x / 16 ^ j) ∧ i = .int .i64 ((m : Int) + 1) ∧ cur.size = 65 ∧ cur.toList.drop (m + 1) = (nibs j x).map (Value.int .u8) ∧ Blk wr w.heap.size cur 194 ∧ Bw w wr) (fun u _ _ => (intOf u).toNat)
    case atStart => exact ⟨0, 64, cur0, by omega, by omega, by simp, by rfl, S0.out, by rw [List.drop_eq_nil_of_le (by simp [S0.out])]; rfl, K0.out, B0.out⟩
    case round =>
      obtain ⟨j, m, cur, hj, hm, rfl, rfl, hsz, hdr, hk, hb⟩ := hrel
      have hbd := div_bd HU.out j
      have hux := HU.out
      have hml : m < cur.toList.length := by simp [hsz]; omega
      obtain ⟨cm, hc⟩ : ∃ cm, wr.cell? ⟨w.heap.size, m, none⟩ = some cm := ⟨cur[m]'(by omega), by rw [hk.cell m]; exact Array.getElem?_eq_getElem _⟩
      have hfr := hk.free m
      have hm0 : (0 : Int) ≤ (m : Int) := by omega
      have hm1 : (m : Int) < 65 := by omega
      have KS := hid (fun (v : Value) => hk.set m v)
      have HBW : Hid (∀ v, Bw w (wr.setCell ⟨w.heap.size, m, none⟩ v)) := fun v => ⟨hb.os, hb.tape, hb.output, by have := hb.size; simpa [World.setCell] using this, fun b hlt => (Below.heap_setCell wr ⟨w.heap.size, m, none⟩ v b (show b ≠ w.heap.size by omega)).trans (hb.block b hlt)⟩
      have HNB := hid (nibs_byte (j + 1) x)
      have HNX : Hid (∀ v, (cur.setIfInBounds m v).toList.drop m = v :: (nibs j x).map (Value.int .u8)) := by
        intro v
        rw [Array.toList_setIfInBounds, drop_set _ _ _ hml, hdr]
      have HSZ := hid hsz
      have HD16 := hid (div16 x j)
      by_cases h16 : 16 ≤ x / 16 ^ j
      · have hj15 : j + 1 ≤ 15 := by
          by_cases e : j = 15
          · exfalso
            subst e
            have : x / 16 ^ 15 < 16 := by
              have h2 := hux.2
              have e15 : (16 : Int) ^ 15 = 1152921504606846976 := by decide
              rw [e15]; omega
            omega
          · omega
        have hdv : x / 16 ^ j / 16 < x / 16 ^ j := by omega
        have hge : decide (16 ≤ x / 16 ^ j) = true := decide_eq_true h16
        have hU2 : U (x / 16 ^ j) := ⟨hbd.1, by have := hux.2; omega⟩
        have ha := and15u _ hU2
        have hi1 : ∀ w, (Instr.index 9 (.string ⟨#[48, 49, 50, 51, 52, 53, 54, 55, 56, 57, 97, 98, 99, 100, 101, 102, 103, 104, 105, 106, 107, 108, 109, 110, 111, 112, 113, 114, 115, 116, 117, 118, 119, 120, 121, 122]⟩) (.int .u64 (x / 16 ^ j % 16))).run Tryz.prog w = .ok (.int .u8 (hexD (x / 16 ^ j % 16))) w := fun w => dig_at w _ (by omega) (by omega)
        have HNN : Hid (nibs (j + 1) x = hexD (x / 16 ^ j % 16) :: nibs j x) := rfl
        have HQ := hid (And.intro hdv hbd.1)
        clear hk hb hdr hsz hml HNB hux
        generalize x / 16 ^ j = u at hge ha hi1 HNN HD16 HQ hU2 hbd h16 hdv ⊢
        clear hbd hU2 hdv
        go_wp2
        go_roundw
        case rel => exact ⟨j + 1, m - 1, cur.setIfInBounds m (.int .u8 (hexD (u % 16))), hj15, by omega, by rw [HD16.out], by rw [show ((m - 1 : Nat) : Int) + 1 = m by omega], by rw [Array.size_setIfInBounds]; exact HSZ.out, by rw [show m - 1 + 1 = m by omega, HNX.out, HNN.out]; rfl, KS.out _, HBW.out _⟩
        case measure => have := HQ.out; simp only [intOf]; omega
      · have hge : decide (16 ≤ x / 16 ^ j) = false := decide_eq_false h16
        have hi1 : ∀ w, (Instr.index 9 (.string ⟨#[48, 49, 50, 51, 52, 53, 54, 55, 56, 57, 97, 98, 99, 100, 101, 102, 103, 104, 105, 106, 107, 108, 109, 110, 111, 112, 113, 114, 115, 116, 117, 118, 119, 120, 121, 122]⟩) (.int .u64 (x / 16 ^ j))).run Tryz.prog w = .ok (.int .u8 (hexD (x / 16 ^ j))) w := fun w => dig_at w _ (by omega) (by omega)
        have HNN : Hid (nibs (j + 1) x = hexD (x / 16 ^ j) :: nibs j x) := by
          show hexD (x / 16 ^ j % 16) :: nibs j x = _
          rw [show x / 16 ^ j % 16 = x / 16 ^ j by omega]
        have HZ : Hid (x / 16 ^ (j + 1) = 0) := by
          show x / 16 ^ (j + 1) = 0
          rw [← HD16.out]; omega
        have hsl := slice65 w.heap.size m j hm
        have hcv : (convert 44 9 (.slice (some ⟨w.heap.size, m, none⟩) (j + 1) (j + 1))).run Tryz.prog (wr.setCell ⟨w.heap.size, m, none⟩ (.int .u8 (hexD (x / 16 ^ j)))) = .ok (.string (strOfNums (nibs (j + 1) x))) (wr.setCell ⟨w.heap.size, m, none⟩ (.int .u8 (hexD (x / 16 ^ j)))) := by
          have hby : By (wr.setCell ⟨w.heap.size, m, none⟩ (.int .u8 (hexD (x / 16 ^ j)))) (.slice (some ⟨w.heap.size, m, none⟩) (nibs (j + 1) x).length (j + 1)) (nibs (j + 1) x) := by
            refine ⟨⟨by simp, some ⟨w.heap.size, m, none⟩, j + 1, rfl, ⟨by rw [nibs_len]; omega, fun e => by cases e⟩, .inr ⟨w.heap.size, m, rfl, (KS.out (.int .u8 (hexD (x / 16 ^ j)))).lt, trivial, fun i hi => ?_⟩⟩, nibs_byte _ _, by rw [nibs_len]; omega⟩
            rw [(KS.out (.int .u8 (hexD (x / 16 ^ j)))).cell (m + i)]
            have h1 := HNX.out (.int .u8 (hexD (x / 16 ^ j)))
            have h2 : ((cur.setIfInBounds m (.int .u8 (hexD (x / 16 ^ j)))).toList.drop m)[i]? = ((nibs (j + 1) x).map (Value.int .u8))[i]? := by rw [h1, HNN.out]; rfl
            rw [List.getElem?_drop] at h2
            rw [← h2, ← Array.getElem?_toList]
          have := hby.conv0
          rw [nibs_len] at this
          exact this
        clear hk hb hdr hsz hml hux HD16 HNB
        generalize hze : strOfNums (nibs (j + 1) x) = z at hcv
        have HZE := hid hze
        clear hze
        generalize x / 16 ^ j = u at hge hi1 HNN hbd h16 hcv ⊢
        clear hbd
        go_wp2
        all_goals go_ret2
        all_goals exact ⟨j, hj, HZ.out, by rw [HZE.out]; rfl, HBW.out _⟩

set_option maxHeartbeats 4000000 in
theorem fuint_any (x : Int) (hU : U x) (w : World) (hd : Dz w) :
    Calls Tryz.prog 129 #[.int .u64 x, .int .i64 16] w fun e w' => ∃ j : Nat, j ≤ 15 ∧ x / 16 ^ (j + 1) = 0 ∧ e = .returned (.string (strOfNums (nibs (j + 1) x))) ∧ Bw w w' := by
  have HU := hid hU
  have HD := hid hd
  clear hU hd
  go_enter Tryz.func129, Tryz.ntmps129
  go_wp2_with (first
    | (go_at_call 128; refine (fbits_any x HU.out _ HD.out).mono ?_; rintro e w1 ⟨j, hj, hz, rfl, hb⟩; have HJ := hid (And.intro hj (And.intro hz hb)); clear hj hz hb)
    | fail)
  all_goals go_ret
  all_goals exact ⟨j, HJ.out.1, HJ.out.2.1, rfl, HJ.out.2.2⟩

set_option maxHeartbeats 4000000 in
theorem iuint_any (x : Int) (hU : U x) (w : World) (hd : Dz w) :
    Calls Tryz.prog 111 #[.int .u64 x, .int .i64 16] w fun e w' => ∃ j : Nat, j ≤ 15 ∧ x / 16 ^ (j + 1) = 0 ∧ e = .returned (.string (strOfNums (nibs (j + 1) x))) ∧ Bw w w' := by
  have HU := hid hU
  have HD := hid hd
  clear hU hd
  go_enter Tryz.func111, Tryz.ntmps111
  go_wp2_with (first
    | (go_at_call 129; refine (fuint_any x HU.out _ HD.out).mono ?_; rintro e w1 ⟨j, hj, hz, rfl, hb⟩; have HJ := hid (And.intro hj (And.intro hz hb)); clear hj hz hb)
    | fail)
  all_goals go_ret
  all_goals exact ⟨j, HJ.out.1, HJ.out.2.1, rfl, HJ.out.2.2⟩

theorem nibs_zero {x : Int} (h0 : 0 ≤ x) : ∀ (k j : Nat), x / 16 ^ j = 0 → nibs (j + k) x = List.replicate k 48 ++ nibs j x
  | 0, j, _ => rfl
  | k + 1, j, h => by
    have ih := nibs_zero h0 k j h
    rw [← Nat.add_assoc, nibs, ih]
    have e : x / 16 ^ (j + k) = 0 := by
      have hp := pow16 k
      rw [Int.pow_add, ← Int.ediv_ediv_of_nonneg (Int.le_of_lt (pow16 j)), h, Int.zero_ediv]
    rw [e]
    rfl

end Go.Proofs.YtlhgdknmgdohkaaGreatDoor

