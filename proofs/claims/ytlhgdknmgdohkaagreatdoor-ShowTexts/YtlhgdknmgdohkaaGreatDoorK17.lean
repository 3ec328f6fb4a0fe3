/- Hexadecimal digits: the library's FormatUint at base 16, and the program's 16 digits. · strings.Repeat: its contract, laid at this program. · What a word without parts looks like: the program's plain, whole. -/
import Derived.Test.YtlhgdknmgdohkaaGreatDoorK11
import Derived.Shelf.Strings.Repeat
import Derived.Test.YtlhgdknmgdohkaaGreatDoorProg
set_option linter.unusedSimpArgs false
set_option linter.unusedVariables false
namespace Go.Proofs.YtlhgdknmgdohkaaGreatDoor
open Go Go.RowKit

/-- The library's table of de Bruijn's bits, at the one place that is read here. -/
def Dz (w : World) : Prop := w.cell? ⟨2, 15, none⟩ = some (.int .u8 4)

theorem Dz.bw {w w' : World} (h : Dz w) (hb : Bw w w') : Dz w' := by
  have hlt : 2 < w.heap.size := World.block_lt_of_cell? w ⟨2, 15, none⟩ h
  unfold Dz at h ⊢
  rw [← h]
  exact World.cell?_of_block (w := w) (w' := w') (a := ⟨2, 15, none⟩) (hb.block 2 hlt)

/-- The last j hexadecimal digits, the first ahead. -/
def nibs : Nat → Int → List Int
  | 0, _ => []
  | j + 1, x => hexD ((x / 16 ^ j) % 16) :: nibs j x

theorem nibs_len (j : Nat) (x : Int) : (nibs j x).length = j := by
  induction j with
  | zero => rfl
  | succ j ih => rw [nibs, List.length_cons, ih]

theorem nibs_byte (j : Nat) (x : Int) : ∀ c ∈ nibs j x, 0 ≤ c ∧ c ≤ 255 := by
  induction j with
  | zero => intro c hc; cases hc
  | succ j ih =>
    intro c hc
    rcases List.mem_cons.1 hc with rfl | hc
    · exact hexD_byte (by omega) (by omega)
    · exact ih c hc

theorem dig_at (w : World) (n : Int) (h0 : 0 ≤ n) (h1 : n < 16) :
    (Instr.index 9 (.string ⟨#[48, 49, 50, 51, 52, 53, 54, 55, 56, 57, 97, 98, 99, 100, 101, 102, 103, 104, 105, 106, 107, 108, 109, 110, 111, 112, 113, 114, 115, 116, 117, 118, 119, 120, 121, 122]⟩) (.int .u64 n)).run Tryz.prog w = .ok (.int .u8 (hexD n)) w := by
  have hn : n = 0 ∨ n = 1 ∨ n = 2 ∨ n = 3 ∨ n = 4 ∨ n = 5 ∨ n = 6 ∨ n = 7 ∨ n = 8 ∨ n = 9 ∨ n = 10 ∨ n = 11 ∨ n = 12 ∨ n = 13 ∨ n = 14 ∨ n = 15 := by omega
  rw [run_index_string w 9 _ .u64 n under9]
  rcases hn with rfl | rfl | rfl | rfl | rfl | rfl | rfl | rfl | rfl | rfl | rfl | rfl | rfl | rfl | rfl | rfl <;> rfl

theorem and15u (c : Int) (h : U c) : bits .and .u64 c 15 = c % 16 := by
  rw [u64_and c 15 h.1 (by have := h.2; omega) (by omega) (by omega)]
  have e := Nat.and_two_pow_sub_one_eq_mod c.toNat 4
  have e2 : c.toNat &&& 15 = c.toNat % 16 := e
  have := h.1
  rw [show (15 : Int).toNat = 15 from rfl, e2]
  omega

set_option maxHeartbeats 4000000 in
theorem tz64_16 (w : World) (hd : Dz w) : Calls Tryz.prog 153 #[.int .u64 16] w fun e w' => e = .returned (.int .i64 4) ∧ w' = w := by
  have hd' : w.cell? ⟨2, 15, none⟩ = some (.int .u8 4) := hd
  have h1 : bits .and .u64 16 (IntKind.u64.wrap (-16)) = 16 := by decide
  have h2 : IntKind.u64.wrap (16 * 285870213051353865) = 4573923408821661840 := by decide
  go_enter Tryz.func153, Tryz.ntmps153
  go_wp2
  all_goals go_ret
  all_goals exact ⟨rfl, rfl⟩

set_option maxHeartbeats 4000000 in
theorem tz_16 (w : World) (hd : Dz w) : Calls Tryz.prog 145 #[.int .u64 16] w fun e w' => e = .returned (.int .i64 4) ∧ w' = w := by
  have HD := hid hd
  clear hd
  go_enter Tryz.func145, Tryz.ntmps145
  go_wp2_with (first
    | (go_at_call 153; refine (tz64_16 _ HD.out).mono ?_; rintro e w' ⟨rfl, hw'⟩; subst w')
    | fail)
  all_goals go_ret
  all_goals exact ⟨rfl, rfl⟩

set_option maxHeartbeats 4000000 in
theorem pow2_16 (w : World) : Calls Tryz.prog 144 #[.int .i64 16] w fun e w' => e = .returned (.bool true) ∧ w' = w := by
  have h1 : bits .and .i64 16 15 = 0 := by decide
  go_enter Tryz.func144, Tryz.ntmps144
  go_wp2
  all_goals go_ret
  all_goals exact ⟨rfl, rfl⟩

theorem pow16 (j : Nat) : (0 : Int) < 16 ^ j := by
  induction j with
  | zero => decide
  | succ j ih => rw [Int.pow_succ]; omega

theorem div16 (x : Int) (j : Nat) : x / 16 ^ j / 16 = x / 16 ^ (j + 1) := by
  rw [Int.pow_succ, Int.ediv_ediv_of_nonneg (Int.le_of_lt (pow16 j))]

theorem div_bd {x : Int} (h : U x) (j : Nat) : 0 ≤ x / 16 ^ j ∧ x / 16 ^ j ≤ x := by
  have hp := pow16 j
  exact ⟨Int.ediv_nonneg h.1 (Int.le_of_lt hp), Int.ediv_le_self _ h.1⟩

theorem drop_set {α : Type} (l : List α) (m : Nat) (v : α) (h : m < l.length) : (l.set m v).drop m = v :: l.drop (m + 1) := by
  rw [List.drop_eq_getElem_cons (by simpa using h), List.getElem_set_self, List.drop_set_of_lt (by omega)]

theorem slice65 (g m j : Nat) (h : m + j = 64) (w : World) : (Instr.sliceAt 194 (.pointer (some ⟨g, 0, none⟩)) (some (.int .i64 (m : Int))) none none).run Tryz.prog w = .ok (.slice (some ⟨g, m, none⟩) (j + 1) (j + 1)) w := by
  have e65 : Tryz.prog.arrayLen 194 = 65 := by kernel_rfl
  have es : (sizeOf (Tryz.prog.elem 194)).run Tryz.prog w = .ok 1 w := by kernel_rfl
  rw [run_sliceAt_array_l w 194 _ (by kernel_rfl) .i64 m (by omega) (by rw [e65]; omega), es]
  simp only [Result.andThen_ok, slicedAt, e65, Int.toNat_natCast]
  rw [if_neg (by omega), show 65 - m = j + 1 by omega]
  simp [Addr.add]
  intro e
  exact e.symm

set_option maxRecDepth 100000 in
set_option maxHeartbeats 16000000 in
theorem fbits_any (x : Int) (hU : U x) (w : World) (hd : Dz w) :
    Calls Tryz.prog 128 #[.slice none 0 0, .int .u64 x, .int .i64 16, .bool false, .bool false] w fun e w' => ∃ j : Nat, j ≤ 15 ∧ x / 16 ^ (j + 1) = 0 ∧ e = .returned (.tuple #[.slice none 0 0, .string (strOfNums (nibs (j + 1) x))]) ∧ Bw w w' := by
  have HU := hid hU
  have HD := hid hd
  clear hU hd
  go_enter Tryz.func128, Tryz.ntmps128
  go_upto_region 4 with fail
  go_cut [13] (fun s wc => s = .int .i64 65 ∧ ∃ cur : Array Value, cur.size = 65 ∧ Blk wc w.heap.size cur 194 ∧ Bw w wc)
  case first =>
    go_wp2
    go_meet
    exact ⟨rfl, _, rfl, Blk.new w _ _, by repeat (first | exact Bw.refl _ | apply Bw.lay | apply Bw.alloc | apply Bw.drewN | apply Bw.drew)⟩
  case rest =>
    obtain ⟨rfl, cur0, hsz0, hk0, hb0⟩ := hcut
    rename World => w1
    have K0 := hid hk0
    have B0 := hid hb0
    have S0 := hid hsz0
    have D1 := hid (HD.out.bw hb0)
    clear hk0 hb0 hsz0
    go_wp2_with (first
      | (go_at_call 144; refine (pow2_16 _).mono ?_; rintro e w' ⟨rfl, hw'⟩; subst w')
      | (go_at_call 145; refine (tz_16 _ D1.out).mono ?_; rintro e w' ⟨rfl, hw'⟩; subst w')
      | fail)
    go_loopw [1, 13] (fun u i wr => ∃ (j m : Nat) (cur : Array Value), j ≤ 15 ∧ m + j = 64 ∧ u = .int .u64 (x / 16 ^ j) ∧ i = .int .i64 ((m : Int) + 1) ∧ cur.size = 65 ∧ cur.toList.drop (m + 1) = (nibs j x).map (Value.int .u8) ∧ Blk wr w.heap.size cur 194 ∧ Bw w wr) (fun u _ _ => (intOf u).toNat)
    case atStart => exact ⟨0, 64, cur0, by omega, by omega, by simp, by rfl, S0.out, by rw [List.drop_eq_nil_of_le (by simp [S0.out])]; rfl, K0.out, B0.out⟩
    case round =>
      obtain ⟨j, m, cur, hj, hm, rfl, rfl, hsz, hdr, hk, hb⟩ := hrel
      have hbd := div_bd HU.out j
      have hux := HU.out
      have hml : m < cur.toList.length := by simp [hsz]; omega
      obtain ⟨cm, hc⟩ : ∃ cm, wr.cell? ⟨w.heap.size, m, none⟩ = some cm := ⟨cur[m]'(by omega), by rw [hk.cell m]; exact Array.getElem?_eq_getElem _⟩
      have hfr := hk.free m
      have hm0 : (0 : Int) ≤ (m : Int) := by omega
      have hm1 : (m : Int) < 65 := by omega
      have KS := hid (fun (v : Value) => hk.set m v)
      have HBW : Hid (∀ v, Bw w (wr.setCell ⟨w.heap.size, m, none⟩ v)) := fun v => ⟨hb.os, hb.tape, hb.output, by have := hb.size; simpa [World.setCell] using this, fun b hlt => (Below.heap_setCell wr ⟨w.heap.size, m, none⟩ v b (show b ≠ w.heap.size by omega)).trans (hb.block b hlt)⟩
      have HNB := hid (nibs_byte (j + 1) x)
      have HNX : Hid (∀ v, (cur.setIfInBounds m v).toList.drop m = v :: (nibs j x).map (Value.int .u8)) := by
        intro v
        rw [Array.toList_setIfInBounds, drop_set _ _ _ hml, hdr]
      have HSZ := hid hsz
      have HD16 := hid (div16 x j)
      by_cases h16 : 16 ≤ x / 16 ^ j
      · have hj15 : j + 1 ≤ 15 := by
          by_cases e : j = 15
          · exfalso
            subst e
            have : x / 16 ^ 15 < 16 := by
              have h2 := hux.2
              have e15 : (16 : Int) ^ 15 = 1152921504606846976 := by decide
              rw [e15]; omega
            omega
          · omega
        have hdv : x / 16 ^ j / 16 < x / 16 ^ j := by omega
        have hge : decide (16 ≤ x / 16 ^ j) = true := decide_eq_true h16
        have hU2 : U (x / 16 ^ j) := ⟨hbd.1, by have := hux.2; omega⟩
        have ha := and15u _ hU2
        have hi1 : ∀ w, (Instr.index 9 (.string ⟨#[48, 49, 50, 51, 52, 53, 54, 55, 56, 57, 97, 98, 99, 100, 101, 102, 103, 104, 105, 106, 107, 108, 109, 110, 111, 112, 113, 114, 115, 116, 117, 118, 119, 120, 121, 122]⟩) (.int .u64 (x / 16 ^ j % 16))).run Tryz.prog w = .ok (.int .u8 (hexD (x / 16 ^ j % 16))) w := fun w => dig_at w _ (by omega) (by omega)
        have HNN : Hid (nibs (j + 1) x = hexD (x / 16 ^ j % 16) :: nibs j x) := rfl
        have HQ := hid (And.intro hdv hbd.1)
        clear hk hb hdr hsz hml HNB hux
        generalize x / 16 ^ j = u at hge ha hi1 HNN HD16 HQ hU2 hbd h16 hdv ⊢
        clear hbd hU2 hdv
        go_wp2
        go_roundw
        case rel => exact ⟨j + 1, m - 1, cur.setIfInBounds m (.int .u8 (hexD (u % 16))), hj15, by omega, by rw [HD16.out], by rw [show ((m - 1 : Nat) : Int) + 1 = m by omega], by rw [Array.size_setIfInBounds]; exact HSZ.out, by rw [show m - 1 + 1 = m by omega, HNX.out, HNN.out]; rfl, KS.out _, HBW.out _⟩
        case measure => have := HQ.out; simp only [intOf]; omega
      · have hge : decide (16 ≤ x / 16 ^ j) = false := decide_eq_false h16
        have hi1 : ∀ w, (Instr.index 9 (.string ⟨#[48, 49, 50, 51, 52, 53, 54, 55, 56, 57, 97, 98, 99, 100, 101, 102, 103, 104, 105, 106, 107, 108, 109, 110, 111, 112, 113, 114, 115, 116, 117, 118, 119, 120, 121, 122]⟩) (.int .u64 (x / 16 ^ j))).run Tryz.prog w = .ok (.int .u8 (hexD (x / 16 ^ j))) w := fun w => dig_at w _ (by omega) (by omega)
        have HNN : Hid (nibs (j + 1) x = hexD (x / 16 ^ j) :: nibs j x) := by
          show hexD (x / 16 ^ j % 16) :: nibs j x = _
          rw [show x / 16 ^ j % 16 = x / 16 ^ j by omega]
        have HZ : Hid (x / 16 ^ (j + 1) = 0) := by
          show x / 16 ^ (j + 1) = 0
          rw [← HD16.out]; omega
        have hsl := slice65 w.heap.size m j hm
        have hcv : (convert 44 9 (.slice (some ⟨w.heap.size, m, none⟩) (j + 1) (j + 1))).run Tryz.prog (wr.setCell ⟨w.heap.size, m, none⟩ (.int .u8 (hexD (x / 16 ^ j)))) = .ok (.string (strOfNums (nibs (j + 1) x))) (wr.setCell ⟨w.heap.size, m, none⟩ (.int .u8 (hexD (x / 16 ^ j)))) := by
          have hby : By (wr.setCell ⟨w.heap.size, m, none⟩ (.int .u8 (hexD (x / 16 ^ j)))) (.slice (some ⟨w.heap.size, m, none⟩) (nibs (j + 1) x).length (j + 1)) (nibs (j + 1) x) := by
            refine ⟨⟨by simp, some ⟨w.heap.size, m, none⟩, j + 1, rfl, ⟨by rw [nibs_len]; omega, fun e => by cases e⟩, .inr ⟨w.heap.size, m, rfl, (KS.out (.int .u8 (hexD (x / 16 ^ j)))).lt, trivial, fun i hi => ?_⟩⟩, nibs_byte _ _, by rw [nibs_len]; omega⟩
            rw [(KS.out (.int .u8 (hexD (x / 16 ^ j)))).cell (m + i)]
            have h1 := HNX.out (.int .u8 (hexD (x / 16 ^ j)))
            have h2 : ((cur.setIfInBounds m (.int .u8 (hexD (x / 16 ^ j)))).toList.drop m)[i]? = ((nibs (j + 1) x).map (Value.int .u8))[i]? := by rw [h1, HNN.out]; rfl
            rw [List.getElem?_drop] at h2
            rw [← h2, ← Array.getElem?_toList]
          have := hby.conv0
          rw [nibs_len] at this
          exact this
        clear hk hb hdr hsz hml hux HD16 HNB
        generalize hze : strOfNums (nibs (j + 1) x) = z at hcv
        have HZE := hid hze
        clear hze
        generalize x / 16 ^ j = u at hge hi1 HNN hbd h16 hcv ⊢
        clear hbd
        go_wp2
        all_goals go_ret2
        all_goals exact ⟨j, hj, HZ.out, by rw [HZE.out]; rfl, HBW.out _⟩

set_option maxHeartbeats 4000000 in
theorem fuint_any (x : Int) (hU : U x) (w : World) (hd : Dz w) :
    Calls Tryz.prog 129 #[.int .u64 x, .int .i64 16] w fun e w' => ∃ j : Nat, j ≤ 15 ∧ x / 16 ^ (j + 1) = 0 ∧ e = .returned (.string (strOfNums (nibs (j + 1) x))) ∧ Bw w w' := by
  have HU := hid hU
  have HD := hid hd
  clear hU hd
  go_enter Tryz.func129, Tryz.ntmps129
  go_wp2_with (first
    | (go_at_call 128; refine (fbits_any x HU.out _ HD.out).mono ?_; rintro e w1 ⟨j, hj, hz, rfl, hb⟩; have HJ := hid (And.intro hj (And.intro hz hb)); clear hj hz hb)
    | fail)
  all_goals go_ret
  all_goals exact ⟨j, HJ.out.1, HJ.out.2.1, rfl, HJ.out.2.2⟩

set_option maxHeartbeats 4000000 in
theorem iuint_any (x : Int) (hU : U x) (w : World) (hd : Dz w) :
    Calls Tryz.prog 111 #[.int .u64 x, .int .i64 16] w fun e w' => ∃ j : Nat, j ≤ 15 ∧ x / 16 ^ (j + 1) = 0 ∧ e = .returned (.string (strOfNums (nibs (j + 1) x))) ∧ Bw w w' := by
  have HU := hid hU
  have HD := hid hd
  clear hU hd
  go_enter Tryz.func111, Tryz.ntmps111
  go_wp2_with (first
    | (go_at_call 129; refine (fuint_any x HU.out _ HD.out).mono ?_; rintro e w1 ⟨j, hj, hz, rfl, hb⟩; have HJ := hid (And.intro hj (And.intro hz hb)); clear hj hz hb)
    | fail)
  all_goals go_ret
  all_goals exact ⟨j, HJ.out.1, HJ.out.2.1, rfl, HJ.out.2.2⟩

theorem nibs_zero {x : Int} (h0 : 0 ≤ x) : ∀ (k j : Nat), x / 16 ^ j = 0 → nibs (j + k) x = List.replicate k 48 ++ nibs j x
  | 0, j, _ => rfl
  | k + 1, j, h => by
    have ih := nibs_zero h0 k j h
    rw [← Nat.add_assoc, nibs, ih]
    have e : x / 16 ^ (j + k) = 0 := by
      have hp := pow16 k
      rw [Int.pow_add, ← Int.ediv_ediv_of_nonneg (Int.le_of_lt (pow16 j)), h, Int.zero_ediv]
    rw [e]
    rfl

end Go.Proofs.YtlhgdknmgdohkaaGreatDoor

set_option linter.unusedVariables false
namespace Go.Proofs.YtlhgdknmgdohkaaGreatDoor
open Go Go.Shelf Go.RowKit Go.Lib
def shRepRen : Go.Shelf.Ren := ⟨fun | 105 => 112 | 212 => 130 | 99 => 131 | 165 => 132 | 166 => 133 | 170 => 134 | 169 => 135 | 263 => 146 | 264 => 147 | 206 => 148 | 240 => 149 | 241 => 150 | 276 => 154 | 277 => 155 | n => n, fun | 9 => 9 | 3 => 3 | 4 => 4 | 20 => 20 | 0 => 0 | 46 => 102 | 109 => 174 | 5 => 5 | 72 => 178 | 76 => 182 | 51 => 168 | 146 => 195 | 53 => 26 | 148 => 197 | 70 => 176 | 37 => 44 | 75 => 181 | 127 => 199 | 164 => 203 | 80 => 185 | n => n, fun | n => n⟩
theorem shRepL : Go.Proofs.Lays.n105 Tryz.prog shRepRen := {
  mixed := by kernel_rfl
  f99 := Tryz.func131.trans (congrArg some (by kernel_rfl))
  f105 := Tryz.func112.trans (congrArg some (by kernel_rfl))
  f165 := Tryz.func132.trans (congrArg some (by kernel_rfl))
  f166 := Tryz.func133.trans (congrArg some (by kernel_rfl))
  f169 := Tryz.func135.trans (congrArg some (by kernel_rfl))
  f170 := Tryz.func134.trans (congrArg some (by kernel_rfl))
  f206 := Tryz.func148.trans (congrArg some (by kernel_rfl))
  f212 := Tryz.func130.trans (congrArg some (by kernel_rfl))
  f240 := Tryz.func149.trans (congrArg some (by kernel_rfl))
  f241 := Tryz.func150.trans (congrArg some (by kernel_rfl))
  f263 := Tryz.func146.trans (congrArg some (by kernel_rfl))
  f264 := Tryz.func147.trans (congrArg some (by kernel_rfl))
  f276 := Tryz.func154.trans (congrArg some (by kernel_rfl))
  f277 := Tryz.func155.trans (congrArg some (by kernel_rfl))
  t0 := Tryz.underlying0
  a0 := Tryz.isAgg0
  z0 := Tryz.sizeOf0
  v0 := Tryz.zeroValue0
  t3 := Tryz.underlying3
  a3 := Tryz.isAgg3
  z3 := Tryz.sizeOf3
  v3 := Tryz.zeroValue3
  t4 := Tryz.underlying4
  a4 := Tryz.isAgg4
  z4 := Tryz.sizeOf4
  v4 := Tryz.zeroValue4
  t5 := Tryz.underlying5
  a5 := Tryz.isAgg5
  z5 := Tryz.sizeOf5
  v5 := Tryz.zeroValue5
  t9 := Tryz.underlying9
  a9 := Tryz.isAgg9
  z9 := Tryz.sizeOf9
  v9 := Tryz.zeroValue9
  t20 := Tryz.underlying20
  a20 := Tryz.isAgg20
  z20 := Tryz.sizeOf20
  v20 := Tryz.zeroValue20
  t37 := Tryz.underlying44
  a37 := Tryz.isAgg44
  z37 := Tryz.sizeOf44
  v37 := Tryz.zeroValue44
  t46 := Tryz.underlying102
  a46 := Tryz.isAgg102
  z46 := Tryz.sizeOf102
  v46 := Tryz.zeroValue102
  t51 := Tryz.underlying168
  a51 := Tryz.isAgg168
  z51 := Tryz.sizeOf168
  v51 := Tryz.zeroValue168
  t53 := Tryz.underlying26
  a53 := Tryz.isAgg26
  z53 := Tryz.sizeOf26
  v53 := Tryz.zeroValue26
  t70 := Tryz.underlying176
  a70 := Tryz.isAgg176
  z70 := Tryz.sizeOf176
  v70 := Tryz.zeroValue176
  t72 := Tryz.underlying178
  a72 := Tryz.isAgg178
  z72 := Tryz.sizeOf178
  v72 := Tryz.zeroValue178
  t75 := Tryz.underlying181
  a75 := Tryz.isAgg181
  z75 := Tryz.sizeOf181
  v75 := Tryz.zeroValue181
  t76 := Tryz.underlying182
  a76 := Tryz.isAgg182
  z76 := Tryz.sizeOf182
  v76 := Tryz.zeroValue182
  t109 := Tryz.underlying174
  a109 := Tryz.isAgg174
  z109 := Tryz.sizeOf174
  v109 := Tryz.zeroValue174
  t127 := Tryz.underlying199
  a127 := Tryz.isAgg199
  z127 := Tryz.sizeOf199
  v127 := Tryz.zeroValue199
  t146 := Tryz.underlying195
  a146 := Tryz.isAgg195
  z146 := Tryz.sizeOf195
  v146 := Tryz.zeroValue195
  t148 := Tryz.underlying197
  a148 := Tryz.isAgg197
  z148 := Tryz.sizeOf197
  v148 := Tryz.zeroValue197
  t164 := Tryz.underlying203
  a164 := Tryz.isAgg203
  z164 := Tryz.sizeOf203
  v164 := Tryz.zeroValue203 }
theorem shRepX : Builder.Extra Tryz.prog shRepRen := {
  sizeBuilder := by kernel_rfl
  liesBuilder := by kernel_rfl
  t5 := Tryz.underlying5
  a5 := Tryz.isAgg5
  z5 := Tryz.sizeOf5
  v5 := Tryz.zeroValue5
  infoByte := by kernel_rfl
  cellsByte := by kernel_rfl
  sizeByte := by kernel_rfl
  neB5 := by decide }

theorem shRep (s : ByteArray) (c : Nat) (w : World) (hc : c ≤ 9223372036854775807) (hlen : s.size * c ≤ 140737488355328) :
    Calls Tryz.prog 112 #[.string s, .int .i64 c] w fun e w' => e = .returned (.string ⟨(Lib.repeatL s.data.toList c).toArray⟩) ∧ Below w.heap.size w w' := Any.strings_Repeat shRepL shRepX s c w hc hlen
end Go.Proofs.YtlhgdknmgdohkaaGreatDoor

set_option linter.unusedSimpArgs false
set_option linter.unusedVariables false
namespace Go.Proofs.YtlhgdknmgdohkaaGreatDoor
open Go Go.RowKit

/-- An object's numbers are the language's. -/
def N3 (o : AObj) : Prop := (-9223372036854775808 ≤ o.num ∧ o.num ≤ 9223372036854775807) ∧ U o.re ∧ U o.im ∧ 1 ≤ o.kind ∧ o.kind ≤ 9

theorem ob_in {H : AHeap} {v : Int} (hU : U v) (hk : kk H v ≠ 0) : ob H v ∈ H.2 := by
  have hr := kk_ref hk
  obtain ⟨hg, _⟩ := ob_get (H := H) hU hr.2.1
  exact List.mem_of_getElem? hg

/-- What a word without parts looks like, as bytes. -/
def wdL (H : AHeap) (v : Int) : List Int :=
  if kk H v = 0 then plL v
  else if kk H v = 1 then qStr (ob H v).bytes
  else if kk H v = 5 then [102, 110, 58] ++ itoaL (ob H v).num
  else if kk H v = 6 then [40] ++ nibs 16 (ob H v).re ++ [44] ++ nibs 16 (ob H v).im ++ [41]
  else if kk H v = 7 then [109, 111, 110, 105, 116, 111, 114, 58] ++ itoaL (ob H v).num
  else if kk H v = 8 then [98, 111, 120, 58] ++ itoaL (ob H v).num
  else [116, 104, 114, 101, 97, 100, 58] ++ itoaL (ob H v).num

theorem rep_zero : ∀ c, (Lib.repeatL [48] c).map (fun u => (u.toNat : Int)) = List.replicate c 48
  | 0 => rfl
  | c + 1 => by rw [Lib.repeatL, List.map_append, rep_zero c]; rfl

set_option maxRecDepth 100000 in
set_option maxHeartbeats 4000000 in
theorem bits_any (x : Int) (hU : U x) (w : World) (hd : Dz w) :
    Calls Tryz.prog 103 #[.int .u64 x] w fun e w' => e = .returned (.string (strOfNums (nibs 16 x))) ∧ Bw w w' := by
  have HU := hid hU
  have HD := hid hd
  have hq : Hid (Calls Tryz.prog 111 #[.int .u64 x, .int .i64 16] w fun e w' => ∃ (c : Nat) (s p : ByteArray), c ≤ 15 ∧ s.size + c = 16 ∧ (⟨(Lib.repeatL [48] c).toArray⟩ ++ s : ByteArray) = p ∧ p = strOfNums (nibs 16 x) ∧ e = .returned (.string s) ∧ Bw w w') := by
    refine (iuint_any x hU w hd).mono fun e w' ⟨j, hj, hz, he, hb⟩ => ⟨15 - j, strOfNums (nibs (j + 1) x), _, by omega, by rw [strOfNums_size, nibs_len]; omega, rfl, ?_, he, hb⟩
    have e1 := nibs_zero hU.1 (15 - j) (j + 1) hz
    rw [show j + 1 + (15 - j) = 16 by omega] at e1
    rw [e1, ← strOf_app4, ← rep_zero, strOf_bytes]
  clear hU hd
  go_enter Tryz.func103, Tryz.ntmps103
  go_upto_region 2 with (first
    | (go_at_call 111; refine hq.out.mono ?_; rintro e w1 ⟨c, s, p, hc, hs, hp, hz, rfl, hb1⟩; have HZ := hid hz; have HB1 := hid hb1; clear hz hb1)
    | fail)
  have hcs : IntKind.i64.wrap (16 - (s.size : Int)) = (c : Int) := by rw [IntKind.wrap_i64]; omega
  have hcs2 : (16 - (s.size : Int)) = (c : Int) := by omega
  have hno : ¬ (9223372036854775807 < (Lib.repeatL [48] c).length + s.size) := by rw [Lib.repeatL_length]; simp; omega
  have hadd : ∀ w, (Op.stringOp .add ⟨(Lib.repeatL [48] c).toArray⟩ s).run Tryz.prog w = .ok (.string p) w := fun w => by
    rw [← hp]
    exact run_string_add_sum (P := Tryz.prog) w _ s (by show (Lib.repeatL [48] c).toArray.size + s.size ≤ _; rw [List.size_toArray]; omega)
  have HR := hid (fun w1 => shRep ⟨#[48]⟩ c w1 (by omega) (by show 1 * c ≤ _; omega))
  go_wp2_with (first
    | (go_at_call 112; refine (HR.out _).mono ?_; rintro e w2 ⟨rfl, hb2⟩; have HB2 := hid (Bw.trans HB1.out hb2); clear hb2)
    | fail)
  all_goals go_ret
  all_goals exact ⟨by rw [← HZ.out]; rfl, HB2.out⟩

set_option maxRecDepth 100000 in
set_option maxHeartbeats 4000000 in
theorem number_any {b0 : Nat} {H : AHeap} {bs : List Nat} (v : Int) (hU : U v) (w : World) (hp : HS w b0 H bs) (hk : kk H v = 7 ∨ kk H v = 8 ∨ kk H v = 9) (hn : N3 (ob H v)) (hw : Pw w) :
    Calls Tryz.prog 104 #[.pointer (some ⟨b0, 0, none⟩), .int .u64 v] w fun e w' => e = .returned (.string (strOfNums (itoaL (ob H v).num))) ∧ Bw w w' := by
  have HU := hid hU
  have HP := hid hp
  have HK := hid hk
  have HI := hid (fun w1 (h1 : Bw w w1) => itoa_any (ob H v).num hn.1.1 hn.1.2 w1 (hw.bw h1))
  generalize strOfNums (itoaL (ob H v).num) = s at HI ⊢
  clear hU hp hk hn hw
  go_enter Tryz.func104, Tryz.ntmps104
  go_wp2_with (first
    | (go_at_call 113; refine (itemOf_yes _ HU.out _ HP.out HK.out).mono ?_; rintro e w1 ⟨rfl, hl1⟩; have HB1 := hid hl1.bw; clear hl1)
    | (go_at_call 83; refine (HI.out _ HB1.out).mono ?_; rintro e w2 ⟨rfl, hb2⟩; have HB2 := hid (Bw.trans HB1.out hb2); clear hb2)
    | fail)
  all_goals go_ret
  all_goals exact ⟨rfl, HB2.out⟩

set_option maxRecDepth 100000 in
set_option maxHeartbeats 4000000 in
theorem object_5 {b0 : Nat} {H : AHeap} {bs : List Nat} (v : Int) (hU : U v) (w : World) (hp : HS w b0 H bs) (hk : kk H v = 5) (hn : N3 (ob H v)) (hw : Pw w) :
    Calls Tryz.prog 87 #[.pointer (some ⟨b0, 0, none⟩), .int .u64 v] w fun e w' => e = .returned (.string (strOfNums ([102, 110, 58] ++ itoaL (ob H v).num))) ∧ Bw w w' := by
  have HU := hid hU
  have HP := hid hp
  have HI := hid (fun w1 (h1 : Bw w w1) => itoa_any (ob H v).num hn.1.1 hn.1.2 w1 (hw.bw h1))
  have hz : (strOfNums (itoaL (ob H v).num)).size ≤ 21 := by rw [strOfNums_size]; exact itoaL_len _ hn.1.1 hn.1.2
  rw [← strOf_app4]
  generalize strOfNums (itoaL (ob H v).num) = s at HI hz ⊢
  generalize hpe : (strOfNums [102, 110, 58] ++ s : ByteArray) = p
  have hadd : ∀ w, (Op.stringOp .add ⟨#[102, 110, 58]⟩ s).run Tryz.prog w = .ok (.string p) w := fun w => by
    rw [← hpe]
    exact run_string_add_sum (P := Tryz.prog) w ⟨#[102, 110, 58]⟩ s (by show 3 + s.size ≤ _; omega)
  have hpe' : (⟨#[102, 110, 58]⟩ ++ s : ByteArray) = p := hpe
  have hno : ¬ (9223372036854775807 < 3 + s.size) := by omega
  clear hU hp hn hw hz hpe
  go_enter Tryz.func87, Tryz.ntmps87
  go_wp2_with (first
    | (go_at_call 33; refine (kind_hs4 _ HU.out _ HP.out).mono ?_; rintro e w' ⟨rfl, hw'⟩; subst w'; rw [hk])
    | (go_at_call 102; refine (funOf_yes _ HU.out _ HP.out hk).mono ?_; rintro e w1 ⟨r1, rfl, _, hb1⟩; have HB1 := hid hb1; clear hb1)
    | (go_at_call 83; refine (HI.out _ HB1.out).mono ?_; rintro e w2 ⟨rfl, hb2⟩; have HB2 := hid (Bw.trans HB1.out hb2); clear hb2)
    | fail)
  all_goals go_ret
  all_goals exact ⟨rfl, HB2.out⟩

set_option maxRecDepth 100000 in
set_option maxHeartbeats 4000000 in
theorem object_7 {b0 : Nat} {H : AHeap} {bs : List Nat} (v : Int) (hU : U v) (w : World) (hp : HS w b0 H bs) (hk : kk H v = 7) (hn : N3 (ob H v)) (hw : Pw w) :
    Calls Tryz.prog 87 #[.pointer (some ⟨b0, 0, none⟩), .int .u64 v] w fun e w' => e = .returned (.string (strOfNums ([109, 111, 110, 105, 116, 111, 114, 58] ++ itoaL (ob H v).num))) ∧ Bw w w' := by
  have HU := hid hU
  have HP := hid hp
  have HI := hid (number_any v hU w hp (.inl hk) hn hw)
  have hz : (strOfNums (itoaL (ob H v).num)).size ≤ 21 := by rw [strOfNums_size]; exact itoaL_len _ hn.1.1 hn.1.2
  rw [← strOf_app4]
  generalize strOfNums (itoaL (ob H v).num) = s at HI hz ⊢
  generalize hpe : (strOfNums [109, 111, 110, 105, 116, 111, 114, 58] ++ s : ByteArray) = p
  have hadd : ∀ w, (Op.stringOp .add ⟨#[109, 111, 110, 105, 116, 111, 114, 58]⟩ s).run Tryz.prog w = .ok (.string p) w := fun w => by
    rw [← hpe]
    exact run_string_add_sum (P := Tryz.prog) w ⟨#[109, 111, 110, 105, 116, 111, 114, 58]⟩ s (by show 8 + s.size ≤ _; omega)
  have hpe' : (⟨#[109, 111, 110, 105, 116, 111, 114, 58]⟩ ++ s : ByteArray) = p := hpe
  have hno : ¬ (9223372036854775807 < 8 + s.size) := by omega
  clear hU hp hn hw hz hpe
  go_enter Tryz.func87, Tryz.ntmps87
  go_wp2_with (first
    | (go_at_call 33; refine (kind_hs4 _ HU.out _ HP.out).mono ?_; rintro e w' ⟨rfl, hw'⟩; subst w'; rw [hk])
    | (go_at_call 104; refine HI.out.mono ?_; rintro e w2 ⟨rfl, hb2⟩; have HB2 := hid hb2; clear hb2)
    | fail)
  all_goals go_ret
  all_goals exact ⟨rfl, HB2.out⟩

set_option maxRecDepth 100000 in
set_option maxHeartbeats 4000000 in
theorem object_8 {b0 : Nat} {H : AHeap} {bs : List Nat} (v : Int) (hU : U v) (w : World) (hp : HS w b0 H bs) (hk : kk H v = 8) (hn : N3 (ob H v)) (hw : Pw w) :
    Calls Tryz.prog 87 #[.pointer (some ⟨b0, 0, none⟩), .int .u64 v] w fun e w' => e = .returned (.string (strOfNums ([98, 111, 120, 58] ++ itoaL (ob H v).num))) ∧ Bw w w' := by
  have HU := hid hU
  have HP := hid hp
  have HI := hid (number_any v hU w hp (.inr (.inl hk)) hn hw)
  have hz : (strOfNums (itoaL (ob H v).num)).size ≤ 21 := by rw [strOfNums_size]; exact itoaL_len _ hn.1.1 hn.1.2
  rw [← strOf_app4]
  generalize strOfNums (itoaL (ob H v).num) = s at HI hz ⊢
  generalize hpe : (strOfNums [98, 111, 120, 58] ++ s : ByteArray) = p
  have hadd : ∀ w, (Op.stringOp .add ⟨#[98, 111, 120, 58]⟩ s).run Tryz.prog w = .ok (.string p) w := fun w => by
    rw [← hpe]
    exact run_string_add_sum (P := Tryz.prog) w ⟨#[98, 111, 120, 58]⟩ s (by show 4 + s.size ≤ _; omega)
  have hpe' : (⟨#[98, 111, 120, 58]⟩ ++ s : ByteArray) = p := hpe
  have hno : ¬ (9223372036854775807 < 4 + s.size) := by omega
  clear hU hp hn hw hz hpe
  go_enter Tryz.func87, Tryz.ntmps87
  go_wp2_with (first
    | (go_at_call 33; refine (kind_hs4 _ HU.out _ HP.out).mono ?_; rintro e w' ⟨rfl, hw'⟩; subst w'; rw [hk])
    | (go_at_call 104; refine HI.out.mono ?_; rintro e w2 ⟨rfl, hb2⟩; have HB2 := hid hb2; clear hb2)
    | fail)
  all_goals go_ret
  all_goals exact ⟨rfl, HB2.out⟩

set_option maxRecDepth 100000 in
set_option maxHeartbeats 4000000 in
theorem object_9 {b0 : Nat} {H : AHeap} {bs : List Nat} (v : Int) (hU : U v) (w : World) (hp : HS w b0 H bs) (hk : kk H v = 9) (hn : N3 (ob H v)) (hw : Pw w) :
    Calls Tryz.prog 87 #[.pointer (some ⟨b0, 0, none⟩), .int .u64 v] w fun e w' => e = .returned (.string (strOfNums ([116, 104, 114, 101, 97, 100, 58] ++ itoaL (ob H v).num))) ∧ Bw w w' := by
  have HU := hid hU
  have HP := hid hp
  have HI := hid (number_any v hU w hp (.inr (.inr hk)) hn hw)
  have hz : (strOfNums (itoaL (ob H v).num)).size ≤ 21 := by rw [strOfNums_size]; exact itoaL_len _ hn.1.1 hn.1.2
  rw [← strOf_app4]
  generalize strOfNums (itoaL (ob H v).num) = s at HI hz ⊢
  generalize hpe : (strOfNums [116, 104, 114, 101, 97, 100, 58] ++ s : ByteArray) = p
  have hadd : ∀ w, (Op.stringOp .add ⟨#[116, 104, 114, 101, 97, 100, 58]⟩ s).run Tryz.prog w = .ok (.string p) w := fun w => by
    rw [← hpe]
    exact run_string_add_sum (P := Tryz.prog) w ⟨#[116, 104, 114, 101, 97, 100, 58]⟩ s (by show 7 + s.size ≤ _; omega)
  have hpe' : (⟨#[116, 104, 114, 101, 97, 100, 58]⟩ ++ s : ByteArray) = p := hpe
  have hno : ¬ (9223372036854775807 < 7 + s.size) := by omega
  clear hU hp hn hw hz hpe
  go_enter Tryz.func87, Tryz.ntmps87
  go_wp2_with (first
    | (go_at_call 33; refine (kind_hs4 _ HU.out _ HP.out).mono ?_; rintro e w' ⟨rfl, hw'⟩; subst w'; rw [hk])
    | (go_at_call 104; refine HI.out.mono ?_; rintro e w2 ⟨rfl, hb2⟩; have HB2 := hid hb2; clear hb2)
    | fail)
  all_goals go_ret
  all_goals exact ⟨rfl, HB2.out⟩

set_option maxRecDepth 100000 in
set_option maxHeartbeats 8000000 in
theorem object_6 {b0 : Nat} {H : AHeap} {bs : List Nat} (v : Int) (hU : U v) (w : World) (hp : HS w b0 H bs) (hk : kk H v = 6) (hn : N3 (ob H v)) (hw : Dz w) :
    Calls Tryz.prog 87 #[.pointer (some ⟨b0, 0, none⟩), .int .u64 v] w fun e w' => e = .returned (.string (strOfNums ([40] ++ nibs 16 (ob H v).re ++ [44] ++ nibs 16 (ob H v).im ++ [41]))) ∧ Bw w w' := by
  have HU := hid hU
  have HP := hid hp
  have HK := hid hk
  have HR := hid (fun w1 (h1 : Bw w w1) => bits_any (ob H v).re hn.2.1 w1 (hw.bw h1))
  have HM := hid (fun w1 (h1 : Bw w w1) => bits_any (ob H v).im hn.2.2.1 w1 (hw.bw h1))
  have hz1 : (strOfNums (nibs 16 (ob H v).re)).size = 16 := by rw [strOfNums_size, nibs_len]
  have hz2 : (strOfNums (nibs 16 (ob H v).im)).size = 16 := by rw [strOfNums_size, nibs_len]
  rw [← strOf_app4, ← strOf_app4, ← strOf_app4, ← strOf_app4]
  have HC := hid (cplxOf_yes (b0 := b0) (H := H) (bs := bs) v hU w hp hk)
  generalize (ob H v).re = re at HR HC hz1 ⊢
  generalize (ob H v).im = im at HM HC hz2 ⊢
  generalize strOfNums (nibs 16 re) = s1 at HR hz1 ⊢
  generalize strOfNums (nibs 16 im) = s2 at HM hz2 ⊢
  obtain ⟨p1, h1⟩ : ∃ p1 : ByteArray, (⟨#[40]⟩ ++ s1 : ByteArray) = p1 := ⟨_, rfl⟩
  obtain ⟨p2, h2⟩ : ∃ p2 : ByteArray, (p1 ++ ⟨#[44]⟩ : ByteArray) = p2 := ⟨_, rfl⟩
  obtain ⟨p3, h3⟩ : ∃ p3 : ByteArray, (p2 ++ s2 : ByteArray) = p3 := ⟨_, rfl⟩
  obtain ⟨p4, h4⟩ : ∃ p4 : ByteArray, (p3 ++ ⟨#[41]⟩ : ByteArray) = p4 := ⟨_, rfl⟩
  have z1 : p1.size = 17 := by rw [← h1, ByteArray.size_append, hz1]; rfl
  have z2 : p2.size = 18 := by rw [← h2, ByteArray.size_append, z1]; rfl
  have z3 : p3.size = 34 := by rw [← h3, ByteArray.size_append, z2, hz2]
  have HF : Hid (strOfNums [40] ++ s1 ++ strOfNums [44] ++ s2 ++ strOfNums [41] = p4) := by
    show strOfNums [40] ++ s1 ++ strOfNums [44] ++ s2 ++ strOfNums [41] = p4
    rw [← h4, ← h3, ← h2, ← h1]; rfl
  have d1 : ∀ w, (Op.stringOp .add ⟨#[40]⟩ s1).run Tryz.prog w = .ok (.string p1) w := fun w => by
    rw [← h1]; exact run_string_add_sum (P := Tryz.prog) w ⟨#[40]⟩ s1 (by show 1 + s1.size ≤ _; omega)
  have d2 : ∀ w, (Op.stringOp .add p1 ⟨#[44]⟩).run Tryz.prog w = .ok (.string p2) w := fun w => by
    rw [← h2]; exact run_string_add_sum (P := Tryz.prog) w p1 ⟨#[44]⟩ (by show p1.size + 1 ≤ _; omega)
  have d3 : ∀ w, (Op.stringOp .add p2 s2).run Tryz.prog w = .ok (.string p3) w := fun w => by
    rw [← h3]; exact run_string_add_sum (P := Tryz.prog) w p2 s2 (by omega)
  have d4 : ∀ w, (Op.stringOp .add p3 ⟨#[41]⟩).run Tryz.prog w = .ok (.string p4) w := fun w => by
    rw [← h4]; exact run_string_add_sum (P := Tryz.prog) w p3 ⟨#[41]⟩ (by show p3.size + 1 ≤ _; omega)
  have n1 : ¬ (9223372036854775807 < 1 + s1.size) := by omega
  have n2 : ¬ (9223372036854775807 < p1.size + 1) := by omega
  have n3 : ¬ (9223372036854775807 < p2.size + s2.size) := by omega
  have n4 : ¬ (9223372036854775807 < p3.size + 1) := by omega
  clear hU hp hn hw hz1 hz2 z1 z2 z3
  go_enter Tryz.func87, Tryz.ntmps87
  go_wp2_with (first
    | (go_at_call 33; refine (kind_hs4 _ HU.out _ HP.out).mono ?_; rintro e w' ⟨rfl, hw'⟩; subst w'; rw [hk])
    | (go_at_call 65; refine HC.out.mono ?_; rintro e w1 ⟨rfl, hl1⟩; have HB1 := hid hl1.bw; clear hl1)
    | (go_at_call_of 103 (Value.int .u64 re); refine (HR.out _ (by first | exact HB1.out | exact HB2.out)).mono ?_; rintro e w2 ⟨rfl, hb2⟩; have HB2 := hid (Bw.trans HB1.out hb2); clear hb2)
    | (go_at_call_of 103 (Value.int .u64 im); refine (HM.out _ HB2.out).mono ?_; rintro e w3 ⟨rfl, hb3⟩; have HB3 := hid (Bw.trans HB2.out hb3); clear hb3)
    | fail)
  all_goals go_ret
  all_goals exact ⟨by rw [HF.out]; rfl, HB3.out⟩

/-- What is asked of the world by texts: the library's two tables. -/
def Pd (w : World) : Prop := Pw w ∧ Dz w
theorem Pd.bw {w w' : World} (h : Pd w) (hb : Bw w w') : Pd w' := ⟨h.1.bw hb, h.2.bw hb⟩

set_option maxRecDepth 100000 in
set_option maxHeartbeats 4000000 in
theorem plain_obj {b0 : Nat} {H : AHeap} {bs : List Nat} (v : Int) (hU : U v) (w : World) (hp : HS w b0 H bs) (hk : kk H v ≠ 0) (s : ByteArray)
    (ho : Calls Tryz.prog 87 #[.pointer (some ⟨b0, 0, none⟩), .int .u64 v] w fun e w' => e = .returned (.string s) ∧ Bw w w') :
    Calls Tryz.prog 67 #[.pointer (some ⟨b0, 0, none⟩), .int .u64 v] w fun e w' => e = .returned (.string s) ∧ Bw w w' := by
  have hkd : kd v = 2 := (kk_ref (H := H) (v := v) hk).1
  have HU := hid hU
  have HO := hid ho
  clear hp hU hk ho
  go_enter Tryz.func67, Tryz.ntmps67
  go_wp2_with (first
    | (go_at_call 60; refine (kind_any _ HU.out _).mono ?_; rintro e w' ⟨rfl, hw'⟩; subst w'; rw [hkd])
    | (go_at_call 87; refine HO.out.mono ?_; rintro e w1 ⟨rfl, hb1⟩; have HB1 := hid hb1; clear hb1)
    | fail)
  all_goals go_ret
  all_goals exact ⟨rfl, HB1.out⟩

/-- The program's plain, of any word without parts. -/
theorem plain_wd {b0 : Nat} {H : AHeap} {bs : List Nat} (hn3 : ∀ o ∈ H.2, N3 o) (v : Int) (hU : U v) (w : World) (hp : HS w b0 H bs) (hk : (kk H v == 2 || kk H v == 3 || kk H v == 4) = false) (hw : Pd w) :
    Calls Tryz.prog 67 #[.pointer (some ⟨b0, 0, none⟩), .int .u64 v] w fun e w' => e = .returned (.string (strOfNums (wdL H v))) ∧ Bw w w' := by
  unfold wdL
  by_cases k0 : kk H v = 0
  · rw [if_pos k0]; exact plain_no v hU w hp k0 hw.1
  have hoo := ob_ok (v := v) hp.ok hU (kk_ref k0).2.1
  have hn : N3 (ob H v) := hn3 _ (ob_in hU k0)
  rw [if_neg k0]
  by_cases k1 : kk H v = 1
  · rw [if_pos k1]; exact plain_str v hU w hp k1 hoo.2.2.2.2.1 hoo.2.2.2.2.2.1
  rw [if_neg k1]
  refine plain_obj v hU w hp k0 _ ?_
  by_cases k5 : kk H v = 5
  · rw [if_pos k5]; exact object_5 v hU w hp k5 hn hw.1
  rw [if_neg k5]
  by_cases k6 : kk H v = 6
  · rw [if_pos k6]; exact object_6 v hU w hp k6 hn hw.2
  rw [if_neg k6]
  by_cases k7 : kk H v = 7
  · rw [if_pos k7]; exact object_7 v hU w hp k7 hn hw.1
  rw [if_neg k7]
  by_cases k8 : kk H v = 8
  · rw [if_pos k8]; exact object_8 v hU w hp k8 hn hw.1
  rw [if_neg k8]
  by_cases k9 : kk H v = 9
  · exact object_9 v hU w hp k9 hn hw.1
  · exfalso
    simp only [Bool.or_eq_false_iff, beq_eq_false_iff_ne] at hk
    have h1 := hn.2.2.2
    have h2 := (kk_ref k0).2.2
    omega

end Go.Proofs.YtlhgdknmgdohkaaGreatDoor

