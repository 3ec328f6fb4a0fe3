/- Hexadecimal digits: the library's FormatUint at base 16, and the program's 16 digits. -/
import Derived.Test.YtimidonagbfjcaaGreatDoorK10
set_option linter.unusedSimpArgs false
set_option linter.unusedVariables false
namespace Go.Proofs.YtimidonagbfjcaaGreatDoor
open Go Go.RowKit

/-- The library's table of de Bruijn's bits, at the one place that is read here. -/
def Dz (w : World) : Prop := w.cell? ⟨2, 15, none⟩ = some (.int .u8 4)

theorem Dz.bw {w w' : World} (h : Dz w) (hb : Bw w w') : Dz w' := by
  have hlt : 2 < w.heap.size := World.block_lt_of_cell? w ⟨2, 15, none⟩ h
  unfold Dz at h ⊢
  rw [← h]
  exact World.cell?_of_block (w := w) (w' := w') (a := ⟨2, 15, none⟩) (hb.block 2 hlt)

/-- The last j hexadecimal digits, the first ahead. -/
def nibs : Nat → Int → List Int
  | 0, _ => []
  | j + 1, x => hexD ((x / 16 ^ j) % 16) :: nibs j x

theorem nibs_len (j : Nat) (x : Int) : (nibs j x).length = j := by
  induction j with
  | zero => rfl
  | succ j ih => rw [nibs, List.length_cons, ih]

theorem nibs_byte (j : Nat) (x : Int) : ∀ c ∈ nibs j x, 0 ≤ c ∧ c ≤ 255 := by
  induction j with
  | zero => intro c hc; cases hc
  | succ j ih =>
    intro c hc
    rcases List.mem_cons.1 hc with rfl | hc
    · exact hexD_byte (by omega) (by omega)
    · exact ih c hc

theorem dig_at (w : World) (n : Int) (h0 : 0 ≤ n) (h1 : n < 16) :
    (Instr.index 9 (.string ⟨#[48, 49, 50, 51, 52, 53, 54, 55, 56, 57, 97, 98, 99, 100, 101, 102, 103, 104, 105, 106, 107, 108, 109, 110, 111, 112, 113, 114, 115, 116, 117, 118, 119, 120, 121, 122]⟩) (.int .u64 n)).run Tryz.prog w = .ok (.int .u8 (hexD n)) w := by
  have hn : n = 0 ∨ n = 1 ∨ n = 2 ∨ n = 3 ∨ n = 4 ∨ n = 5 ∨ n = 6 ∨ n = 7 ∨ n = 8 ∨ n = 9 ∨ n = 10 ∨ n = 11 ∨ n = 12 ∨ n = 13 ∨ n = 14 ∨ n = 15 := by omega
  rw [run_index_string w 9 _ .u64 n under9]
  rcases hn with rfl | rfl | rfl | rfl | rfl | rfl | rfl | rfl | rfl | rfl | rfl | rfl | rfl | rfl | rfl | rfl <;> rfl

theorem and15u (c : Int) (h : U c) : bits .and .u64 c 15 = c % 16 := by
  rw [u64_and c 15 h.1 (by have := h.2; omega) (by omega) (by omega)]
  have e := Nat.and_two_pow_sub_one_eq_mod c.toNat 4
  have e2 : c.toNat &&& 15 = c.toNat % 16 := e
  have := h.1
  rw [show (15 : Int).toNat = 15 from rfl, e2]
  omega

set_option maxHeartbeats 4000000 in
theorem tz64_16 (w : World) (hd : Dz w) : Calls Tryz.prog 109 #[.int .u64 16] w fun e w' => e = .returned (.int .i64 4) ∧ w' = w := by
  have hd' : w.cell? ⟨2, 15, none⟩ = some (.int .u8 4) := hd
  have h1 : bits .and .u64 16 (IntKind.u64.wrap (-16)) = 16 := by decide
  have h2 : IntKind.u64.wrap (16 * 285870213051353865) = 4573923408821661840 := by decide
  go_enter Tryz.func109, Tryz.ntmps109
  go_wp2
  all_goals go_ret
  all_goals exact ⟨rfl, rfl⟩

set_option maxHeartbeats 4000000 in
theorem tz_16 (w : World) (hd : Dz w) : Calls Tryz.prog 102 #[.int .u64 16] w fun e w' => e = .returned (.int .i64 4) ∧ w' = w := by
  have HD := hid hd
  clear hd
  go_enter Tryz.func102, Tryz.ntmps102
  go_wp2_with (first
    | (go_at_call 109; refine (tz64_16 _ HD.out).mono ?_; rintro e w' ⟨rfl, hw'⟩; subst w')
    | fail)
  all_goals go_ret
  all_goals exact ⟨rfl, rfl⟩

set_option maxHeartbeats 4000000 in
theorem pow2_16 (w : World) : Calls Tryz.prog 101 #[.int .i64 16] w fun e w' => e = .returned (.bool true) ∧ w' = w := by
  have h1 : bits .and .i64 16 15 = 0 := by decide
  go_enter Tryz.func101, Tryz.ntmps101
  go_wp2
  all_goals go_ret
  all_goals exact ⟨rfl, rfl⟩

theorem pow16 (j : Nat) : (0 : Int) < 16 ^ j := by
  induction j with
  | zero => decide
  | succ j ih => rw [Int.pow_succ]; omega

theorem div16 (x : Int) (j : Nat) : x / 16 ^ j / 16 = x / 16 ^ (j + 1) := by
  rw [Int.pow_succ, Int.ediv_ediv_of_nonneg (Int.le_of_lt (pow16 j))]

theorem div_bd {x : Int} (h : U x) (j : Nat) : 0 ≤ x / 16 ^ j ∧ x / 16 ^ j ≤ x := by
  have hp := pow16 j
  exact ⟨Int.ediv_nonneg h.1 (Int.le_of_lt hp), Int.ediv_le_self _ h.1⟩

theorem drop_set {α : Type} (l : List α) (m : Nat) (v : α) (h : m < l.length) : (l.set m v).drop m = v :: l.drop (m + 1) := by
  rw [List.drop_eq_getElem_cons (by simpa using h), List.getElem_set_self, List.drop_set_of_lt (by omega)]

theorem slice65 (g m j : Nat) (h : m + j = 64) (w : World) : (Instr.sliceAt 151 (.pointer (some ⟨g, 0, none⟩)) (some (.int .i64 (m : Int))) none none).run Tryz.prog w = .ok (.slice (some ⟨g, m, none⟩) (j + 1) (j + 1)) w := by
  have e65 : Tryz.prog.arrayLen 151 = 65 := by kernel_rfl
  have es : (sizeOf (Tryz.prog.elem 151)).run Tryz.prog w = .ok 1 w := by kernel_rfl
  rw [run_sliceAt_array_l w 151 _ (by kernel_rfl) .i64 m (by omega) (by rw [e65]; omega), es]
  simp only [Result.andThen_ok, slicedAt, e65, Int.toNat_natCast]
  rw [if_neg (by omega), show 65 - m = j + 1 by omega]
  simp [Addr.add]
  intro e
  exact e.symm

set_option maxRecDepth 100000 in
set_option maxHeartbeats 16000000 in
theorem fbits_any (x : Int) (hU : U x) (w : World) (hd : Dz w) :
    Calls Tryz.prog 90 #[.slice none 0 0, .int .u64 x, .int .i64 16, .bool false, .bool false] w fun e w' => ∃ j : Nat, j ≤ 15 ∧ x / 16 ^ (j + 1) = 0 ∧ e = .returned (.tuple #[.slice none 0 0, .string (strOfNums (nibs (j + 1) x))]) ∧ Bw w w' := by
  have HU := hid hU
  have HD := hid hd
  clear hU hd
  go_enter Tryz.func90, Tryz.ntmps90
  go_upto_region 4 with fail
  go_cut [13] (fun s wc => s = .int .i64 65 ∧ ∃ cur : Array Value, cur.size = 65 ∧ Blk wc w.heap.size cur 151 ∧ Bw w wc)
  case first =>
    go_wp2
    go_meet
    exact ⟨rfl, _, rfl, Blk.new w _ _, by repeat (first | exact Bw.refl _ | apply Bw.lay | apply Bw.alloc | apply Bw.drewN | apply Bw.drew)⟩
  case rest =>
    obtain ⟨rfl, cur0, hsz0, hk0, hb0⟩ := hcut
    rename World => w1
    have K0 := hid hk0
    have B0 := hid hb0
    have S0 := hid hsz0
    have D1 := hid (HD.out.bw hb0)
    clear hk0 hb0 hsz0
    go_wp2_with (first
      | (go_at_call 101; refine (pow2_16 _).mono ?_; rintro e w' ⟨rfl, hw'⟩; subst w')
      | (go_at_call 102; refine (tz_16 _ D1.out).mono ?_; rintro e w' ⟨rfl, hw'⟩; subst w')
      | fail)
    go_loopw [1, 13] (fun u i wr => ∃ (j m : Nat) (cur : Array Value), j ≤ 15 ∧ m + j = 64 ∧ u = .int .u64 (x / 16 ^ j) ∧ i = .int .i64 ((m : Int) + 1) ∧ cur.size = 65 ∧ cur.toList.drop (m + 1) = (nibs j x).map (Value.int .u8) ∧ Blk wr w.heap.size cur 151 ∧ Bw w wr) (fun u _ _ => (intOf u).toNat)
    case atStart => exact ⟨0, 64, cur0, by omega, by omega, by simp, by rfl, S0.out, by rw [List.drop_eq_nil_of_le (by simp [S0.out])]; rfl, K0.out, B0.out⟩
    case round =>
      obtain ⟨j, m, cur, hj, hm, rfl, rfl, hsz, hdr, hk, hb⟩ := hrel
      have hbd := div_bd HU.out j
      have hux := HU.out
      have hml : m < cur.toList.length := by simp [hsz]; omega
      obtain ⟨cm, hc⟩ : ∃ cm, wr.cell? ⟨w.heap.size, m, none⟩ = some cm := ⟨cur[m]'(by omega), by rw [hk.cell m]; exact Array.getElem?_eq_getElem _⟩
      have hfr := hk.free m
      have hm0 : (0 : Int) ≤ (m : Int) := by omega
      have hm1 : (m : Int) < 65 := by omega
      have KS := hid (fun (v : Value) => hk.set m v)
      have HBW : Hid (∀ v, Bw w (wr.setCell ⟨w.heap.size, m, none⟩ v)) := fun v => ⟨hb.os, hb.tape, hb.output, by have := hb.size; simpa [World.setCell] using this, fun b hlt => (Below.heap_setCell wr ⟨w.heap.size, m, none⟩ v b (show b ≠ w.heap.size by omega)).trans (hb.block b hlt)⟩
      have HNB := hid (nibs_byte (j + 1) x)
      have HNX : Hid (∀ v, (cur.setIfInBounds m v).toList.drop m = v :: (nibs j x).map (Value.int .u8)) := by
        intro v
        rw [Array.toList_setIfInBounds, drop_set _ _ _ hml, hdr]
      have HSZ := hid hsz
      have HD16 := hid (div16 x j)
      by_cases h16 : 16 ≤ x / 16 ^ j
      · have hj15 : j + 1 ≤ 15 := by
          by_cases e : j = 15
          · exfalso
            subst e
            have : x / 16 ^ 15 < 16 := by
              have h2 := hux.2
              have e15 : (16 : Int) ^ 15 = 1152921504606846976 := by decide
              rw [e15]; omega
            omega
          · omega
        have hdv : x / 16 ^ j / 16 < x / 16 ^ j := by omega
        have hge : decide (16 ≤ x / 16 ^ j) = true := decide_eq_true h16
        have hU2 : U (x / 16 ^ j) := ⟨hbd.1, by have := hux.2; omega⟩
        have ha := and15u _ hU2
        have hi1 : ∀ w, (Instr.index 9 (.string ⟨#[48, 49, 50, 51, 52, 53, 54, 55, 56, 57, 97, 98, 99, 100, 101, 102, 103, 104, 105, 106, 107, 108, 109, 110, 111, 112, 113, 114, 115, 116, 117, 118, 119, 120, 121, 122]⟩) (.int .u64 (x / 16 ^ j % 16))).run Tryz.prog w = .ok (.int .u8 (hexD (x / 16 ^ j % 16))) w := fun w => dig_at w _ (by omega) (by omega)
        have HNN : Hid (nibs (j + 1) x = hexD (x / 16 ^ j % 16) :: nibs j x) := rfl
        have HQ := hid (And.intro hdv hbd.1)
        clear hk hb hdr hsz hml HNB hux
        generalize x / 16 ^ j = u at hge ha hi1 HNN HD16 HQ hU2 hbd h16 hdv ⊢
        clear hbd hU2 hdv
        go_wp2
        go_roundw
        case rel => exact ⟨j + 1, m - 1, cur.setIfInBounds m (.int .u8 (hexD (u % 16))), hj15, by omega, by rw [HD16.out], by rw [show ((m - 1 : Nat) : Int) + 1 = m by omega], by rw [Array.size_setIfInBounds]; exact HSZ.out, by rw [show m - 1 + 1 = m by omega, HNX.out, HNN.out]; rfl, KS.out _, HBW.out _⟩
        case measure => have := HQ.out; simp only [intOf]; omega
      · have hge : decide (16 ≤ x / 16 ^ j) = false := decide_eq_false h16
        have hi1 : ∀ w, (Instr.index 9 (.string ⟨#[48, 49, 50, 51, 52, 53, 54, 55, 56, 57, 97, 98, 99, 100, 101, 102, 103, 104, 105, 106, 107, 108, 109, 110, 111, 112, 113, 114, 115, 116, 117, 118, 119, 120, 121, 122]⟩) (.int .u64 (x / 16 ^ j))).run Tryz.prog w = .ok (.int .u8 (hexD (x / 16 ^ j))) w := fun w => dig_at w _ (by omega) (by omega)
        have HNN : Hid (nibs (j + 1) x = hexD (x / 16 ^ j) :: nibs j x) := by
          show hexD (x / 16 ^ j % 16) :: nibs j x = _
          rw [show x / 16 ^ j % 16 = x / 16 ^ j by omega]
        have HZ : Hid (x / 16 ^ (j + 1) = 0) := by
          show x / 16 ^ (j + 1) = 0
          rw [← HD16.out]; omega
        have hsl := slice65 w.heap.size m j hm
        have hcv : (convert 30 9 (.slice (some ⟨w.heap.size, m, none⟩) (j + 1) (j + 1))).run Tryz.prog (wr.setCell ⟨w.heap.size, m, none⟩ (.int .u8 (hexD (x / 16 ^ j)))) = .ok (.string (strOfNums (nibs (j + 1) x))) (wr.setCell ⟨w.heap.size, m, none⟩ (.int .u8 (hexD (x / 16 ^ j)))) := by
          have hby : By (wr.setCell ⟨w.heap.size, m, none⟩ (.int .u8 (hexD (x / 16 ^ j)))) (.slice (some ⟨w.heap.size, m, none⟩) (nibs (j + 1) x).length (j + 1)) (nibs (j + 1) x) := by
            refine ⟨⟨by simp, some ⟨w.heap.size, m, none⟩, j + 1, rfl, ⟨by rw [nibs_len]; omega, fun e => by cases e⟩, .inr ⟨w.heap.size, m, rfl, (KS.out (.int .u8 (hexD (x / 16 ^ j)))).lt, trivial, fun i hi => ?_⟩⟩, nibs_byte _ _, by rw [nibs_len]; omega⟩
            rw [(KS.out (.int .u8 (hexD (x / 16 ^ j)))).cell (m + i)]
            have h1 := HNX.out (.int .u8 (hexD (x / 16 ^ j)))
            have h2 : ((cur.setIfInBounds m (.int .u8 (hexD (x / 16 ^ j)))).toList.drop m)[i]? = ((nibs (j + 1) x).map (Value.int .u8))[i]? := by rw [h1, HNN.out]; rfl
            rw [List.getElem?_drop] at h2
            rw [← h2, ← Array.getElem?_toList]
          have := hby.conv0
          rw [nibs_len] at this
          exact this
        clear hk hb hdr hsz hml hux HD16 HNB
        generalize hze : strOfNums (nibs (j + 1) x) = z at hcv
        have HZE := hid hze
        clear hze
        generalize x / 16 ^ j = u at hge hi1 HNN hbd h16 hcv ⊢
        clear hbd
        go_wp2
        all_goals go_ret2
        all_goals exact ⟨j, hj, HZ.out, by rw [HZE.out]; rfl, HBW.out _⟩

set_option maxHeartbeats 4000000 in
theorem fuint_any (x : Int) (hU : U x) (w : World) (hd : Dz w) :
    Calls Tryz.prog 91 #[.int .u64 x, .int .i64 16] w fun e w' => ∃ j : Nat, j ≤ 15 ∧ x / 16 ^ (j + 1) = 0 ∧ e = .returned (.string (strOfNums (nibs (j + 1) x))) ∧ Bw w w' := by
  have HU := hid hU
  have HD := hid hd
  clear hU hd
  go_enter Tryz.func91, Tryz.ntmps91
  go_wp2_with (first
    | (go_at_call 90; refine (fbits_any x HU.out _ HD.out).mono ?_; rintro e w1 ⟨j, hj, hz, rfl, hb⟩; have HJ := hid (And.intro hj (And.intro hz hb)); clear hj hz hb)
    | fail)
  all_goals go_ret
  all_goals exact ⟨j, HJ.out.1, HJ.out.2.1, rfl, HJ.out.2.2⟩

set_option maxHeartbeats 4000000 in
theorem iuint_any (x : Int) (hU : U x) (w : World) (hd : Dz w) :
    Calls Tryz.prog 83 #[.int .u64 x, .int .i64 16] w fun e w' => ∃ j : Nat, j ≤ 15 ∧ x / 16 ^ (j + 1) = 0 ∧ e = .returned (.string (strOfNums (nibs (j + 1) x))) ∧ Bw w w' := by
  have HU := hid hU
  have HD := hid hd
  clear hU hd
  go_enter Tryz.func83, Tryz.ntmps83
  go_wp2_with (first
    | (go_at_call 91; refine (fuint_any x HU.out _ HD.out).mono ?_; rintro e w1 ⟨j, hj, hz, rfl, hb⟩; have HJ := hid (And.intro hj (And.intro hz hb)); clear hj hz hb)
    | fail)
  all_goals go_ret
  all_goals exact ⟨j, HJ.out.1, HJ.out.2.1, rfl, HJ.out.2.2⟩

theorem nibs_zero {x : Int} (h0 : 0 ≤ x) : ∀ (k j : Nat), x / 16 ^ j = 0 → nibs (j + k) x = List.replicate k 48 ++ nibs j x
  | 0, j, _ => rfl
  | k + 1, j, h => by
    have ih := nibs_zero h0 k j h
    rw [← Nat.add_assoc, nibs, ih]
    have e : x / 16 ^ (j + k) = 0 := by
      have hp := pow16 k
      rw [Int.pow_add, ← Int.ediv_ediv_of_nonneg (Int.le_of_lt (pow16 j)), h, Int.zero_ediv]
    rw [e]
    rfl

end Go.Proofs.YtimidonagbfjcaaGreatDoor

