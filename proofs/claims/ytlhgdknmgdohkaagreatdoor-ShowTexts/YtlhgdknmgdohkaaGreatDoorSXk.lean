/- What words that are no objects look like: the document's plain, text, Text. -/
import Derived.Test.YtlhgdknmgdohkaaGreatDoorK11
import Derived.Laws.BytesArg
set_option linter.unusedSimpArgs false
set_option linter.unusedVariables false
namespace Go.Proofs.YtlhgdknmgdohkaaGreatDoor
open Go Go.RowKit

theorem rwrap_lo (q : Int) (h0 : 0 ≤ q) (h1 : q < 4611686018427387904) : (2305843009213693951 < q ∨ ¬ 2305843009213693951 < q) := by omega

set_option maxHeartbeats 400000 in
theorem rwrap_any (q : Int) (h0 : 0 ≤ q) (h1 : q < 4611686018427387904) (w : World) :
    Calls Tryz.prog 105 #[.int .i64 q] w fun e w' => e = .returned (.int .i64 (nm (4 * q))) ∧ w' = w := by
  go_enter Tryz.func105, Tryz.ntmps105
  go_wp2
  all_goals
    go_ret
    refine ⟨ret_int ?_, rfl⟩
    unfold nm
    omega

set_option maxHeartbeats 400000 in
theorem rnum_yes (v : Int) (hv : U v) (hn : v % 4 = 0) (w : World) :
    Calls Tryz.prog 88 #[.int .u64 v] w fun e w' => e = .returned (.tuple #[.int .i64 (nm v), .bool true]) ∧ w' = w := by
  have h0 : 0 ≤ v := hv.1
  have h1 : v / 4 < 4611686018427387904 := by have := hv.2; omega
  have hb : (v % 4 != 0) = false := by simpa using hn
  go_enter Tryz.func88, Tryz.ntmps88
  go_wp2_with (go_at_call 105; refine (rwrap_any _ (by omega) (by omega) _).mono ?_; rintro e w' ⟨rfl, rfl⟩)
  go_ret2
  refine ⟨ret_ib ?_ rfl, rfl⟩
  rw [show 4 * (v / 4) = v by omega]

theorem kd_zero {v : Int} (h : kd v = 0) : v % 4 = 0 := by unfold kd at h; repeat' split at h; all_goals omega
theorem kd_one {v : Int} (h : kd v = 1) : v = 1 ∨ v = 5 ∨ v = 9 := by unfold kd at h; repeat' split at h; all_goals omega

set_option maxRecDepth 100000 in
set_option maxHeartbeats 4000000 in
theorem rplain_int (v : Int) (hU : U v) (w : World) (hk : kd v = 0) :
    Calls Tryz.prog 68 #[.int .u64 v] w fun e w' => e = .returned (.string (strOfNums (plL v))) ∧ Ly w w' := by
  have e : plL v = itoaL (nm v) := by unfold plL; rw [if_pos hk]
  rw [e]
  have HU := hid hU
  have HK := hid (kd_zero hk)
  have HI := hid (vDec4_any _ (nm v) (Nat.lt_succ_self _) (by have := nm_bd v; omega) (by have := nm_bd v; omega) w)
  generalize strOfNums (itoaL (nm v)) = s at HI ⊢
  clear hU e
  go_enter Tryz.func68, Tryz.ntmps68
  go_wp2_with (first
    | (go_at_call 41; refine (rkind_any _ HU.out _).mono ?_; rintro e w' ⟨rfl, hw'⟩; subst w'; rw [hk])
    | (go_at_call 88; refine (rnum_yes _ HU.out HK.out _).mono ?_; rintro e w' ⟨rfl, hw'⟩; subst w')
    | (go_at_call 70; refine HI.out.mono ?_; rintro e w1 ⟨rfl, hb1⟩; have HB1 := hid hb1; clear hb1)
    | fail)
  all_goals go_ret
  all_goals exact ⟨rfl, HB1.out⟩

set_option maxRecDepth 100000 in
set_option maxHeartbeats 4000000 in
theorem rplain_prim (v : Int) (hU : U v) (w : World) (hk : kd v = 3) :
    Calls Tryz.prog 68 #[.int .u64 v] w fun e w' => e = .returned (.string (strOfNums (plL v))) ∧ Ly w w' := by
  have e : plL v = [112, 114, 105, 109, 58] ++ itoaL (idxV v) := by unfold plL; rw [if_neg (by omega), if_neg (by omega), if_pos hk]
  have hl := itoaL_len (idxV v) (by have := idx_top v hU; omega) (by have := idx_top v hU; omega)
  rw [e, ← strOf_app4]
  have HU := hid hU
  have HI := hid (vDec4_any _ (idxV v) (Nat.lt_succ_self _) (by have := idx_top v hU; omega) (by have := idx_top v hU; omega) w)
  have hz : (strOfNums (itoaL (idxV v))).size ≤ 21 := by rw [strOfNums_size]; exact hl
  generalize strOfNums (itoaL (idxV v)) = s at HI hz ⊢
  generalize hpe : (strOfNums [112, 114, 105, 109, 58] ++ s : ByteArray) = p
  have hadd : ∀ w, (Op.stringOp .add ⟨#[112, 114, 105, 109, 58]⟩ s).run Tryz.prog w = .ok (.string p) w := fun w => by
    rw [← hpe]
    exact run_string_add_sum (P := Tryz.prog) w ⟨#[112, 114, 105, 109, 58]⟩ s (by show 5 + s.size ≤ _; omega)
  have hpe' : (⟨#[112, 114, 105, 109, 58]⟩ ++ s : ByteArray) = p := hpe
  have hno : ¬ (9223372036854775807 < 5 + s.size) := by omega
  clear hU e hl hz hpe
  go_enter Tryz.func68, Tryz.ntmps68
  go_wp2_with (first
    | (go_at_call 41; refine (rkind_any _ HU.out _).mono ?_; rintro e w' ⟨rfl, hw'⟩; subst w'; rw [hk])
    | (go_at_call 40; refine (rindex_any _ HU.out _).mono ?_; rintro e w' ⟨rfl, hw'⟩; subst w')
    | (go_at_call 70; refine HI.out.mono ?_; rintro e w1 ⟨rfl, hb1⟩; have HB1 := hid hb1; clear hb1)
    | fail)
  all_goals go_ret
  all_goals exact ⟨rfl, HB1.out⟩

set_option maxRecDepth 100000 in
set_option maxHeartbeats 4000000 in
theorem rplain_rest (v : Int) (hU : U v) (w : World) (hk : kd v = 1 ∨ kd v = 2 ∨ kd v = 4) :
    Calls Tryz.prog 68 #[.int .u64 v] w fun e w' => e = .returned (.string (strOfNums (plL v))) ∧ Ly w w' := by
  have HU := hid hU
  rcases hk with hk | hk | hk
  · rcases kd_one hk with h | h | h
    all_goals subst h
    all_goals clear hU
    all_goals go_enter Tryz.func68, Tryz.ntmps68
    all_goals go_wp2_with (first
      | (go_at_call 41; refine (rkind_any _ HU.out _).mono ?_; rintro e w' ⟨rfl, hw'⟩; subst w'; rw [hk])
      | fail)
    all_goals go_ret
    all_goals exact ⟨rfl, Ly.refl _⟩
  all_goals
    have e : strOfNums (plL v) = ⟨#[63]⟩ := by unfold plL; rw [if_neg (by omega), if_neg (by omega), if_neg (by omega)]; rfl
    rw [e]
    clear hU e
    go_enter Tryz.func68, Tryz.ntmps68
    go_wp2_with (first
      | (go_at_call 41; refine (rkind_any _ HU.out _).mono ?_; rintro e w' ⟨rfl, hw'⟩; subst w'; rw [hk])
      | fail)
    all_goals go_ret
    all_goals exact ⟨rfl, Ly.refl _⟩

theorem rplain_any (v : Int) (hU : U v) (w : World) :
    Calls Tryz.prog 68 #[.int .u64 v] w fun e w' => e = .returned (.string (strOfNums (plL v))) ∧ Ly w w' := by
  rcases kd_cases v with h | h | h | h | h
  · exact rplain_int v hU w h
  · exact rplain_rest v hU w (.inl h)
  · exact rplain_rest v hU w (.inr (.inl h))
  · exact rplain_prim v hU w h
  · exact rplain_rest v hU w (.inr (.inr h))

set_option maxRecDepth 100000 in
set_option maxHeartbeats 4000000 in
theorem rtext_no (v k : Int) (hU : U v) (w : World) :
    Calls Tryz.prog 39 #[.agg #[.int .i64 k, .slice none 0 0], .int .u64 v, .slice none 0 0, .int .i64 65536] w fun e w' => e = .returned (.string (strOfNums (plL v))) ∧ Ly w w' := by
  have HU := hid hU
  have HR := hid (fun w' => (⟨_, [], rfl, rfl, Sl.nil w' (fun _ => True) 7, fun i o x h => by simp at h⟩ : RdH w' (fun _ => True) (.agg #[.int .i64 k, .slice none 0 0]) (k, [])))
  have hk : kk (k, []) v = 0 := by unfold kk; rw [if_neg (by have := idx_bd v hU; simp; intro _; omega)]
  have HP := hid (fun w => rplain_any v hU w)
  generalize strOfNums (plL v) = s at HP ⊢
  clear hU
  go_enter Tryz.func39, Tryz.ntmps39
  go_wp2_with (first
    | (go_at_call 20; refine (rkindH_any (fun _ => True) _ (k, []) _ HU.out _ (HR.out _) (by simp)).mono ?_; rw [hk]; rintro e w1 ⟨rfl, os1, m1, rfl⟩)
    | (go_at_call 68; refine (HP.out _).mono ?_; rintro e w2 ⟨rfl, os2, m2, rfl⟩)
    | fail)
  all_goals go_ret
  all_goals exact ⟨rfl, by repeat (first | exact Ly.refl _ | apply Ly.lay | apply Ly.alloc | apply Ly.drewN | apply Ly.drew)⟩

theorem by_str4 (w : World) (l : List Int) (hb : ∀ c ∈ l, 0 ≤ c ∧ c ≤ 255) (hl : l.length ≤ 1000000) :
    ∃ cap w', (convert 9 44 (.string (strOfNums l))).run Tryz.prog w = .ok (.slice (some ⟨w.heap.size, 0, none⟩) l.length cap) w' ∧ By w' (.slice (some ⟨w.heap.size, 0, none⟩) l.length cap) l ∧ Bw w w' := by
  refine ⟨_, _, by rw [← strOfNums_size l]; exact run_bytes_of_string w 9 44 5 (strOfNums l) under9 under22 under5, ?_, Bw.alloc (Bw.drew (Bw.refl w)) _⟩
  have hge := grownCap_ge w (strOfNums l).size 0 5
  rw [strOfNums_size] at hge
  refine ⟨⟨by simp, _, _, rfl, ⟨by rw [strOfNums_size]; omega, fun h => by cases h⟩, ?_⟩, hb, by omega⟩
  by_cases h0 : l.length = 0
  · exact .inl h0
  · refine .inr ⟨w.heap.size, 0, rfl, by simp, trivial, fun i hi => ?_⟩
    have hi' : i < l.length := by omega
    have hsz : i < (strOfNums l).data.size := by have := strOfNums_size l; show i < (strOfNums l).size; omega
    rw [Nat.zero_add]
    show (w.drew.alloc _).cell? ⟨w.drew.heap.size, i, none⟩ = _
    rw [World.cell?_alloc_mark, bytesRow_at _ _ _ hsz, List.getElem?_map, List.getElem?_eq_getElem hi']
    have hc := hb l[i] (List.getElem_mem hi')
    simp only [strOfNums, List.getElem_toArray, List.getElem_map, Option.map_some]
    rw [UInt8.toNat_ofNat_of_lt' (by show l[i].toNat < 256; omega)]
    congr 2
    omega

set_option maxRecDepth 100000 in
set_option maxHeartbeats 4000000 in
theorem rText_no (v k : Int) (hU : U v) (w : World) :
    Calls Tryz.prog 17 #[.agg #[.int .i64 k, .slice none 0 0], .int .u64 v] w fun e w' => ∃ r, e = .returned (.tuple #[r, .int .i64 0]) ∧ By w' r (plL v) ∧ Bw w w' := by
  have HT := hid (fun w => rtext_no v k hU w)
  have HY := hid (fun w => by_str4 w (plL v) (plL_byte v) (by have := plL_len v hU; omega))
  have hz : (strOfNums (plL v)).size ≤ 30 := by rw [strOfNums_size]; exact plL_len v hU
  generalize strOfNums (plL v) = s at HT HY hz
  have hd : decide ((65536 : Int) < (s.size : Int)) = false := decide_eq_false (by omega)
  clear hU hz
  go_enter Tryz.func17, Tryz.ntmps17
  go_wp2_with (first
    | (go_at_call 39; refine (HT.out _).mono ?_; rintro e w1 ⟨rfl, os1, m1, rfl⟩; obtain ⟨cp, w2, hcv, hy, hb1⟩ := HY.out (lay (w.alloc (.cells #[.int .i64 k, .slice none 0 0] 32)) os1 m1); rw [lay_size, World.size_alloc] at hcv hy; have HY1 := hid hy; have HB1 := hid (Bw.trans ((Bw.refl w).alloc _) (Bw.trans (bw_lay _ os1 m1) hb1)); clear hy hb1)
    | fail)
  all_goals go_ret2
  all_goals exact ⟨_, rfl, HY1.out, HB1.out⟩

set_option maxHeartbeats 1000000 in
theorem rnew3 (w : World) :
    Calls Tryz.prog 26 #[.int .i64 3] w fun e w' => e = .returned (.tuple #[.agg #[.int .i64 3, .slice none 0 0], .int .i64 0]) ∧ Ly w w' := by
  go_enter Tryz.func26, Tryz.ntmps26
  go_wp2
  refine bodyPost_ret (v := .tuple #[.agg #[.int .i64 3, .slice none 0 0], .int .i64 0]) (by simp [results, Tryz.results26, go_sem]) rfl ?_
  exact ⟨rfl, by repeat (first | exact Ly.refl _ | apply Ly.lay | apply Ly.alloc | apply Ly.drewN | apply Ly.drew)⟩

end Go.Proofs.YtlhgdknmgdohkaaGreatDoor

