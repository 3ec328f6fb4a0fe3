/- strings.Repeat: its contract, laid at this program. · What a word without parts looks like: the program's plain, whole. -/
import Derived.Shelf.Strings.Repeat
import Derived.Test.YtimidonagbfjcaaGreatDoorProg
import Derived.Test.YtimidonagbfjcaaGreatDoorVDk
set_option linter.unusedVariables false
namespace Go.Proofs.YtimidonagbfjcaaGreatDoor
open Go Go.Shelf Go.RowKit Go.Lib
def shRepRen : Go.Shelf.Ren := ⟨fun | 105 => 84 | 212 => 92 | 99 => 93 | 165 => 94 | 166 => 95 | 170 => 96 | 169 => 97 | 263 => 103 | 264 => 104 | 206 => 105 | 240 => 106 | 241 => 107 | 276 => 110 | 277 => 111 | n => n, fun | 9 => 9 | 3 => 3 | 4 => 4 | 20 => 20 | 0 => 0 | 46 => 83 | 109 => 134 | 5 => 5 | 72 => 139 | 76 => 143 | 51 => 150 | 146 => 153 | 53 => 26 | 148 => 155 | 70 => 137 | 37 => 30 | 75 => 142 | 127 => 157 | 164 => 159 | 80 => 146 | n => n, fun | n => n⟩
theorem shRepL : Go.Proofs.Lays.n105 Tryz.prog shRepRen := {
  mixed := by kernel_rfl
  f99 := Tryz.func93.trans (congrArg some (by kernel_rfl))
  f105 := Tryz.func84.trans (congrArg some (by kernel_rfl))
  f165 := Tryz.func94.trans (congrArg some (by kernel_rfl))
  f166 := Tryz.func95.trans (congrArg some (by kernel_rfl))
  f169 := Tryz.func97.trans (congrArg some (by kernel_rfl))
  f170 := Tryz.func96.trans (congrArg some (by kernel_rfl))
  f206 := Tryz.func105.trans (congrArg some (by kernel_rfl))
  f212 := Tryz.func92.trans (congrArg some (by kernel_rfl))
  f240 := Tryz.func106.trans (congrArg some (by kernel_rfl))
  f241 := Tryz.func107.trans (congrArg some (by kernel_rfl))
  f263 := Tryz.func103.trans (congrArg some (by kernel_rfl))
  f264 := Tryz.func104.trans (congrArg some (by kernel_rfl))
  f276 := Tryz.func110.trans (congrArg some (by kernel_rfl))
  f277 := Tryz.func111.trans (congrArg some (by kernel_rfl))
  t0 := Tryz.underlying0
  a0 := Tryz.isAgg0
  z0 := Tryz.sizeOf0
  v0 := Tryz.zeroValue0
  t3 := Tryz.underlying3
  a3 := Tryz.isAgg3
  z3 := Tryz.sizeOf3
  v3 := Tryz.zeroValue3
  t4 := Tryz.underlying4
  a4 := Tryz.isAgg4
  z4 := Tryz.sizeOf4
  v4 := Tryz.zeroValue4
  t5 := Tryz.underlying5
  a5 := Tryz.isAgg5
  z5 := Tryz.sizeOf5
  v5 := Tryz.zeroValue5
  t9 := Tryz.underlying9
  a9 := Tryz.isAgg9
  z9 := Tryz.sizeOf9
  v9 := Tryz.zeroValue9
  t20 := Tryz.underlying20
  a20 := Tryz.isAgg20
  z20 := Tryz.sizeOf20
  v20 := Tryz.zeroValue20
  t37 := Tryz.underlying30
  a37 := Tryz.isAgg30
  z37 := Tryz.sizeOf30
  v37 := Tryz.zeroValue30
  t46 := Tryz.underlying83
  a46 := Tryz.isAgg83
  z46 := Tryz.sizeOf83
  v46 := Tryz.zeroValue83
  t51 := Tryz.underlying150
  a51 := Tryz.isAgg150
  z51 := Tryz.sizeOf150
  v51 := Tryz.zeroValue150
  t53 := Tryz.underlying26
  a53 := Tryz.isAgg26
  z53 := Tryz.sizeOf26
  v53 := Tryz.zeroValue26
  t70 := Tryz.underlying137
  a70 := Tryz.isAgg137
  z70 := Tryz.sizeOf137
  v70 := Tryz.zeroValue137
  t72 := Tryz.underlying139
  a72 := Tryz.isAgg139
  z72 := Tryz.sizeOf139
  v72 := Tryz.zeroValue139
  t75 := Tryz.underlying142
  a75 := Tryz.isAgg142
  z75 := Tryz.sizeOf142
  v75 := Tryz.zeroValue142
  t76 := Tryz.underlying143
  a76 := Tryz.isAgg143
  z76 := Tryz.sizeOf143
  v76 := Tryz.zeroValue143
  t109 := Tryz.underlying134
  a109 := Tryz.isAgg134
  z109 := Tryz.sizeOf134
  v109 := Tryz.zeroValue134
  t127 := Tryz.underlying157
  a127 := Tryz.isAgg157
  z127 := Tryz.sizeOf157
  v127 := Tryz.zeroValue157
  t146 := Tryz.underlying153
  a146 := Tryz.isAgg153
  z146 := Tryz.sizeOf153
  v146 := Tryz.zeroValue153
  t148 := Tryz.underlying155
  a148 := Tryz.isAgg155
  z148 := Tryz.sizeOf155
  v148 := Tryz.zeroValue155
  t164 := Tryz.underlying159
  a164 := Tryz.isAgg159
  z164 := Tryz.sizeOf159
  v164 := Tryz.zeroValue159 }
theorem shRepX : Builder.Extra Tryz.prog shRepRen := {
  sizeBuilder := by kernel_rfl
  liesBuilder := by kernel_rfl
  t5 := Tryz.underlying5
  a5 := Tryz.isAgg5
  z5 := Tryz.sizeOf5
  v5 := Tryz.zeroValue5
  infoByte := by kernel_rfl
  cellsByte := by kernel_rfl
  sizeByte := by kernel_rfl
  neB5 := by decide }

theorem shRep (s : ByteArray) (c : Nat) (w : World) (hc : c ≤ 9223372036854775807) (hlen : s.size * c ≤ 140737488355328) :
    Calls Tryz.prog 84 #[.string s, .int .i64 c] w fun e w' => e = .returned (.string ⟨(Lib.repeatL s.data.toList c).toArray⟩) ∧ Below w.heap.size w w' := Any.strings_Repeat shRepL shRepX s c w hc hlen
end Go.Proofs.YtimidonagbfjcaaGreatDoor

set_option linter.unusedSimpArgs false
set_option linter.unusedVariables false
namespace Go.Proofs.YtimidonagbfjcaaGreatDoor
open Go Go.RowKit

/-- An object's numbers are the language's. -/
def N3 (o : AObj) : Prop := (-9223372036854775808 ≤ o.num ∧ o.num ≤ 9223372036854775807) ∧ U o.re ∧ U o.im ∧ 1 ≤ o.kind ∧ o.kind ≤ 9

theorem ob_in {H : AHeap} {v : Int} (hU : U v) (hk : kk H v ≠ 0) : ob H v ∈ H.2 := by
  have hr := kk_ref hk
  obtain ⟨hg, _⟩ := ob_get (H := H) hU hr.2.1
  exact List.mem_of_getElem? hg

/-- What a word without parts looks like, as bytes. -/
def wdL (H : AHeap) (v : Int) : List Int :=
  if kk H v = 0 then plL v
  else if kk H v = 1 then qStr (ob H v).bytes
  else if kk H v = 5 then [102, 110, 58] ++ itoaL (ob H v).num
  else if kk H v = 6 then [40] ++ nibs 16 (ob H v).re ++ [44] ++ nibs 16 (ob H v).im ++ [41]
  else if kk H v = 7 then [109, 111, 110, 105, 116, 111, 114, 58] ++ itoaL (ob H v).num
  else if kk H v = 8 then [98, 111, 120, 58] ++ itoaL (ob H v).num
  else [116, 104, 114, 101, 97, 100, 58] ++ itoaL (ob H v).num

theorem rep_zero : ∀ c, (Lib.repeatL [48] c).map (fun u => (u.toNat : Int)) = List.replicate c 48
  | 0 => rfl
  | c + 1 => by rw [Lib.repeatL, List.map_append, rep_zero c]; rfl

set_option maxRecDepth 100000 in
set_option maxHeartbeats 4000000 in
theorem bits_any (x : Int) (hU : U x) (w : World) (hd : Dz w) :
    Calls Tryz.prog 75 #[.int .u64 x] w fun e w' => e = .returned (.string (strOfNums (nibs 16 x))) ∧ Bw w w' := by
  have HU := hid hU
  have HD := hid hd
  have hq : Hid (Calls Tryz.prog 83 #[.int .u64 x, .int .i64 16] w fun e w' => ∃ (c : Nat) (s p : ByteArray), c ≤ 15 ∧ s.size + c = 16 ∧ (⟨(Lib.repeatL [48] c).toArray⟩ ++ s : ByteArray) = p ∧ p = strOfNums (nibs 16 x) ∧ e = .returned (.string s) ∧ Bw w w') := by
    refine (iuint_any x hU w hd).mono fun e w' ⟨j, hj, hz, he, hb⟩ => ⟨15 - j, strOfNums (nibs (j + 1) x), _, by omega, by rw [strOfNums_size, nibs_len]; omega, rfl, ?_, he, hb⟩
    have e1 := nibs_zero hU.1 (15 - j) (j + 1) hz
    rw [show j + 1 + (15 - j) = 16 by omega] at e1
    rw [e1, ← strOf_app4, ← rep_zero, strOf_bytes]
  clear hU hd
  go_enter Tryz.func75, Tryz.ntmps75
  go_upto_region 2 with (first
    | (go_at_call 83; refine hq.out.mono ?_; rintro e w1 ⟨c, s, p, hc, hs, hp, hz, rfl, hb1⟩; have HZ := hid hz; have HB1 := hid hb1; clear hz hb1)
    | fail)
  have hcs : IntKind.i64.wrap (16 - (s.size : Int)) = (c : Int) := by rw [IntKind.wrap_i64]; omega
  have hcs2 : (16 - (s.size : Int)) = (c : Int) := by omega
  have hno : ¬ (9223372036854775807 < (Lib.repeatL [48] c).length + s.size) := by rw [Lib.repeatL_length]; simp; omega
  have hadd : ∀ w, (Op.stringOp .add ⟨(Lib.repeatL [48] c).toArray⟩ s).run Tryz.prog w = .ok (.string p) w := fun w => by
    rw [← hp]
    exact run_string_add_sum (P := Tryz.prog) w _ s (by show (Lib.repeatL [48] c).toArray.size + s.size ≤ _; rw [List.size_toArray]; omega)
  have HR := hid (fun w1 => shRep ⟨#[48]⟩ c w1 (by omega) (by show 1 * c ≤ _; omega))
  go_wp2_with (first
    | (go_at_call 84; refine (HR.out _).mono ?_; rintro e w2 ⟨rfl, hb2⟩; have HB2 := hid (Bw.trans HB1.out hb2); clear hb2)
    | fail)
  all_goals go_ret
  all_goals exact ⟨by rw [← HZ.out]; rfl, HB2.out⟩

set_option maxRecDepth 100000 in
set_option maxHeartbeats 4000000 in
theorem number_any {b0 : Nat} {H : AHeap} {bs : List Nat} (v : Int) (hU : U v) (w : World) (hp : HS w b0 H bs) (hk : kk H v = 7 ∨ kk H v = 8 ∨ kk H v = 9) (hn : N3 (ob H v)) (hw : Pw w) :
    Calls Tryz.prog 76 #[.pointer (some ⟨b0, 0, none⟩), .int .u64 v] w fun e w' => e = .returned (.string (strOfNums (itoaL (ob H v).num))) ∧ Bw w w' := by
  have HU := hid hU
  have HP := hid hp
  have HK := hid hk
  have HI := hid (fun w1 (h1 : Bw w w1) => itoa_any (ob H v).num hn.1.1 hn.1.2 w1 (hw.bw h1))
  generalize strOfNums (itoaL (ob H v).num) = s at HI ⊢
  clear hU hp hk hn hw
  go_enter Tryz.func76, Tryz.ntmps76
  go_wp2_with (first
    | (go_at_call 85; refine (itemOf_yes _ HU.out _ HP.out HK.out).mono ?_; rintro e w1 ⟨rfl, hl1⟩; have HB1 := hid hl1.bw; clear hl1)
    | (go_at_call 61; refine (HI.out _ HB1.out).mono ?_; rintro e w2 ⟨rfl, hb2⟩; have HB2 := hid (Bw.trans HB1.out hb2); clear hb2)
    | fail)
  all_goals go_ret
  all_goals exact ⟨rfl, HB2.out⟩

set_option maxRecDepth 100000 in
set_option maxHeartbeats 4000000 in
theorem object_5 {b0 : Nat} {H : AHeap} {bs : List Nat} (v : Int) (hU : U v) (w : World) (hp : HS w b0 H bs) (hk : kk H v = 5) (hn : N3 (ob H v)) (hw : Pw w) :
    Calls Tryz.prog 65 #[.pointer (some ⟨b0, 0, none⟩), .int .u64 v] w fun e w' => e = .returned (.string (strOfNums ([102, 110, 58] ++ itoaL (ob H v).num))) ∧ Bw w w' := by
  have HU := hid hU
  have HP := hid hp
  have HI := hid (fun w1 (h1 : Bw w w1) => itoa_any (ob H v).num hn.1.1 hn.1.2 w1 (hw.bw h1))
  have hz : (strOfNums (itoaL (ob H v).num)).size ≤ 21 := by rw [strOfNums_size]; exact itoaL_len _ hn.1.1 hn.1.2
  rw [← strOf_app4]
  generalize strOfNums (itoaL (ob H v).num) = s at HI hz ⊢
  generalize hpe : (strOfNums [102, 110, 58] ++ s : ByteArray) = p
  have hadd : ∀ w, (Op.stringOp .add ⟨#[102, 110, 58]⟩ s).run Tryz.prog w = .ok (.string p) w := fun w => by
    rw [← hpe]
    exact run_string_add_sum (P := Tryz.prog) w ⟨#[102, 110, 58]⟩ s (by show 3 + s.size ≤ _; omega)
  have hpe' : (⟨#[102, 110, 58]⟩ ++ s : ByteArray) = p := hpe
  have hno : ¬ (9223372036854775807 < 3 + s.size) := by omega
  clear hU hp hn hw hz hpe
  go_enter Tryz.func65, Tryz.ntmps65
  go_wp2_with (first
    | (go_at_call 31; refine (kind_hs4 _ HU.out _ HP.out).mono ?_; rintro e w' ⟨rfl, hw'⟩; subst w'; rw [hk])
    | (go_at_call 74; refine (funOf_yes _ HU.out _ HP.out hk).mono ?_; rintro e w1 ⟨r1, rfl, _, hb1⟩; have HB1 := hid hb1; clear hb1)
    | (go_at_call 61; refine (HI.out _ HB1.out).mono ?_; rintro e w2 ⟨rfl, hb2⟩; have HB2 := hid (Bw.trans HB1.out hb2); clear hb2)
    | fail)
  all_goals go_ret
  all_goals exact ⟨rfl, HB2.out⟩

set_option maxRecDepth 100000 in
set_option maxHeartbeats 4000000 in
theorem object_7 {b0 : Nat} {H : AHeap} {bs : List Nat} (v : Int) (hU : U v) (w : World) (hp : HS w b0 H bs) (hk : kk H v = 7) (hn : N3 (ob H v)) (hw : Pw w) :
    Calls Tryz.prog 65 #[.pointer (some ⟨b0, 0, none⟩), .int .u64 v] w fun e w' => e = .returned (.string (strOfNums ([109, 111, 110, 105, 116, 111, 114, 58] ++ itoaL (ob H v).num))) ∧ Bw w w' := by
  have HU := hid hU
  have HP := hid hp
  have HI := hid (number_any v hU w hp (.inl hk) hn hw)
  have hz : (strOfNums (itoaL (ob H v).num)).size ≤ 21 := by rw [strOfNums_size]; exact itoaL_len _ hn.1.1 hn.1.2
  rw [← strOf_app4]
  generalize strOfNums (itoaL (ob H v).num) = s at HI hz ⊢
  generalize hpe : (strOfNums [109, 111, 110, 105, 116, 111, 114, 58] ++ s : ByteArray) = p
  have hadd : ∀ w, (Op.stringOp .add ⟨#[109, 111, 110, 105, 116, 111, 114, 58]⟩ s).run Tryz.prog w = .ok (.string p) w := fun w => by
    rw [← hpe]
    exact run_string_add_sum (P := Tryz.prog) w ⟨#[109, 111, 110, 105, 116, 111, 114, 58]⟩ s (by show 8 + s.size ≤ _; omega)
  have hpe' : (⟨#[109, 111, 110, 105, 116, 111, 114, 58]⟩ ++ s : ByteArray) = p := hpe
  have hno : ¬ (9223372036854775807 < 8 + s.size) := by omega
  clear hU hp hn hw hz hpe
  go_enter Tryz.func65, Tryz.ntmps65
  go_wp2_with (first
    | (go_at_call 31; refine (kind_hs4 _ HU.out _ HP.out).mono ?_; rintro e w' ⟨rfl, hw'⟩; subst w'; rw [hk])
    | (go_at_call 76; refine HI.out.mono ?_; rintro e w2 ⟨rfl, hb2⟩; have HB2 := hid hb2; clear hb2)
    | fail)
  all_goals go_ret
  all_goals exact ⟨rfl, HB2.out⟩

set_option maxRecDepth 100000 in
set_option maxHeartbeats 4000000 in
theorem object_8 {b0 : Nat} {H : AHeap} {bs : List Nat} (v : Int) (hU : U v) (w : World) (hp : HS w b0 H bs) (hk : kk H v = 8) (hn : N3 (ob H v)) (hw : Pw w) :
    Calls Tryz.prog 65 #[.pointer (some ⟨b0, 0, none⟩), .int .u64 v] w fun e w' => e = .returned (.string (strOfNums ([98, 111, 120, 58] ++ itoaL (ob H v).num))) ∧ Bw w w' := by
  have HU := hid hU
  have HP := hid hp
  have HI := hid (number_any v hU w hp (.inr (.inl hk)) hn hw)
  have hz : (strOfNums (itoaL (ob H v).num)).size ≤ 21 := by rw [strOfNums_size]; exact itoaL_len _ hn.1.1 hn.1.2
  rw [← strOf_app4]
  generalize strOfNums (itoaL (ob H v).num) = s at HI hz ⊢
  generalize hpe : (strOfNums [98, 111, 120, 58] ++ s : ByteArray) = p
  have hadd : ∀ w, (Op.stringOp .add ⟨#[98, 111, 120, 58]⟩ s).run Tryz.prog w = .ok (.string p) w := fun w => by
    rw [← hpe]
    exact run_string_add_sum (P := Tryz.prog) w ⟨#[98, 111, 120, 58]⟩ s (by show 4 + s.size ≤ _; omega)
  have hpe' : (⟨#[98, 111, 120, 58]⟩ ++ s : ByteArray) = p := hpe
  have hno : ¬ (9223372036854775807 < 4 + s.size) := by omega
  clear hU hp hn hw hz hpe
  go_enter Tryz.func65, Tryz.ntmps65
  go_wp2_with (first
    | (go_at_call 31; refine (kind_hs4 _ HU.out _ HP.out).mono ?_; rintro e w' ⟨rfl, hw'⟩; subst w'; rw [hk])
    | (go_at_call 76; refine HI.out.mono ?_; rintro e w2 ⟨rfl, hb2⟩; have HB2 := hid hb2; clear hb2)
    | fail)
  all_goals go_ret
  all_goals exact ⟨rfl, HB2.out⟩

set_option maxRecDepth 100000 in
set_option maxHeartbeats 4000000 in
theorem object_9 {b0 : Nat} {H : AHeap} {bs : List Nat} (v : Int) (hU : U v) (w : World) (hp : HS w b0 H bs) (hk : kk H v = 9) (hn : N3 (ob H v)) (hw : Pw w) :
    Calls Tryz.prog 65 #[.pointer (some ⟨b0, 0, none⟩), .int .u64 v] w fun e w' => e = .returned (.string (strOfNums ([116, 104, 114, 101, 97, 100, 58] ++ itoaL (ob H v).num))) ∧ Bw w w' := by
  have HU := hid hU
  have HP := hid hp
  have HI := hid (number_any v hU w hp (.inr (.inr hk)) hn hw)
  have hz : (strOfNums (itoaL (ob H v).num)).size ≤ 21 := by rw [strOfNums_size]; exact itoaL_len _ hn.1.1 hn.1.2
  rw [← strOf_app4]
  generalize strOfNums (itoaL (ob H v).num) = s at HI hz ⊢
  generalize hpe : (strOfNums [116, 104, 114, 101, 97, 100, 58] ++ s : ByteArray) = p
  have hadd : ∀ w, (Op.stringOp .add ⟨#[116, 104, 114, 101, 97, 100, 58]⟩ s).run Tryz.prog w = .ok (.string p) w := fun w => by
    rw [← hpe]
    exact run_string_add_sum (P := Tryz.prog) w ⟨#[116, 104, 114, 101, 97, 100, 58]⟩ s (by show 7 + s.size ≤ _; omega)
  have hpe' : (⟨#[116, 104, 114, 101, 97, 100, 58]⟩ ++ s : ByteArray) = p := hpe
  have hno : ¬ (9223372036854775807 < 7 + s.size) := by omega
  clear hU hp hn hw hz hpe
  go_enter Tryz.func65, Tryz.ntmps65
  go_wp2_with (first
    | (go_at_call 31; refine (kind_hs4 _ HU.out _ HP.out).mono ?_; rintro e w' ⟨rfl, hw'⟩; subst w'; rw [hk])
    | (go_at_call 76; refine HI.out.mono ?_; rintro e w2 ⟨rfl, hb2⟩; have HB2 := hid hb2; clear hb2)
    | fail)
  all_goals go_ret
  all_goals exact ⟨rfl, HB2.out⟩

set_option maxRecDepth 100000 in
set_option maxHeartbeats 8000000 in
theorem object_6 {b0 : Nat} {H : AHeap} {bs : List Nat} (v : Int) (hU : U v) (w : World) (hp : HS w b0 H bs) (hk : kk H v = 6) (hn : N3 (ob H v)) (hw : Dz w) :
    Calls Tryz.prog 65 #[.pointer (some ⟨b0, 0, none⟩), .int .u64 v] w fun e w' => e = .returned (.string (strOfNums ([40] ++ nibs 16 (ob H v).re ++ [44] ++ nibs 16 (ob H v).im ++ [41]))) ∧ Bw w w' := by
  have HU := hid hU
  have HP := hid hp
  have HK := hid hk
  have HR := hid (fun w1 (h1 : Bw w w1) => bits_any (ob H v).re hn.2.1 w1 (hw.bw h1))
  have HM := hid (fun w1 (h1 : Bw w w1) => bits_any (ob H v).im hn.2.2.1 w1 (hw.bw h1))
  have hz1 : (strOfNums (nibs 16 (ob H v).re)).size = 16 := by rw [strOfNums_size, nibs_len]
  have hz2 : (strOfNums (nibs 16 (ob H v).im)).size = 16 := by rw [strOfNums_size, nibs_len]
  rw [← strOf_app4, ← strOf_app4, ← strOf_app4, ← strOf_app4]
  have HC := hid (cplxOf_yes (b0 := b0) (H := H) (bs := bs) v hU w hp hk)
  generalize (ob H v).re = re at HR HC hz1 ⊢
  generalize (ob H v).im = im at HM HC hz2 ⊢
  generalize strOfNums (nibs 16 re) = s1 at HR hz1 ⊢
  generalize strOfNums (nibs 16 im) = s2 at HM hz2 ⊢
  obtain ⟨p1, h1⟩ : ∃ p1 : ByteArray, (⟨#[40]⟩ ++ s1 : ByteArray) = p1 := ⟨_, rfl⟩
  obtain ⟨p2, h2⟩ : ∃ p2 : ByteArray, (p1 ++ ⟨#[44]⟩ : ByteArray) = p2 := ⟨_, rfl⟩
  obtain ⟨p3, h3⟩ : ∃ p3 : ByteArray, (p2 ++ s2 : ByteArray) = p3 := ⟨_, rfl⟩
  obtain ⟨p4, h4⟩ : ∃ p4 : ByteArray, (p3 ++ ⟨#[41]⟩ : ByteArray) = p4 := ⟨_, rfl⟩
  have z1 : p1.size = 17 := by rw [← h1, ByteArray.size_append, hz1]; rfl
  have z2 : p2.size = 18 := by rw [← h2, ByteArray.size_append, z1]; rfl
  have z3 : p3.size = 34 := by rw [← h3, ByteArray.size_append, z2, hz2]
  have HF : Hid (strOfNums [40] ++ s1 ++ strOfNums [44] ++ s2 ++ strOfNums [41] = p4) := by
    show strOfNums [40] ++ s1 ++ strOfNums [44] ++ s2 ++ strOfNums [41] = p4
    rw [← h4, ← h3, ← h2, ← h1]; rfl
  have d1 : ∀ w, (Op.stringOp .add ⟨#[40]⟩ s1).run Tryz.prog w = .ok (.string p1) w := fun w => by
    rw [← h1]; exact run_string_add_sum (P := Tryz.prog) w ⟨#[40]⟩ s1 (by show 1 + s1.size ≤ _; omega)
  have d2 : ∀ w, (Op.stringOp .add p1 ⟨#[44]⟩).run Tryz.prog w = .ok (.string p2) w := fun w => by
    rw [← h2]; exact run_string_add_sum (P := Tryz.prog) w p1 ⟨#[44]⟩ (by show p1.size + 1 ≤ _; omega)
  have d3 : ∀ w, (Op.stringOp .add p2 s2).run Tryz.prog w = .ok (.string p3) w := fun w => by
    rw [← h3]; exact run_string_add_sum (P := Tryz.prog) w p2 s2 (by omega)
  have d4 : ∀ w, (Op.stringOp .add p3 ⟨#[41]⟩).run Tryz.prog w = .ok (.string p4) w := fun w => by
    rw [← h4]; exact run_string_add_sum (P := Tryz.prog) w p3 ⟨#[41]⟩ (by show p3.size + 1 ≤ _; omega)
  have n1 : ¬ (9223372036854775807 < 1 + s1.size) := by omega
  have n2 : ¬ (9223372036854775807 < p1.size + 1) := by omega
  have n3 : ¬ (9223372036854775807 < p2.size + s2.size) := by omega
  have n4 : ¬ (9223372036854775807 < p3.size + 1) := by omega
  clear hU hp hn hw hz1 hz2 z1 z2 z3
  go_enter Tryz.func65, Tryz.ntmps65
  go_wp2_with (first
    | (go_at_call 31; refine (kind_hs4 _ HU.out _ HP.out).mono ?_; rintro e w' ⟨rfl, hw'⟩; subst w'; rw [hk])
    | (go_at_call 60; refine HC.out.mono ?_; rintro e w1 ⟨rfl, hl1⟩; have HB1 := hid hl1.bw; clear hl1)
    | (go_at_call_of 75 (Value.int .u64 re); refine (HR.out _ (by first | exact HB1.out | exact HB2.out)).mono ?_; rintro e w2 ⟨rfl, hb2⟩; have HB2 := hid (Bw.trans HB1.out hb2); clear hb2)
    | (go_at_call_of 75 (Value.int .u64 im); refine (HM.out _ HB2.out).mono ?_; rintro e w3 ⟨rfl, hb3⟩; have HB3 := hid (Bw.trans HB2.out hb3); clear hb3)
    | fail)
  all_goals go_ret
  all_goals exact ⟨by rw [HF.out]; rfl, HB3.out⟩

/-- What is asked of the world by texts: the library's two tables. -/
def Pd (w : World) : Prop := Pw w ∧ Dz w
theorem Pd.bw {w w' : World} (h : Pd w) (hb : Bw w w') : Pd w' := ⟨h.1.bw hb, h.2.bw hb⟩

set_option maxRecDepth 100000 in
set_option maxHeartbeats 4000000 in
theorem plain_obj {b0 : Nat} {H : AHeap} {bs : List Nat} (v : Int) (hU : U v) (w : World) (hp : HS w b0 H bs) (hk : kk H v ≠ 0) (s : ByteArray)
    (ho : Calls Tryz.prog 65 #[.pointer (some ⟨b0, 0, none⟩), .int .u64 v] w fun e w' => e = .returned (.string s) ∧ Bw w w') :
    Calls Tryz.prog 47 #[.pointer (some ⟨b0, 0, none⟩), .int .u64 v] w fun e w' => e = .returned (.string s) ∧ Bw w w' := by
  have hkd : kd v = 2 := (kk_ref (H := H) (v := v) hk).1
  have HU := hid hU
  have HO := hid ho
  clear hp hU hk ho
  go_enter Tryz.func47, Tryz.ntmps47
  go_wp2_with (first
    | (go_at_call 56; refine (kind_any _ HU.out _).mono ?_; rintro e w' ⟨rfl, hw'⟩; subst w'; rw [hkd])
    | (go_at_call 65; refine HO.out.mono ?_; rintro e w1 ⟨rfl, hb1⟩; have HB1 := hid hb1; clear hb1)
    | fail)
  all_goals go_ret
  all_goals exact ⟨rfl, HB1.out⟩

/-- The program's plain, of any word without parts. -/
theorem plain_wd {b0 : Nat} {H : AHeap} {bs : List Nat} (hn3 : ∀ o ∈ H.2, N3 o) (v : Int) (hU : U v) (w : World) (hp : HS w b0 H bs) (hk : (kk H v == 2 || kk H v == 3 || kk H v == 4) = false) (hw : Pd w) :
    Calls Tryz.prog 47 #[.pointer (some ⟨b0, 0, none⟩), .int .u64 v] w fun e w' => e = .returned (.string (strOfNums (wdL H v))) ∧ Bw w w' := by
  unfold wdL
  by_cases k0 : kk H v = 0
  · rw [if_pos k0]; exact plain_no v hU w hp k0 hw.1
  have hoo := ob_ok (v := v) hp.ok hU (kk_ref k0).2.1
  have hn : N3 (ob H v) := hn3 _ (ob_in hU k0)
  rw [if_neg k0]
  by_cases k1 : kk H v = 1
  · rw [if_pos k1]; exact plain_str v hU w hp k1 hoo.2.2.2.2.1 hoo.2.2.2.2.2.1
  rw [if_neg k1]
  refine plain_obj v hU w hp k0 _ ?_
  by_cases k5 : kk H v = 5
  · rw [if_pos k5]; exact object_5 v hU w hp k5 hn hw.1
  rw [if_neg k5]
  by_cases k6 : kk H v = 6
  · rw [if_pos k6]; exact object_6 v hU w hp k6 hn hw.2
  rw [if_neg k6]
  by_cases k7 : kk H v = 7
  · rw [if_pos k7]; exact object_7 v hU w hp k7 hn hw.1
  rw [if_neg k7]
  by_cases k8 : kk H v = 8
  · rw [if_pos k8]; exact object_8 v hU w hp k8 hn hw.1
  rw [if_neg k8]
  by_cases k9 : kk H v = 9
  · exact object_9 v hU w hp k9 hn hw.1
  · exfalso
    simp only [Bool.or_eq_false_iff, beq_eq_false_iff_ne] at hk
    have h1 := hn.2.2.2
    have h2 := (kk_ref k0).2.2
    omega

end Go.Proofs.YtimidonagbfjcaaGreatDoor

