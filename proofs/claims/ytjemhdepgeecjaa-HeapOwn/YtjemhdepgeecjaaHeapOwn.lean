/- For every list of bytes and every two numbers, the statement HeapOwn of layer 3 answers true: what was handed to the program's calls, or told by them, may be written over, and two heaps share nothing; no condition. -/
import Derived.Test.YtjemhdepgeecjaaPZ
import Derived.Test.YtjemhdepgeecjaaFb
set_option linter.unusedVariables false
set_option linter.unusedSimpArgs false
namespace Go.Proofs.Ytjemhdepgeecjaa.heapOwn
open Go.ChangeShapes Go.WideShapes Go.ChangeAt Go.RowKit

def HA (b : List Int) : AHeap := (9, [oStr b])

def HB (b : List Int) (n : Nat) : AHeap := (9, [oStr b, oArr (zs n)])

def HC (b : List Int) (n m : Nat) : AHeap := (9, [oStr b, oArr (zs n), oFun 3 (zs m)])

def HD (b : List Int) (n m : Nat) : AHeap := (9, [oStr b, oArr (zs n), oFun 3 (zs m), oRec [⟨#[97]⟩, ⟨#[98]⟩] [1, 5]])

theorem mk_in {H : AHeap} {o : AObj} (hl : pLong o = false) (hs : pSound H.2.length o = true) (hm : (H.2.length : Int) < H.1) : aMakeE H o = 0 := by
  unfold aMakeE
  rw [hl, hs, if_neg (by simp), if_neg (by simp), if_neg (by omega)]

theorem mkA {b : List Int} (h : b.length ≤ 300) : aMakeE (9, []) (oStr b) = 0 ∧ aMakeV (9, []) (oStr b) = 2 ∧ aMakeH (9, []) (oStr b) = HA b := by
  have e : aMakeE (9, []) (oStr b) = 0 := mk_in (decide_eq_false (show ¬ (65536 : Int) < (b.length : Int) by omega)) rfl (by decide)
  exact ⟨e, by unfold aMakeV; rw [if_pos e]; rfl, by unfold aMakeH; rw [if_pos e]; rfl⟩

theorem mkB (b : List Int) {n : Nat} (h : n ≤ 200) : aMakeE (HA b) (oArr (zs n)) = 0 ∧ aMakeV (HA b) (oArr (zs n)) = 6 ∧ aMakeH (HA b) (oArr (zs n)) = HB b n := by
  have e : aMakeE (HA b) (oArr (zs n)) = 0 := mk_in (decide_eq_false (show ¬ (65536 : Int) < ((zs n).length : Int) by rw [zs_len]; omega)) (zs_good _ _) (show ((1 : Nat) : Int) < 9 by decide)
  exact ⟨e, by unfold aMakeV; rw [if_pos e]; rfl, by unfold aMakeH; rw [if_pos e]; rfl⟩

theorem mkC (b : List Int) (n : Nat) {m : Nat} (h : m ≤ 200) : aMakeE (HB b n) (oFun 3 (zs m)) = 0 ∧ aMakeV (HB b n) (oFun 3 (zs m)) = 10 ∧ aMakeH (HB b n) (oFun 3 (zs m)) = HC b n m := by
  have e : aMakeE (HB b n) (oFun 3 (zs m)) = 0 := mk_in (decide_eq_false (show ¬ (256 : Int) < ((zs m).length : Int) by rw [zs_len]; omega)) (by show ((zs m).all (gd _) && decide ((0 : Int) ≤ 3)) = true; rw [zs_good]; rfl) (show ((2 : Nat) : Int) < 9 by decide)
  exact ⟨e, by unfold aMakeV; rw [if_pos e]; rfl, by unfold aMakeH; rw [if_pos e]; rfl⟩

theorem mkD (b : List Int) (n m : Nat) : aMakeE (HC b n m) (oRec [⟨#[97]⟩, ⟨#[98]⟩] [1, 5]) = 0 ∧ aMakeV (HC b n m) (oRec [⟨#[97]⟩, ⟨#[98]⟩] [1, 5]) = 14 ∧ aMakeH (HC b n m) (oRec [⟨#[97]⟩, ⟨#[98]⟩] [1, 5]) = HD b n m := by
  have e : aMakeE (HC b n m) (oRec [⟨#[97]⟩, ⟨#[98]⟩] [1, 5]) = 0 := mk_in (by decide) (show pSound 3 (oRec [⟨#[97]⟩, ⟨#[98]⟩] [1, 5]) = true by decide) (show ((3 : Nat) : Int) < 9 by decide)
  exact ⟨e, by unfold aMakeV; rw [if_pos e]; rfl, by unfold aMakeH; rw [if_pos e]; rfl⟩

theorem atA (b : List Int) (n m : Nat) : kk (HD b n m) 2 = 1 ∧ ob (HD b n m) 2 = oStr b := kk_at (H := HD b n m) (k := 0) (by decide) rfl

theorem atB (b : List Int) (n m : Nat) : kk (HD b n m) 6 = 2 ∧ ob (HD b n m) 6 = oArr (zs n) := kk_at (H := HD b n m) (k := 1) (by decide) rfl

theorem atC (b : List Int) (n m : Nat) : kk (HD b n m) 10 = 5 ∧ ob (HD b n m) 10 = oFun 3 (zs m) := kk_at (H := HD b n m) (k := 2) (by decide) rfl

theorem atD (b : List Int) (n m : Nat) : kk (HD b n m) 14 = 3 ∧ ob (HD b n m) 14 = oRec [⟨#[97]⟩, ⟨#[98]⟩] [1, 5] := kk_at (H := HD b n m) (k := 3) (by decide) rfl

theorem fldD (b : List Int) (n m : Nat) : aFieldV (HD b n m) 14 ⟨#[98]⟩ = 5 ∧ aFieldE (HD b n m) 14 ⟨#[98]⟩ = 0 := by
  unfold aFieldV aFieldE
  rw [(atD b n m).1, (atD b n m).2]
  exact ⟨by decide, by decide⟩

theorem oStr_bytes (b : List Int) : (oStr b).bytes = b := rfl

theorem oFun_num (n : Int) (l : List Int) : (oFun n l).num = n := rfl

theorem oFun_vals (n : Int) (l : List Int) : (oFun n l).vals = l := rfl

/-- What is kept while the statement's own lists are written to: both heaps, and all that was before. -/
structure Kp (w wr : World) (bh bo : Nat) (H : AHeap) (bs : List Nat) : Prop where
  hs : HS wr bh H bs
  ho : HS wr bo (9, []) [bo]
  no : bo ∉ bs
  bw : Bw w wr
  lo : ∀ b ∈ bs, w.heap.size ≤ b
  bo : w.heap.size ≤ bo

theorem Kp.nx {w wr w' : World} {bh bo : Nat} {H H' : AHeap} {bs bs' : List Nat} (h : Kp w wr bh bo H bs) (hs : HS w' bh H' bs') (hn : Nx bs wr w' bs') : Kp w w' bh bo H' bs' where
  hs := hs
  ho := h.ho.fr hn.1 (fun k hk => by rw [List.mem_singleton] at hk; subst hk; exact h.no)
  no := fun hm => (hn.2 _ hm).elim h.no (fun hh => by have := h.ho.lt (List.mem_singleton.2 rfl); omega)
  bw := (hn.bw h.bw h.lo).1
  lo := (hn.bw h.bw h.lo).2
  bo := h.bo

theorem Kp.below {w wr w' : World} {bh bo : Nat} {H : AHeap} {bs : List Nat} (h : Kp w wr bh bo H bs) (hb : Bw wr w') : Kp w w' bh bo H bs := h.nx (h.hs.bw hb) (hb.nx bs)

theorem Kp.put {w wr : World} {bh bo : Nat} {H : AHeap} {bs : List Nat} (h : Kp w wr bh bo H bs) {p : Addr} (h1 : p.block ∉ bs) (h2 : p.block ≠ bo) (h3 : w.heap.size ≤ p.block) (v : Value) : Kp w (wr.setCell p v) bh bo H bs where
  hs := h.hs.out h1 v
  ho := h.ho.out (by simpa using h2) v
  no := h.no
  bw := h.bw.setCell h3 v
  lo := h.lo
  bo := h.bo

/-- A list that the statement made itself, apart from both heaps. -/
structure Rw (w wr : World) (bo : Nat) (bs : List Nat) (e : TypeId) (v : Value) (n : Nat) (xs : List Value) : Prop where
  own : wr.ownsRow 0 e 1 v n xs
  out : ∀ b, v.ownBlock = some b → w.heap.size ≤ b ∧ b ∉ bs ∧ b ≠ bo

theorem Rw.nx {w wr w' : World} {bo : Nat} {bs bs' : List Nat} {e : TypeId} {v : Value} {n : Nat} {xs : List Value} (h : Rw w wr bo bs e v n xs) (hn : Nx bs wr w' bs') : Rw w w' bo bs' e v n xs where
  own := own_same h.own (fun k hk => hn.1.block k (own_lt h.own hk) (h.out k hk).2.1)
  out := fun b hb => ⟨(h.out b hb).1, fun hm => (hn.2 b hm).elim (h.out b hb).2.1 (fun hh => by have := own_lt h.own hb; omega), (h.out b hb).2.2⟩

theorem Rw.below {w wr w' : World} {bo : Nat} {bs : List Nat} {e : TypeId} {v : Value} {n : Nat} {xs : List Value} (h : Rw w wr bo bs e v n xs) (hb : Bw wr w') : Rw w w' bo bs e v n xs := h.nx (hb.nx bs)

/-- .. of a list that was just made, behind all that is kept. -/
theorem Rw.new {w wr w' : World} {bh bo : Nat} {H : AHeap} {bs : List Nat} {e : TypeId} {v : Value} {n : Nat} {xs : List Value} (h : Kp w wr bh bo H bs) (ho : w'.ownsRow wr.heap.size e 1 v n xs) : Rw w w' bo bs e v n xs where
  own := own_base ho (Nat.zero_le _)
  out := fun b hb => by
    have h1 := (ho.lt b hb).1
    exact ⟨Nat.le_trans h.bw.size h1, fun hm => by have := h.hs.lt hm; omega, fun e => by have := h.ho.lt (List.mem_singleton.2 rfl); omega⟩

theorem Rw.put {w wr : World} {bo g : Nat} {bs : List Nat} {e : TypeId} {cap n : Nat} {xs : List Value} (h : Rw w wr bo bs e (.slice (some ⟨g, 0, none⟩) n cap) n xs) (j : Nat) (u : Value) : Rw w (wr.setCell ⟨g, j, none⟩ u) bo bs e (.slice (some ⟨g, 0, none⟩) n cap) n (xs.set j u) where
  own := (h.own.stored j u).1
  out := h.out

theorem Rw.other {w wr : World} {bo : Nat} {bs : List Nat} {e : TypeId} {v : Value} {n : Nat} {xs : List Value} (h : Rw w wr bo bs e v n xs) {p : Addr} (hp : v.ownBlock ≠ some p.block) (u : Value) : Rw w (wr.setCell p u) bo bs e v n xs where
  own := own_same h.own (fun b hb => Below.heap_setCell wr p u b (fun e => hp (e ▸ hb)))
  out := h.out

theorem own_diff {g b n cap : Nat} (h : g ≠ b) : Value.ownBlock (.slice (some ⟨g, 0, none⟩) n cap) ≠ some b := fun e => h (Option.some.inj e)

theorem Rw.sl {w wr : World} {bo : Nat} {bs : List Nat} {e : TypeId} {v : Value} {n : Nat} {xs : List Value} (h : Rw w wr bo bs e v n xs) : Sl wr (fun _ => True) v n 1 xs := own_sl h.own (fun _ _ => trivial)

theorem conv_sl {w : World} {G : Nat → Prop} {v : Value} {l : List Int} (h : Sl w G v l.length 1 (l.map (Value.int .u8))) : (convert 39 9 v).run Try.prog w = .ok (.string (strOfNums l)) w := by
  obtain ⟨hl, a, cap, rfl, hn, hc⟩ := h
  have hu : Try.prog.underlying 5 = some (.int .u8) := by kernel_rfl
  have hst : Try.prog.underlying 9 = some .string := by kernel_rfl
  rcases hc with h0 | ⟨b, o, rfl, hlt, hg, hc⟩
  · have hnil : l = [] := List.eq_nil_of_length_eq_zero h0
    subst hnil
    cases a with
    | none => exact run_convert_bytes_nil w 39 5 Try.underlying39 hu 0 cap 9 hst
    | some ad =>
      rw [List.length_nil, run_convert_bytes_string w 39 9 5 (some ad) 0 cap Try.underlying39 hu hst]
      exact run_bytesToString w ad 0 cap [] (run_loadCells_list (P := Try.prog) w ad [] (fun j v hj => by simp at hj))
  · refine run_convert_bytes_arg w 39 5 Try.underlying39 hu b o l.length cap l rfl (fun i hi => ?_) 9 hst
    rw [hc i (by omega)]
    simp [List.getD, hi]

theorem sl_made (w : World) (m : Nat) : Sl (w.alloc (.cells (madeCells #[.int .u64 0] m) 38)) (fun _ => True) (.slice (some ⟨w.heap.size, 0, none⟩) m m) (zs m).length 1 ((zs m).map (Value.int .u64)) := by
  have h := sl_new w ((zs m).map (Value.int .u64)) 38 m (by simp [zs_len])
  rw [← zs_u64, Array.toArray_toList, zs_u64] at h
  rw [zs_len]
  exact h

theorem run_mk (m : Nat) (h : m ≤ 200) (w : World) : (Instr.makeSlice 40 (.int .i64 (m : Int)) (.int .i64 (m : Int))).run Try.prog w = .ok (.slice (some ⟨w.heap.size, 0, none⟩) m m) (w.alloc (.cells (madeCells #[.int .u64 0] m) 38)) := by
  obtain ⟨i2, hi2, hz2, hs2, hy2⟩ := info_parts infoV
  have := run_make (P := Try.prog) w 40 38 i2 (.int .u64 0) Try.underlying40 hi2 hz2 .i64 .i64 (m : Int) (m : Int) (by omega) (Int.le_refl _) (by rw [hy2]; omega) (by omega)
  simp only [Int.toNat_natCast, hs2, Nat.mul_one] at this
  exact this

theorem sl_madeAt (w : World) (m g : Nat) (hg : w.heap.size = g) : Sl (w.alloc (.cells (madeCells #[.int .u64 0] m) 38)) (fun _ => True) (.slice (some ⟨g, 0, none⟩) m m) (zs m).length 1 ((zs m).map (Value.int .u64)) := by
  subst hg
  exact sl_made w m

set_option maxHeartbeats 64000000 in
set_option maxRecDepth 100000 in
theorem core (w : World) (a1 : Int) (w1 : -9223372036854775808 ≤ a1 ∧ a1 ≤ 9223372036854775807) (a2 : Int) (w2 : -9223372036854775808 ≤ a2 ∧ a2 ≤ 9223372036854775807)
    (v0 : Value) (l0 : List Int) (w0 : Sl w (fun _ => True) v0 l0.length 1 (l0.map (Value.int .u8)) ∧ (∀ a ∈ l0, 0 ≤ a ∧ a ≤ 255) ∧ l0.length ≤ maxLen) :
    Calls Try.prog 7 #[v0, .int .i64 a1, .int .i64 a2] w fun e w' => e = .returned (.bool true) ∧ Bw w w' := by
  obtain ⟨p0, q0, rfl⟩ := w0.1.form
  have hm0 := w0.2.2
  unfold maxLen at hm0
  have W0 := hid w0
  clear w0
  by_cases hr : l0.length ≤ 300 ∧ 0 ≤ a1 ∧ a1 ≤ 200 ∧ 0 ≤ a2 ∧ a2 ≤ 200
  · obtain ⟨n, rfl⟩ : ∃ n : Nat, a1 = n := ⟨a1.toNat, by omega⟩
    obtain ⟨m, rfl⟩ : ∃ m : Nat, a2 = m := ⟨a2.toNat, by omega⟩
    have d1 : decide ((300 : Int) < (l0.length : Int)) = false := decide_eq_false (by omega)
    have d2 : decide ((n : Int) < 0) = false := decide_eq_false (by omega)
    have d3 : decide ((200 : Int) < (n : Int)) = false := decide_eq_false (by omega)
    have d4 : decide ((m : Int) < 0) = false := decide_eq_false (by omega)
    have d5 : decide ((200 : Int) < (m : Int)) = false := decide_eq_false (by omega)
    have HR := hid hr
    clear hr
    obtain ⟨i1, hi1, hz1, hs1, hy1⟩ := info_parts infoU8
    have I1 := hid (And.intro hi1 (And.intro hz1 (And.intro hs1 hy1)))
    obtain ⟨i2, hi2, hz2, hs2, hy2⟩ := info_parts infoV
    have I2 := hid (And.intro hi2 (And.intro hz2 (And.intro hs2 hy2)))
    clear hi1 hz1 hs1 hy1 hi2 hz2 hs2 hy2
    have M1 := hid (mkA (b := l0) HR.out.1)
    have M2 := hid (mkB l0 (n := n) (by have := HR.out; omega))
    have M3 := hid (mkC l0 n (m := m) (by have := HR.out; omega))
    have M4 := hid (mkD l0 n m)
    go_enter Try.func7, Try.ntmps7
    go_wp2_with (first
      | (go_at_call 11; have S1' := S1; refine (new_ok 9 _ (by decide) (by decide)).mono ?_; rintro e wo ⟨rfl, hs2, hb2, hl2⟩; have K2 := hid (show Kp w wo w.heap.size wn.heap.size (9, []) [w.heap.size] from ⟨S1.out.1.bw hb2, hs2, by have := S1.out.2.2; simp; omega, Bw.trans S1.out.2.1 hb2, by simp, S1.out.2.1.size⟩); clear hs2 hb2 hl2)
      | (go_at_call 11; refine (new_ok 9 _ (by decide) (by decide)).mono ?_; rintro e wn ⟨rfl, hs1, hb1, hl1⟩; have S1 := hid (And.intro hs1 (And.intro hb1 hl1)); clear hs1 hb1 hl1)
      | (go_at_call 13; refine (num_any _ _).mono ?_; rintro e wq ⟨rfl, hwq⟩; subst wq)
      | (at_builtin; refine wpList_append_sl (G := fun _ => True) _ rfl _ _ 39 rfl wo.heap.size 5 i1 (.int .u8 0) 1 1 Try.underlying39 I1.out.1 I1.out.2.1 I1.out.2.2.1 I1.out.2.2.2 rfl (by decide) (.slice (some ⟨wo.heap.size, 0, none⟩) 0 0) 0 [] rfl ?c0 _ l0.length (l0.map (Value.int .u8)) rfl ?c1 ?c2 ?c3 ?c4 ?c5 ?_)
      | go_in)
    case c0 => exact own_empty _ 5 1 _ _ rfl (Nat.le_refl _)
    case c1 => exact (W0.out.1.below K2.out.bw).below (Bw.alloc (Bw.refl _) _)
    case c2 => exact ints_one _ _
    case c3 => have := HR.out.1; unfold maxLen; omega
    case c4 => have := HR.out.1; omega
    case c5 => simp
    intro vc w3 how hgr
    obtain ⟨ac, cc, e⟩ := own_form how
    subst e
    have hb3 := bw_grownAt (Bw.alloc (Bw.refl wo) (.cells #[] 5)) hgr (Nat.le_refl _)
    have K3 := hid (K2.out.below hb3)
    have RC3 := hid (Rw.new K2.out how)
    have CL3 := hid (show ∀ b, Value.ownBlock (.slice ac l0.length cc) = some b → b < w3.heap.size from fun b hb => own_lt how hb)
    clear how hgr hb3
    go_wp2_with (first
      | (at_make; refine wpList_make_full _ rfl _ _ 40 rfl w3.heap.size 38 i2 (.int .u64 0) 1 Try.underlying40 I2.out.1 I2.out.2.1 I2.out.2.2.1 _ _ _ _ n rfl rfl rfl rfl ?c4 ?c5 (Nat.le_refl _) ?_)
      | go_in)
    case c4 => rw [I2.out.2.2.2]; have := HR.out; omega
    case c5 => have := HR.out; unfold maxLen; omega
    intro W4 hrow hgr
    rw [zs_u64] at hrow
    have K4 := hid (K3.out.below (bw_none hgr))
    have RC4 := hid (RC3.out.below (bw_none hgr))
    have RL4 := hid (Rw.new K3.out hrow)
    have hlt34 : w3.heap.size < W4.heap.size := own_lt hrow rfl
    clear hrow hgr
    go_wp2_with (first
      | (at_make; refine wpList_make_full _ rfl _ _ 40 rfl W4.heap.size 38 i2 (.int .u64 0) 1 Try.underlying40 I2.out.1 I2.out.2.1 I2.out.2.2.1 _ _ _ _ m rfl rfl rfl rfl ?c4 ?c5 (Nat.le_refl _) ?_)
      | go_in)
    case c4 => rw [I2.out.2.2.2]; have := HR.out; omega
    case c5 => have := HR.out; unfold maxLen; omega
    intro W5 hrow hgr
    rw [zs_u64] at hrow
    have hb6 := Bw.alloc (bw_none hgr) (.cells #[.string ⟨#[97]⟩, .string ⟨#[98]⟩] 9)
    have K6 := hid (K4.out.below hb6)
    have RC6 := hid (RC4.out.below hb6)
    have RL6 := hid (RL4.out.below hb6)
    have RM6 := hid ((Rw.new K4.out hrow).below (Bw.alloc (Bw.refl _) (.cells #[.string ⟨#[97]⟩, .string ⟨#[98]⟩] 9)))
    have hlt45 : W4.heap.size < W5.heap.size := own_lt hrow rfl
    have RK6 := hid (show Rw w (W5.alloc (.cells #[.string ⟨#[97]⟩, .string ⟨#[98]⟩] 9)) wn.heap.size [w.heap.size] 9 (.slice (some ⟨W5.heap.size, 0, none⟩) 2 2) 2 [.string ⟨#[97]⟩, .string ⟨#[98]⟩] from
      Rw.new (K4.out.below (bw_none hgr)) (World.ownsRow_lit W5 #[.string ⟨#[97]⟩, .string ⟨#[98]⟩] 2 (Nat.le_refl _) (by decide) rfl))
    clear hrow hgr hb6
    go_wp2_with (first
      | (go_at_call 32; refine (str_any (fun _ => True) _ l0 _ K6.out.hs RC6.out.sl W0.out.2.1 (by have := HR.out; omega)).mono ?_; rw [M1.out.1, M1.out.2.1, M1.out.2.2]; rintro e w7 ⟨rfl, bs7, hs7, hn7⟩; have K7 := hid (K6.out.nx hs7 hn7); have RC7 := hid (RC6.out.nx hn7); have RL7 := hid (RL6.out.nx hn7); have RM7 := hid (RM6.out.nx hn7); have RK7 := hid (RK6.out.nx hn7); clear hs7 hn7)
      | (go_at_call 33; refine (arr_any (fun _ => True) _ (zs n) _ K7.out.hs (by rw [zs_len]; exact RL7.out.sl) (zs_U n) (by rw [zs_len]; have := HR.out; omega)).mono ?_; rw [M2.out.1, M2.out.2.1, M2.out.2.2]; rintro e w8 ⟨rfl, bs8, hs8, hn8⟩; have K8 := hid (K7.out.nx hs8 hn8); have RC8 := hid (RC7.out.nx hn8); have RL8 := hid (RL7.out.nx hn8); have RM8 := hid (RM7.out.nx hn8); have RK8 := hid (RK7.out.nx hn8); clear hs8 hn8)
      | (go_at_call 34; refine (fun_any (fun _ => True) _ _ (zs m) _ K8.out.hs (by rw [zs_len]; exact RM8.out.sl) (zs_U m) (by rw [zs_len]; have := HR.out; omega)).mono ?_; rw [M3.out.1, M3.out.2.1, M3.out.2.2]; rintro e w9 ⟨rfl, bs9, hs9, hn9⟩; have K9 := hid (K8.out.nx hs9 hn9); have RC9 := hid (RC8.out.nx hn9); have RL9 := hid (RL8.out.nx hn9); have RM9 := hid (RM8.out.nx hn9); have RK9 := hid (RK8.out.nx hn9); clear hs9 hn9)
      | (go_at_call 35; have hbv := Bw.alloc (Bw.refl w9) (.cells #[.int .u64 1, .int .u64 5] 38); refine (rec_any (fun _ => True) _ _ [⟨#[97]⟩, ⟨#[98]⟩] [1, 5] _ (K9.out.hs.bw hbv) (RK9.out.below hbv).sl (sl_new w9 [.int .u64 1, .int .u64 5] 38 2 rfl) (by intro x hx; simp at hx; rcases hx with rfl | rfl <;> exact ⟨by decide, by decide⟩) (by decide) (by decide)).mono ?_; rw [M4.out.1, M4.out.2.1, M4.out.2.2]; rintro e wa ⟨rfl, bsa, hsa, hna⟩; have hnb := Bw.nxBefore hbv hna; have KA := hid (K9.out.nx hsa hnb); have RCA := hid (RC9.out.nx hnb); have RLA := hid (RL9.out.nx hnb); have RMA := hid (RM9.out.nx hnb); have RKA := hid (RK9.out.nx hnb); clear hsa hna hnb hbv))
    clear M1 M2 M3 M4 RC3 RC4 RC6 RC7 RC8 RC9 RL4 RL6 RL7 RL8 RL9 RM6 RM7 RM8 RM9 RK6 RK7 RK8 RK9 K2 K3 K4 K6 K7 K8 K9 S1
    go_loopw [23] (fun j wr => ∃ (k : Nat) (L : List Int), k ≤ l0.length ∧ j = .int .i64 k ∧ L.length = l0.length ∧ Kp w wr w.heap.size wn.heap.size (HD l0 n m) bsa ∧ Rw w wr wn.heap.size bsa 5 (.slice ac l0.length cc) l0.length (L.map (Value.int .u8)) ∧
      Rw w wr wn.heap.size bsa 38 (.slice (some ⟨w3.heap.size, 0, none⟩) n n) n ((zs n).map (Value.int .u64)) ∧ Rw w wr wn.heap.size bsa 38 (.slice (some ⟨W4.heap.size, 0, none⟩) m m) m ((zs m).map (Value.int .u64)) ∧ Rw w wr wn.heap.size bsa 9 (.slice (some ⟨W5.heap.size, 0, none⟩) 2 2) 2 [.string ⟨#[97]⟩, .string ⟨#[98]⟩]) (fun j _ => l0.length - (intOf j).toNat)
    case atStart => exact ⟨0, l0, Nat.zero_le _, rfl, rfl, KA.out, RCA.out, RLA.out, RMA.out, RKA.out⟩
    case round =>
      clear KA RCA RLA RMA RKA
      obtain ⟨k, L, hk, rfl, hL, hK, hC, hLr, hM, hKy⟩ := hrel
      have HHL := hid hL
      have KR := hid hK
      have RC := hid hC
      have RL := hid hLr
      have RM := hid hM
      have RK := hid hKy
      clear hL hK hC hLr hM hKy
      by_cases hlt : k < l0.length
      · obtain ⟨bc, rfl, hbc, cb⟩ := own_at RC.out.own hlt
        have hkL : k < L.length := by rw [HHL.out]; exact hlt
        have c1 : wr.cell? ⟨bc, k, none⟩ = some (.int .u8 L[k]) := by rw [cb]; simp [hkL]
        have c1f : wr.frozen? ⟨bc, k, none⟩ = false := RC.out.own.frozenAt k
        have hlt' : (k : Int) < (l0.length : Int) := by omega
        have hb3 := CL3.out bc rfl
        clear cb
        go_wp2
        go_roundw
        case rel =>
          have ho := RC.out.out bc rfl
          refine ⟨k + 1, _, by omega, by go_num, (List.length_set (i := k) (a := (L[k] + 1) % 256)).trans HHL.out, KR.out.put ho.2.1 ho.2.2 ho.1 _, ?_, RL.out.other (own_diff (by show _ ≠ _; simp only; omega)) _, RM.out.other (own_diff (by show _ ≠ _; simp only; omega)) _, RK.out.other (own_diff (by show _ ≠ _; simp only; omega)) _⟩
          have := RC.out.put k (.int .u8 ((L[k] + 1) % 256))
          rw [List.map_set]
          exact this
        case measure => simp [intOf]; omega
      · have hlt' : ¬ (k : Int) < (l0.length : Int) := by omega
        clear HHL RC
        go_wp2
        go_loopw [24] (fun j wr => ∃ (k : Nat) (L : List Int), k ≤ n ∧ j = .int .i64 k ∧ L.length = n ∧ Kp w wr w.heap.size wn.heap.size (HD l0 n m) bsa ∧
          Rw w wr wn.heap.size bsa 38 (.slice (some ⟨w3.heap.size, 0, none⟩) n n) n (L.map (Value.int .u64)) ∧ Rw w wr wn.heap.size bsa 38 (.slice (some ⟨W4.heap.size, 0, none⟩) m m) m ((zs m).map (Value.int .u64)) ∧ Rw w wr wn.heap.size bsa 9 (.slice (some ⟨W5.heap.size, 0, none⟩) 2 2) 2 [.string ⟨#[97]⟩, .string ⟨#[98]⟩]) (fun j _ => n - (intOf j).toNat)
        case atStart => exact ⟨0, zs n, Nat.zero_le _, rfl, zs_len n, KR.out, RL.out, RM.out, RK.out⟩
        case round =>
          clear KR RL RM RK
          obtain ⟨k, L, hk, rfl, hL, hK, hLr, hM, hKy⟩ := hrel
          have HHL := hid hL
          have KR := hid hK
          have RL := hid hLr
          have RM := hid hM
          have RK := hid hKy
          clear hL hK hLr hM hKy
          by_cases hlt : k < n
          · obtain ⟨bc, e, hbc, cb⟩ := own_at RL.out.own hlt
            cases e
            have hkL : k < L.length := by rw [HHL.out]; exact hlt
            have c1 : wr.cell? ⟨w3.heap.size, k, none⟩ = some (.int .u64 L[k]) := by rw [cb]; simp [hkL]
            have c1f : wr.frozen? ⟨w3.heap.size, k, none⟩ = false := RL.out.own.frozenAt k
            have hlt'' : (k : Int) < (n : Int) := by omega
            clear cb
            go_wp2
            go_roundw
            case rel =>
              have ho := RL.out.out w3.heap.size rfl
              refine ⟨k + 1, L.set k 9, by omega, by go_num, (List.length_set).trans HHL.out, KR.out.put ho.2.1 ho.2.2 ho.1 _, ?_, RM.out.other (own_diff (by show _ ≠ _; simp only; omega)) _, RK.out.other (own_diff (by show _ ≠ _; simp only; omega)) _⟩
              have := RL.out.put k (.int .u64 9)
              rw [List.map_set]
              exact this
            case measure => simp [intOf]; omega
          · have hlt'' : ¬ (k : Int) < (n : Int) := by omega
            clear HHL RL
            go_wp2
            go_loopw [25] (fun j wr => ∃ (k : Nat) (L : List Int), k ≤ m ∧ j = .int .i64 k ∧ L.length = m ∧ Kp w wr w.heap.size wn.heap.size (HD l0 n m) bsa ∧
              Rw w wr wn.heap.size bsa 38 (.slice (some ⟨W4.heap.size, 0, none⟩) m m) m (L.map (Value.int .u64)) ∧ Rw w wr wn.heap.size bsa 9 (.slice (some ⟨W5.heap.size, 0, none⟩) 2 2) 2 [.string ⟨#[97]⟩, .string ⟨#[98]⟩]) (fun j _ => m - (intOf j).toNat)
            case atStart => exact ⟨0, zs m, Nat.zero_le _, rfl, zs_len m, KR.out, RM.out, RK.out⟩
            case round =>
              clear KR RM RK
              obtain ⟨k, L, hk, rfl, hL, hK, hM, hKy⟩ := hrel
              have HHL := hid hL
              have KR := hid hK
              have RM := hid hM
              have RK := hid hKy
              clear hL hK hM hKy
              by_cases hlt : k < m
              · obtain ⟨bc, e, hbc, cb⟩ := own_at RM.out.own hlt
                cases e
                have hkL : k < L.length := by rw [HHL.out]; exact hlt
                have c1 : wr.cell? ⟨W4.heap.size, k, none⟩ = some (.int .u64 L[k]) := by rw [cb]; simp [hkL]
                have c1f : wr.frozen? ⟨W4.heap.size, k, none⟩ = false := RM.out.own.frozenAt k
                have hlt3 : (k : Int) < (m : Int) := by omega
                clear cb
                go_wp2
                go_roundw
                case rel =>
                  have ho := RM.out.out W4.heap.size rfl
                  refine ⟨k + 1, L.set k 9, by omega, by go_num, (List.length_set).trans HHL.out, KR.out.put ho.2.1 ho.2.2 ho.1 _, ?_, RK.out.other (own_diff (by show _ ≠ _; simp only; omega)) _⟩
                  have := RM.out.put k (.int .u64 9)
                  rw [List.map_set]
                  exact this
                case measure => simp [intOf]; omega
              · have hlt3 : ¬ (k : Int) < (m : Int) := by omega
                clear HHL RM
                obtain ⟨bc, e, hbc, cb⟩ := own_at RK.out.own (show 0 < 2 by decide)
                cases e
                have ck : wr.cell? ⟨W5.heap.size, 0, none⟩ = some (.string ⟨#[97]⟩) := by rw [cb]; rfl
                have ckf : wr.frozen? ⟨W5.heap.size, 0, none⟩ = false := RK.out.own.frozenAt 0
                have hko := RK.out.out W5.heap.size rfl
                have KZ := hid (KR.out.put (p := ⟨W5.heap.size, 0, none⟩) hko.2.1 hko.2.2 hko.1 (.string ⟨#[122]⟩))
                have U2 := hid (show U 2 from ⟨by decide, by decide⟩)
                have AA := hid (atA l0 n m)
                clear cb hko hbc
                go_wp2_with (first
                  | (go_at_call 16; refine (bytes_yes 2 U2.out _ KZ.out.hs AA.out.1).mono ?_; rw [AA.out.2, oStr_bytes]; rintro e wb ⟨rx, rfl, hox, hbx⟩; obtain ⟨ax, cx, ex⟩ := own_form hox; subst ex; have RX := hid (Rw.new KZ.out hox); have KB := hid (KZ.out.below hbx); clear hox hbx))
                go_loopw [28] (fun j wr => ∃ (k : Nat) (L : List Int), k ≤ l0.length ∧ j = .int .i64 k ∧ L.length = l0.length ∧ Kp w wr w.heap.size wn.heap.size (HD l0 n m) bsa ∧ Rw w wr wn.heap.size bsa 5 (.slice ax l0.length cx) l0.length (L.map (Value.int .u8))) (fun j _ => l0.length - (intOf j).toNat)
                case atStart => exact ⟨0, l0, Nat.zero_le _, rfl, rfl, KB.out, RX.out⟩
                case round =>
                  clear KB RX KZ RK KR ck ckf
                  obtain ⟨k, L, hk, rfl, hL, hK, hC⟩ := hrel
                  have HHL := hid hL
                  have KR := hid hK
                  have RC := hid hC
                  clear hL hK hC
                  by_cases hlt : k < l0.length
                  · obtain ⟨bc, rfl, hbc, cb⟩ := own_at RC.out.own hlt
                    have hkL : k < L.length := by rw [HHL.out]; exact hlt
                    have c1 : wr.cell? ⟨bc, k, none⟩ = some (.int .u8 L[k]) := by rw [cb]; simp [hkL]
                    have c1f : wr.frozen? ⟨bc, k, none⟩ = false := RC.out.own.frozenAt k
                    have hlt4 : (k : Int) < (l0.length : Int) := by omega
                    clear cb
                    go_wp2
                    go_roundw
                    case rel =>
                      have ho := RC.out.out bc rfl
                      refine ⟨k + 1, _, by omega, by go_num, (List.length_set (i := k) (a := (L[k] + 1) % 256)).trans HHL.out, KR.out.put ho.2.1 ho.2.2 ho.1 _, ?_⟩
                      have := RC.out.put k (.int .u8 ((L[k] + 1) % 256))
                      rw [List.map_set]
                      exact this
                    case measure => simp [intOf]; omega
                  · have hlt4 : ¬ (k : Int) < (l0.length : Int) := by omega
                    have U10 := hid (show U 10 from ⟨by decide, by decide⟩)
                    have AC := hid (atC l0 n m)
                    clear HHL RC
                    go_wp2_with (first
                      | (go_at_call 22; refine (funOf_yes 10 U10.out _ KR.out.hs AC.out.1).mono ?_; rw [AC.out.2, oFun_num, oFun_vals, zs_len]; rintro e wb ⟨rx, rfl, hox, hbx⟩; obtain ⟨ay, cy, ey⟩ := own_form hox; subst ey; have RX := hid (Rw.new KR.out hox); have KB := hid (KR.out.below hbx); clear hox hbx))
                    go_loopw [32] (fun j wr => ∃ (k : Nat) (L : List Int), k ≤ m ∧ j = .int .i64 k ∧ L.length = m ∧ Kp w wr w.heap.size wn.heap.size (HD l0 n m) bsa ∧ Rw w wr wn.heap.size bsa 38 (.slice ay m cy) m (L.map (Value.int .u64))) (fun j _ => m - (intOf j).toNat)
                    case atStart => exact ⟨0, zs m, Nat.zero_le _, rfl, zs_len m, KB.out, RX.out⟩
                    case round =>
                      clear KB RX KR
                      obtain ⟨k, L, hk, rfl, hL, hK, hC⟩ := hrel
                      have HHL := hid hL
                      have KR := hid hK
                      have RC := hid hC
                      clear hL hK hC
                      by_cases hlt : k < m
                      · obtain ⟨bc, rfl, hbc, cb⟩ := own_at RC.out.own hlt
                        have hkL : k < L.length := by rw [HHL.out]; exact hlt
                        have c1 : wr.cell? ⟨bc, k, none⟩ = some (.int .u64 L[k]) := by rw [cb]; simp [hkL]
                        have c1f : wr.frozen? ⟨bc, k, none⟩ = false := RC.out.own.frozenAt k
                        have hlt5 : (k : Int) < (m : Int) := by omega
                        clear cb
                        go_wp2
                        go_roundw
                        case rel =>
                          have ho := RC.out.out bc rfl
                          refine ⟨k + 1, L.set k 9, by omega, by go_num, (List.length_set).trans HHL.out, KR.out.put ho.2.1 ho.2.2 ho.1 _, ?_⟩
                          have := RC.out.put k (.int .u64 9)
                          rw [List.map_set]
                          exact this
                        case measure => simp [intOf]; omega
                      · have hlt5 : ¬ (k : Int) < (m : Int) := by omega
                        have U14 := hid (show U 14 from ⟨by decide, by decide⟩)
                        have AD := hid (atD l0 n m)
                        have FD := hid (fldD l0 n m)
                        clear HHL RC
                        go_upto_region 44 with (first
                          | (go_at_call 25; refine (keys_yes 14 U14.out _ KR.out.hs AD.out.1).mono ?_; rw [AD.out.2]; rintro e wz ⟨rz, rfl, hoz0, hbz⟩; have hoz : wz.ownsRow wr.heap.size 9 1 rz 2 [.string ⟨#[97]⟩, .string ⟨#[98]⟩] := hoz0; obtain ⟨az, cz, ez⟩ := own_form hoz; subst ez; have RZ := hid (Rw.new KR.out hoz); have KY := hid (KR.out.below hbz); obtain ⟨bz, rfl, hbz', z0⟩ := own_at hoz (show 0 < 2 by decide); have z1 := (own_at hoz (show 1 < 2 by decide)); obtain ⟨bz2, ez2, _, z1⟩ := z1; cases ez2; have z0' : wz.cell? ⟨bz, 0, none⟩ = some (.string ⟨#[97]⟩) := z0; have z1' : wz.cell? ⟨bz, 1, none⟩ = some (.string ⟨#[98]⟩) := z1; have z1f : wz.frozen? ⟨bz, 1, none⟩ = false := RZ.out.own.frozenAt 1; have hzo := RZ.out.out bz rfl; have KQ := hid (KY.out.put (p := ⟨bz, 1, none⟩) hzo.2.1 hzo.2.2 hzo.1 (.string ⟨#[113]⟩)); clear hoz hoz0 hbz z0 z1 hzo)
                          | (go_at_call 16; refine (bytes_yes 2 U2.out _ KQ.out.hs AA.out.1).mono ?_; rw [AA.out.2, oStr_bytes]; rintro e wd ⟨rd, rfl, hod, hbd⟩; obtain ⟨ad, cd, ed⟩ := own_form hod; subst ed; have RD := hid (Rw.new KQ.out hod); have KD := hid (KQ.out.below hbd); clear hod hbd)
                          | (go_at_call 22; refine (funOf_yes 10 U10.out _ KD.out.hs AC.out.1).mono ?_; rw [AC.out.2, oFun_num, oFun_vals, zs_len]; rintro e wf ⟨rf, rfl, hof, hbf⟩; obtain ⟨af, cf, ef⟩ := own_form hof; subst ef; have RF := hid (Rw.new KD.out hof); have RD2 := hid (RD.out.below hbf); have KF := hid (KD.out.below hbf); clear hof hbf))
                        go_cut [0, 1, 2, 7, 9, 17, 35, 38, 40, 41] (fun s0 s1 s2 s7 s9 s17 s35 s38 s40 s41 wc => ∃ ad cd af cf, s0 = .slice p0 l0.length q0 ∧ s1 = .int .i64 n ∧ s2 = .int .i64 m ∧ s7 = .pointer (some ⟨w.heap.size, 0, none⟩) ∧ s9 = .pointer (some ⟨wn.heap.size, 0, none⟩) ∧ s17 = .int .u64 6 ∧ s35 = .slice ad l0.length cd ∧ s38 = .slice af m cf ∧ s40 = .int .u64 5 ∧ s41 = .int .i64 0 ∧
                          Kp w wc w.heap.size wn.heap.size (HD l0 n m) bsa ∧ Rw w wc wn.heap.size bsa 38 (.slice af m cf) m ((zs m).map (Value.int .u64)) ∧ Rw w wc wn.heap.size bsa 5 (.slice ad l0.length cd) l0.length (l0.map (Value.int .u8)))
                        case first =>
                          go_wp2_with (first
                            | (go_at_call 20; refine (field_any 14 ⟨#[98]⟩ U14.out _ KF.out.hs).mono ?_; rw [FD.out.1, FD.out.2]; rintro e wg ⟨rfl, hly⟩; have RF3 := hid (RF.out.below hly.bw); have RD3 := hid (RD2.out.below hly.bw); have KG := hid (KF.out.below hly.bw); clear hly))
                          go_meet
                          case rel => exact ⟨_, _, _, _, rfl, rfl, rfl, rfl, rfl, rfl, rfl, rfl, rfl, rfl, KG.out, RF3.out, RD3.out⟩
                        case rest =>
                        clear KR
                        obtain ⟨ad, cd, af, cf, rfl, rfl, rfl, rfl, rfl, rfl, rfl, rfl, rfl, rfl, hKG, hRF, hRD⟩ := hcut
                        have KG := hid hKG
                        have RF3 := hid hRF
                        have RD3 := hid hRD
                        clear hKG hRF hRD
                        have hmk1 := run_mk m (by have := HR.out; omega)
                        have hmk2 := run_mk n (by have := HR.out; omega)
                        have U6 := hid (show U 6 from ⟨by decide, by decide⟩)
                        have HLI := hid (show aList (HD l0 n m) 6 = zs n by rw [aList_vals (.inl (atB l0 n m).1) (by rw [(atB l0 n m).2, oArr_vals, zs_len]; have := HR.out; omega), (atB l0 n m).2, oArr_vals])
                        have HRn := hid (show (zs n).length ≤ 9223372036854775807 ∧ (zs m).length ≤ 9223372036854775807 by rw [zs_len, zs_len]; have := HR.out; omega)
                        go_wp2_with fail
                        have KS : Hid (∀ w', Bw wc w' → (convert 39 9 (.slice ad l0.length cd)).run Try.prog w' = .ok (.string (strOfNums l0)) w' ∧ (convert 39 9 (.slice p0 l0.length q0)).run Try.prog w' = .ok (.string (strOfNums l0)) w') := fun w' hb => ⟨conv_sl (RD3.out.below hb).sl, conv_sl (W0.out.1.below (Bw.trans KG.out.bw hb))⟩
                        go_region_held3 (fun w' => (convert 39 9 (.slice ad l0.length cd)).run Try.prog w' = .ok (.string (strOfNums l0)) w' ∧ (convert 39 9 (.slice p0 l0.length q0)).run Try.prog w' = .ok (.string (strOfNums l0)) w') (first | exact KS.out _ (by repeat (first | exact Bw.refl _ | exact HB7.out | apply Bw.lay | apply Bw.alloc | apply Bw.drewN | apply Bw.drew))) (first
                          | (go_at_call 13; refine (num_any _ _).mono ?_; rintro e wq ⟨rfl, hwq⟩; subst wq)
                          | (go_at_call 36; refine (list_any 6 U6.out _ (KG.out.hs.bw (by repeat (first | exact Bw.refl _ | apply Bw.lay | apply Bw.alloc | apply Bw.drewN | apply Bw.drew)))).mono ?_; rw [HLI.out, zs_len]; rintro e w7 ⟨r7, rfl, ho7, hb7⟩; obtain ⟨a7, c7, e7⟩ := own_form ho7; subst e7; have HO7 := hid ho7; have HC7 := hid hb7; have HB7 := hid (Bw.trans (show Bw wc _ from by repeat (first | exact Bw.refl _ | apply Bw.lay | apply Bw.alloc | apply Bw.drewN | apply Bw.drew)) hb7); clear ho7 hb7)
                          | (go_at_call 37; refine (rsameL_any (fun _ => True) _ _ (zs n) (zs n) _ (by rw [zs_len]; exact Sl.below (own_sl HO7.out (fun _ _ => trivial)) (by repeat (first | exact Bw.refl _ | apply Bw.lay | apply Bw.alloc | apply Bw.drewN | apply Bw.drew))) (by first | exact sl_madeAt _ n _ (by simp) | exact (sl_madeAt _ n _ (by simp)).below HC7.out) HRn.out.1 HRn.out.1).mono ?_; rw [decide_eq_true (rfl : zs n = zs n)]; rintro e w' ⟨rfl, os8, m8, rfl⟩)
                          | (go_at_call 37; refine (rsameL_any (fun _ => True) _ _ (zs m) (zs m) _ (by rw [zs_len]; exact (RF3.out.below (by repeat (first | exact Bw.refl _ | apply Bw.lay | apply Bw.alloc | apply Bw.drewN | apply Bw.drew))).sl) (by first | exact sl_made _ m | exact (sl_made wc m).below (Bw.drew (Bw.refl _))) HRn.out.2 HRn.out.2).mono ?_; rw [decide_eq_true (rfl : zs m = zs m)]; rintro e w' ⟨rfl, os7, m7, rfl⟩))
                        all_goals
                          go_wp2_with (first
                            | (go_at_call 29; refine (count_hs _ (KG.out.ho.bw (by repeat (first | exact Bw.refl _ | exact HB7.out | apply Bw.lay | apply Bw.alloc | apply Bw.drewN | apply Bw.drew)))).mono ?_; rintro e wq ⟨rfl, hwq⟩; subst wq)
                            | (go_at_call 10; refine (live_any _).mono ?_; rintro e wl ⟨rfl, hbl⟩; have BL := hid hbl; clear hbl))
                          all_goals go_ret
                          all_goals exact ⟨rfl, Bw.trans (Bw.trans KG.out.bw (show Bw wc _ from by repeat (first | exact Bw.refl _ | exact HB7.out | apply Bw.lay | apply Bw.alloc | apply Bw.drewN | apply Bw.drew))) BL.out⟩
  · have h3 : (decide ((300 : Int) < (l0.length : Int)) = true) ∨ (decide ((300 : Int) < (l0.length : Int)) = false ∧ decide (a1 < 0) = true) ∨ (decide ((300 : Int) < (l0.length : Int)) = false ∧ decide (a1 < 0) = false ∧ decide ((200 : Int) < a1) = true) ∨ (decide ((300 : Int) < (l0.length : Int)) = false ∧ decide (a1 < 0) = false ∧ decide ((200 : Int) < a1) = false ∧ decide (a2 < 0) = true) ∨ (decide ((300 : Int) < (l0.length : Int)) = false ∧ decide (a1 < 0) = false ∧ decide ((200 : Int) < a1) = false ∧ decide (a2 < 0) = false ∧ decide ((200 : Int) < a2) = true) := by
      simp only [decide_eq_true_iff, decide_eq_false_iff_not]; omega
    clear hr
    rcases h3 with l1 | ⟨l1, l2⟩ | ⟨l1, l2, l3⟩ | ⟨l1, l2, l3, l4⟩ | ⟨l1, l2, l3, l4, l5⟩
    all_goals
      go_enter Try.func7, Try.ntmps7
      go_wp2_with (first
        | (go_at_call 10; refine (live_any _).mono ?_; rintro e wl ⟨rfl, hbl⟩; have BL := hid hbl; clear hbl))
      all_goals go_ret
      all_goals exact ⟨rfl, BL.out⟩

theorem walk (a1 : Int) (w1 : -9223372036854775808 ≤ a1 ∧ a1 ≤ 9223372036854775807) (a2 : Int) (w2 : -9223372036854775808 ≤ a2 ∧ a2 ≤ 9223372036854775807) (w : World) (v0 : Value) (l0 : List Int) (w0 : Sl w (fun _ => True) v0 l0.length 1 (l0.map (Value.int .u8)) ∧ (∀ a ∈ l0, 0 ≤ a ∧ a ≤ 255) ∧ l0.length ≤ maxLen) :
    Calls Try.prog 7 #[v0, .int .i64 a1, .int .i64 a2] w fun e w' => e = .returned (.bool true) ∧ Bw w w' := by
  exact core w a1 w1 a2 w2 v0 l0 w0

set_option maxRecDepth 100000 in
theorem lifted (os : Os) (started : os.Started) (H : Type) (enc : TypeId × Value → H) :
    ReturnsInHanded {} Try.checked os 7 .any (Rows.heapOwnSpec.pre6 enc Try.prog Try.f7 Rows.heapOwnRow.domain false) (Rows.heapOwnSpec.post enc Try.prog Try.f7 false true false false) := by
  refine returnsInHanded_of_change (C := Try.checked) ownK started (by kernel_rfl) Try.func7
    (ChangeSpec.witness6 (enc := enc) (C := Try.checked) false ⟨#[], #[.slice none 0 0, .int .i64 0, .int .i64 0], []⟩ 8 (by kernel_rfl) (by kernel_rfl) (by kernel_rfl) (by kernel_rfl)) ?_
  intro W base args ds gs before hval0 hW hcnd _
  have hval : ∀ (j : Nat) t v, Try.f7.params[j]? = some t → args[j]? = some v → Value.okWide Try.prog W .any base t v := hval0
  have hW' := hW
  obtain ⟨p, q, hA0, hV, rfl, hfz, hnd⟩ := hW
  have hA : DataW.TrodAll enc Try.prog W 0 (fun _ => true) true Try.f7.params.toList args.toList ds p := hA0
  rw [Try.params7] at hA hval
  obtain ⟨v0, vs0, d0, ds0, p0, q0, hargs, rfl, rfl, h0, r0⟩ := trodAll_cons hA
  obtain ⟨v1, vs1, d1, ds1, p1, q1, rfl, rfl, rfl, h1, r1⟩ := trodAll_cons r0
  obtain ⟨v2, vs2, d2, ds2, p2, q2, rfl, rfl, rfl, h2, r2⟩ := trodAll_cons r1
  obtain ⟨rfl, rfl, rfl⟩ := trodAll_nil r2
  obtain rfl : args = #[v0, v1, v2] := by cases args; simp_all
  obtain ⟨rfl, rfl⟩ := trodVars_none hV
  have k0 := h0
  have lt0 : ∀ x ∈ p0, x.block < W.heap.size := by obtain ⟨m, hm⟩ := k0; exact DataW.trod_lt m _ _ _ hm
  have k1 := h1
  have lt1 : ∀ x ∈ p1, x.block < W.heap.size := by obtain ⟨m, hm⟩ := k1; exact DataW.trod_lt m _ _ _ hm
  have k2 := h2
  have lt2 : ∀ x ∈ p2, x.block < W.heap.size := by obtain ⟨m, hm⟩ := k2; exact DataW.trod_lt m _ _ _ hm
  obtain ⟨l0, w0⟩ := open_bytes (hval 0 39 v0 rfl rfl) h0
  obtain ⟨a1, rfl, rfl, rfl, w10⟩ := open_int Try.underlying3 (hval 1 3 v1 rfl rfl) h1
  have w1 := bounds_i64 w10
  obtain ⟨a2, rfl, rfl, rfl, w20⟩ := open_int Try.underlying3 (hval 2 3 v2 rfl rfl) h2
  have w2 := bounds_i64 w20
  clear hA0 hval0
  refine (walk a1 w1 a2 w2 W v0 l0 w0).mono fun e W' ⟨he, bel⟩ => ?_
  subst he
  exact ⟨_, rfl, _, _, _, [], _, [], hW', trodAll_mk1 (shut_bool Try.underlying4 _), (trodAll_cons_mk (Below.trod laidOut (by kernel_rfl) (of_decide_eq_true (by kernel_rfl)) k0 bel lt0) (trodAll_cons_mk (Below.trod laidOut (by kernel_rfl) (of_decide_eq_true (by kernel_rfl)) k1 bel lt1) (trodAll_cons_mk (Below.trod laidOut (by kernel_rfl) (of_decide_eq_true (by kernel_rfl)) k2 bel lt2) trodAll_mk0))), rfl, Below.frame bel _, fun h => by cases h⟩

theorem over : Rows.heapOwnRow.holds Try.pinned (OpenSpec.ofChange Rows.heapOwnSpec) :=
  OpenClaim.holds_of_wide 7 Try.f7 rfl rfl rfl rfl rfl rfl rfl ⟨rfl, rfl, rfl, rfl, rfl⟩ rfl rfl rfl rfl rfl (by kernel_rfl) Try.func7 (by kernel_rfl)
    (of_decide_eq_true (by kernel_rfl)) (by unfold Func.isWrapper; first | (rw [if_pos (by decide +kernel)]; kernel_rfl) | (rw [if_neg (by decide +kernel)]; exact ⟨rfl, rfl⟩))
    (fun os started H enc _ => lifted os started H enc)

theorem proved : Rows.HeapOwnSaid := over
end Go.Proofs.Ytjemhdepgeecjaa.heapOwn
namespace Go.Proofs.Ytjemhdepgeecjaa
theorem heapOwn_holds : Rows.HeapOwnSaid := heapOwn.proved
#print axioms heapOwn_holds
end Go.Proofs.Ytjemhdepgeecjaa
