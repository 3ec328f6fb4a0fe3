/- What a word looks like: the program's value, Text, while there is room. · What a word looks like, where there may be no room: a piece, a word without parts, an object that one is within, one that has parts. -/
import Derived.Test.YtlhgdknmgdohkaaGreatDoorSPnk
import Derived.Laws.EntriesVeiled
set_option linter.unusedSimpArgs false
set_option linter.unusedVariables false
namespace Go.Proofs.YtlhgdknmgdohkaaGreatDoor
open Go Go.RowKit

set_option maxHeartbeats 8000000 in
theorem value_nest {b0 : Nat} {H : AHeap} {bs : List Nat} {sb mb bt base : Nat} {W : List Int} {xs t : List Value} (v : Int) (hU : U v) (w : World) (h : SI w b0 H bs sb mb bt base W xs)
    (hk : (kk H v == 2 || kk H v == 3 || kk H v == 4) = true)
    (hn : Calls Tryz.prog 66 #[.pointer (some ⟨sb, 0, none⟩), .int .u64 v] w fun e w2 => e = .returned (.bool true) ∧ SI w2 b0 H bs sb mb bt base W (xs ++ t) ∧ St mb bt base w w2) :
    Calls Tryz.prog 38 #[.pointer (some ⟨sb, 0, none⟩), .int .u64 v] w fun e w' => e = .returned (.bool true) ∧ SI w' b0 H bs sb mb bt base W (xs ++ t) ∧ St mb bt base w w' := by
  have HI := hid h
  have HU := hid hU
  have HN := hid hn
  have z0 := h.c0
  clear h hU hn
  go_enter Tryz.func38, Tryz.ntmps38
  go_wp2_with (first
    | (go_at_call 33; refine (kind_hs4 _ HU.out _ HI.out.hs).mono ?_; rintro e w' ⟨rfl, hw'⟩; subst w')
    | (go_at_call 55; refine (hasParts_any _ _).mono ?_; rintro e w' ⟨rfl, hw'⟩; subst w'; rw [hk])
    | (go_at_call 66; refine HN.out.mono ?_; rintro e w1 ⟨rfl, hi1, hs1⟩; have HI1 := hid hi1; have HT1 := hid hs1; clear hi1 hs1)
    | fail)
  all_goals go_ret
  all_goals exact ⟨rfl, HI1.out, HT1.out⟩

/-- The texts of words without parts that are known (X: what is besides asked of the world). -/
def PlOK (X : World → Prop) (b0 : Nat) (H : AHeap) (bs : List Nat) (pl : Int → Option ByteArray) : Prop :=
  ∀ v s, pl v = some s → U v → ∀ w1, X w1 → HS w1 b0 H bs → Calls Tryz.prog 67 #[.pointer (some ⟨b0, 0, none⟩), .int .u64 v] w1 fun e w2 => e = .returned (.string s) ∧ Bw w1 w2
/-- The numbers whose digits are known. -/
def ItOK (X : World → Prop) (it : Nat → Option ByteArray) : Prop :=
  ∀ n s, it n = some s → n ≤ 1000000 → ∀ w1, X w1 → Calls Tryz.prog 83 #[.int .i64 (n : Int)] w1 fun e w2 => e = .returned (.string s) ∧ Bw w1 w2

theorem value_lk {X : World → Prop} {b0 : Nat} {H : AHeap} {bs : List Nat} {sb mb bt base : Nat} {pl : Int → Option ByteArray} {it : Nat → Option ByteArray} (hpl : PlOK X b0 H bs pl) (hit : ItOK X it) (hX : ∀ w w', base ≤ w.heap.size → St mb bt base w w' → X w → X w') :
    ∀ (n : Nat) (W : List Int) (v : Int) (t : List Value), lk H pl it n W v = some t → U v → W.length + n ≤ 1000000 → ∀ (w : World) (xs : List Value), X w → SI w b0 H bs sb mb bt base W xs → xs.length + t.length ≤ 65536 →
      Calls Tryz.prog 38 #[.pointer (some ⟨sb, 0, none⟩), .int .u64 v] w fun e w' => e = .returned (.bool true) ∧ SI w' b0 H bs sb mb bt base W (xs ++ t) ∧ St mb bt base w w'
  | 0, W, v, t, h, _, _, _, _, _, _, _ => by simp [lk] at h
  | n + 1, W, v, t, h, hU, hW, w, xs, hx, hi, hr => by
    rw [lk] at h
    by_cases hk : (kk H v == 2 || kk H v == 3 || kk H v == 4) = true
    · rw [if_pos hk] at h
      refine value_nest v hU w hi hk ?_
      by_cases hv : v ∈ W
      · rw [if_pos hv] at h
        cases hs : it (W.length - W.idxOf v) with
        | none => rw [hs] at h; simp at h
        | some s =>
          rw [hs] at h
          simp only [Option.map_some, Option.some.injEq] at h
          subst h
          have hlt : W.idxOf v < W.length := List.idxOf_lt_length_iff.2 hv
          refine nested_in v hU w hi (W.idxOf v) (by rw [List.getElem?_eq_getElem hlt]; simp) (by omega) s (by rw [Lib.strCells_length] at hr; exact hr) (fun w1 hb1 => ?_)
          have := hit _ _ hs (by omega) w1 (hX w w1 hi.top (hi.st hb1) hx)
          rw [show ((W.length - W.idxOf v : Nat) : Int) = (W.length : Int) - (W.idxOf v : Int) by omega] at this
          exact this
      · rw [if_neg hv] at h
        by_cases hk2 : kk H v = 2
        · rw [if_pos hk2] at h
          cases hl : lks (lk H pl it n (W ++ [v])) 0 (ob H v).vals with
          | none => rw [hl] at h; simp at h
          | some T =>
            rw [hl] at h
            simp only [Option.map_some, Option.some.injEq] at h
            subst h
            simp only [List.length_append, List.length_cons, List.length_nil] at hr
            refine nested_out v hU w hi hv (by omega) (fun w1 hs1 hi1 => ?_)
            refine parts_arr v hU w1 hi1 hk2 (by omega) (fun w2 hs2 hi2 => ?_)
            exact entries_any (lk H pl it n (W ++ [v])) v hU w2 hi2 hk2 T hl (by simp only [List.length_append, List.length_cons, List.length_nil]; omega)
              (fun x tx hfx hUx w3 ys hs3 hi3 hr3 => value_lk hpl hit hX n (W ++ [v]) x tx hfx hUx (by simp; omega) w3 ys (hX w w3 hi.top ((hs1.trans hs2).trans hs3) hx) hi3 hr3)
        · rw [if_neg hk2] at h; simp at h
    · rw [if_neg hk] at h
      cases hs : pl v with
      | none => rw [hs] at h; simp at h
      | some s =>
        rw [hs] at h
        simp only [Option.map_some, Option.some.injEq] at h
        subst h
        exact value_pl v hU w hi (by simpa using hk) s (by rw [Lib.strCells_length] at hr; exact hr) (fun w1 hb1 => hpl v s hs hU w1 (hX w w1 hi.top (hi.st hb1) hx) (hi.hs.bw hb1))

theorem SI.begin {w : World} {b0 : Nat} {H : AHeap} {bs : List Nat} (h : HS w b0 H bs) :
    SI ((((w.alloc (.cells #[.slice none 0 0] 44)).alloc (.map #[] 0)).alloc (.cells (shv b0 (w.heap.size + 1) w.heap.size) 88))) b0 H bs (w.heap.size + 2) (w.heap.size + 1) w.heap.size (w.heap.size + 3) [] [] where
  hs := h.bw ((((Bw.refl w).alloc _).alloc _).alloc _)
  lo := fun k hk => by have := h.lt hk; omega
  sbn := by omega
  mbn := by omega
  btn := by omega
  top := by simp
  sh := by
    have := Blk.new ((w.alloc (.cells #[.slice none 0 0] 44)).alloc (.map #[] 0)) (shv b0 (w.heap.size + 1) w.heap.size) 88
    simpa using this
  mp := by
    have := World.ownsMap_made (w.alloc (.cells #[.slice none 0 0] 44)) Tryz.prog 27 (plainElem (H := Unit) Tryz.prog 3)
    simp only [World.size_alloc] at this
    exact ⟨_, this.alloc _, RowD.nil⟩
  tx := ⟨.slice none 0 0, ((Blk.new w #[.slice none 0 0] 44).alloc _).alloc _, ⟨rfl, .inl ⟨rfl, rfl⟩⟩⟩

set_option maxHeartbeats 8000000 in
theorem text_ok {b0 : Nat} {H : AHeap} {bs : List Nat} {pl : Int → Option ByteArray} {it : Nat → Option ByteArray} (w : World) (hpl : PlOK (Bw w) b0 H bs pl) (hit : ItOK (Bw w) it) (n : Nat) (v : Int) (t : List Value) (ht : lk H pl it n [] v = some t) (hU : U v) (hn : n ≤ 1000000) (hl : t.length ≤ 65536)
    (h : HS w b0 H bs) :
    Calls Tryz.prog 16 #[.pointer (some ⟨b0, 0, none⟩), .int .u64 v] w fun e w' => ∃ r, e = .returned (.tuple #[r, .int .i64 0]) ∧ w'.ownsRow w.heap.size 5 1 r t.length t ∧ Bw w w' := by
  have HB := hid (SI.begin h)
  have hX : ∀ w1 w2 : World, w.heap.size + 3 ≤ w1.heap.size → St (w.heap.size + 1) w.heap.size (w.heap.size + 3) w1 w2 → Bw w w1 → Bw w w2 := fun w1 w2 _ hs hb =>
    ⟨hs.os.trans hb.os, hs.tape.trans hb.tape, hs.output.trans hb.output, Nat.le_trans hb.size hs.size, fun b h1 => (hs.block b (by omega) (by omega) (by omega)).trans (hb.block b h1)⟩
  have HV := hid (fun w1 h0 h1 => value_lk (sb := w.heap.size + 2) (mb := w.heap.size + 1) (bt := w.heap.size) (base := w.heap.size + 3) hpl hit hX n [] v t ht hU (by simpa using hn) w1 [] h0 h1 (by simpa using hl))
  clear h hpl hit ht hX
  have hmm := @run_makeMap Tryz.prog
  go_enter Tryz.func16, Tryz.ntmps16
  go_wp2_with (first
    | (go_at_call 38; refine (HV.out _ ((((Bw.refl w).alloc _).alloc _).alloc _) HB.out).mono ?_; rintro e w1 ⟨rfl, hi1, hs1⟩; obtain ⟨r, hb1, ho1⟩ := hi1.tx; have y0 := hb1.cell 0; have HO1 := hid ho1; have HT1 := hid hs1; clear hi1 hs1 hb1 ho1)
    | fail)
  all_goals go_ret2
  all_goals refine ⟨_, rfl, own_base (by simpa using HO1.out) (by omega), ?_⟩
  all_goals exact ⟨HT1.out.os, HT1.out.tape, HT1.out.output, by have := HT1.out.size; simp at this; omega, fun b hb => (HT1.out.block b (by omega) (by omega) (by omega)).trans (((((Bw.refl w).alloc _).alloc _).alloc _).block b hb)⟩

end Go.Proofs.YtlhgdknmgdohkaaGreatDoor

set_option linter.unusedSimpArgs false
set_option linter.unusedVariables false
namespace Go.Proofs.YtlhgdknmgdohkaaGreatDoor
open Go Go.RowKit

/-- Is there room? -/
def fits (xs t : List Value) : Bool := decide (xs.length + t.length ≤ 65536)

theorem fits_yes {xs t : List Value} (h : xs.length + t.length ≤ 65536) : fits xs t = true := decide_eq_true h
theorem fits_no {xs t : List Value} (h : ¬ xs.length + t.length ≤ 65536) : fits xs t = false := decide_eq_false h
theorem fits_le {xs t : List Value} (h : fits xs t = true) : xs.length + t.length ≤ 65536 := of_decide_eq_true h
theorem fits_app {xs a b : List Value} (h : fits xs a = true) : fits xs (a ++ b) = fits (xs ++ a) b := by
  unfold fits
  simp only [List.length_append, Nat.add_assoc]
theorem fits_fst {xs a b : List Value} (h : fits xs a = false) : fits xs (a ++ b) = false := by
  have : ¬ xs.length + a.length ≤ 65536 := of_decide_eq_false h
  exact fits_no (by simp only [List.length_append]; omega)

/-- From one world to the next while something is shown; blocks that hold no bytes are kept, wherever they lie. -/
structure Sz (mb bt base : Nat) (w w' : World) : Prop where
  st : St mb bt base w w'
  keep : ∀ b, b < w.heap.size → b ≠ mb → b ≠ bt → (∀ cur, w.heap[b]? ≠ some (.cells cur 5 (0, 0))) → w'.heap[b]? = w.heap[b]?

theorem Sz.refl (mb bt base : Nat) (w : World) : Sz mb bt base w w := ⟨St.refl _ _ _ _, fun _ _ _ _ _ => rfl⟩
theorem Sz.trans {mb bt base : Nat} {a b c : World} (h : Sz mb bt base a b) (k : Sz mb bt base b c) : Sz mb bt base a c :=
  ⟨h.st.trans k.st, fun x h1 h2 h3 h4 => by
    have e := h.keep x h1 h2 h3 h4
    exact (k.keep x (Nat.lt_of_lt_of_le h1 h.st.size) h2 h3 (fun cur => by rw [e]; exact h4 cur)).trans e⟩

theorem SI.sz {w w' : World} {b0 : Nat} {H : AHeap} {bs : List Nat} {sb mb bt base : Nat} {W : List Int} {xs : List Value} (h : SI w b0 H bs sb mb bt base W xs) (hb : Bw w w') : Sz mb bt base w w' :=
  ⟨h.st hb, fun b h1 _ _ _ => hb.block b h1⟩

theorem SI.turnedz {w w' : World} {b0 : Nat} {H : AHeap} {bs : List Nat} {sb mb bt base : Nat} {W W' : List Int} {xs : List Value} (h : SI w b0 H bs sb mb bt base W xs) (ht : w.mapTurned w' mb) (hm : Wi w' mb W') :
    SI w' b0 H bs sb mb bt base W' xs ∧ Sz mb bt base w w' := by
  obtain ⟨h1, h2⟩ := h.turned ht hm
  exact ⟨h1, h2, fun b hb hn _ _ => ht.grown.block b hb (fun e => hn (Option.some.inj e))⟩

/-- Behind something that was shown: it said yes just if there was room, and then it stands behind the text. -/
def Sd (b0 : Nat) (H : AHeap) (bs : List Nat) (sb mb bt base : Nat) (W : List Int) (xs t : List Value) (w : World) (e : Ending) (w' : World) : Prop :=
  e = .returned (.bool (fits xs t)) ∧ Sz mb bt base w w' ∧ (fits xs t = true → SI w' b0 H bs sb mb bt base W (xs ++ t))

theorem SI.cs {w w' : World} {b0 : Nat} {H : AHeap} {bs : List Nat} {sb mb bt base : Nat} {W : List Int} {xs : List Value} (h : SI w b0 H bs sb mb bt base W xs) (hst : Sz mb bt base w w') :
    w'.cell? ⟨sb, 0, none⟩ = some (.pointer (some ⟨b0, 0, none⟩)) ∧ w'.cell? ⟨sb, 1, none⟩ = some (.map (some mb)) ∧ w'.cell? ⟨sb, 2, none⟩ = some (.func (.func 37) #[] #[.pointer (some ⟨bt, 0, none⟩)]) := by
  have hk := h.sh.keep (hst.st.block sb h.sbn.1 h.sbn.2.1 h.sbn.2.2)
  exact ⟨hk.cell 0, hk.cell 1, hk.cell 2⟩

theorem put_two (s : ByteArray) {w : World} {b0 : Nat} {H : AHeap} {bs : List Nat} {sb mb bt base : Nat} {W : List Int} {xs : List Value} (h : SI w b0 H bs sb mb bt base W xs) (hx : xs.length ≤ 65536) (hs : s.size ≤ 1000000000) :
    Calls Tryz.prog 37 #[.string s, .pointer (some ⟨bt, 0, none⟩)] w (Sd b0 H bs sb mb bt base W xs (Lib.strCells s) w) := by
  obtain ⟨t, hB, ho⟩ := h.tx
  refine (put_any s bt base xs t w hB ho hx hs h.top).mono fun e w' hc => ?_
  rcases hc with ⟨hr, he, hw⟩ | ⟨hr, he, v', w1, how, hg, hw', hb1⟩
  · have hf : fits xs (Lib.strCells s) = false := fits_no (by rw [Lib.strCells_length]; omega)
    subst hw
    refine ⟨?_, Sz.refl _ _ _ _, fun k => ?_⟩
    · rw [hf]; exact he
    · rw [hf] at k; cases k
  · have hf : fits xs (Lib.strCells s) = true := fits_yes (by rw [Lib.strCells_length]; exact hr)
    have hst1 : ∀ b, b < base → w1.heap[b]? = w.heap[b]? := fun b hb => hg.block b (Nat.lt_of_lt_of_le hb h.top) (fun k => by have := (ho.lt b k.symm).1; omega)
    have hst : St mb bt base w w' := by
      rw [hw']
      exact ⟨hg.os, hg.tape, hg.output, by simpa [World.setCell] using hg.size, fun b h1 _ h3 => (Below.heap_setCell w1 ⟨bt, 0, none⟩ v' b h3).trans (hst1 b h1)⟩
    refine ⟨by rw [hf]; exact he, ⟨hst, fun b h1 _ h3 h4 => ?_⟩, fun _ => h.next hst ?_ ?_⟩
    · rw [hw']
      refine (Below.heap_setCell w1 ⟨bt, 0, none⟩ v' b h3).trans (hg.block b h1 (fun e => ?_))
      rcases ho.2 with ⟨rfl, _⟩ | ⟨g, cap, cur, rfl, _, hgc, _⟩
      · simp [Value.ownBlock] at e
      · have e' : b = g := by simpa [Value.ownBlock] using e
        subst e'
        exact h4 cur hgc
    · refine h.mp.keep ?_
      rw [hw']
      exact (Below.heap_setCell w1 ⟨bt, 0, none⟩ v' mb h.mbn.2).trans (hst1 mb h.mbn.1)
    · refine ⟨v', ?_, ?_⟩
      · rw [hw']; exact hb1.set 0 v'
      · rw [hw', List.length_append, Lib.strCells_length]
        refine own_same how (fun k hk => Below.heap_setCell w1 ⟨bt, 0, none⟩ v' k (fun e => ?_))
        have h1 := (how.lt k hk).1
        have h2 := h.btn
        have e' : k = bt := e
        omega

set_option maxHeartbeats 8000000 in
theorem value_pl2 {b0 : Nat} {H : AHeap} {bs : List Nat} {sb mb bt base : Nat} {W : List Int} {xs : List Value} (v : Int) (hU : U v) (w : World) (h : SI w b0 H bs sb mb bt base W xs) (hx : xs.length ≤ 65536)
    (hk : (kk H v == 2 || kk H v == 3 || kk H v == 4) = false) (s : ByteArray) (hs : s.size ≤ 1000000000)
    (hpl : ∀ w1, Bw w w1 → Calls Tryz.prog 67 #[.pointer (some ⟨b0, 0, none⟩), .int .u64 v] w1 fun e w2 => e = .returned (.string s) ∧ Bw w1 w2) :
    Calls Tryz.prog 38 #[.pointer (some ⟨sb, 0, none⟩), .int .u64 v] w (Sd b0 H bs sb mb bt base W xs (Lib.strCells s) w) := by
  have HI := hid h
  have HU := hid hU
  have HPL := hid hpl
  have HX := hid hx
  have HS := hid hs
  have z0 := h.c0
  have z2 := h.c2
  clear h hU hpl hx hs
  go_enter Tryz.func38, Tryz.ntmps38
  go_wp2_with (first
    | (go_at_call 33; refine (kind_hs4 _ HU.out _ HI.out.hs).mono ?_; rintro e w' ⟨rfl, hw'⟩; subst w')
    | (go_at_call 55; refine (hasParts_any _ _).mono ?_; rintro e w' ⟨rfl, hw'⟩; subst w'; rw [hk])
    | fail)
  go_region_held3 (fun w' => w'.cell? ⟨sb, 0, none⟩ = some (.pointer (some ⟨b0, 0, none⟩)) ∧ w'.cell? ⟨sb, 2, none⟩ = some (.func (.func 37) #[] #[.pointer (some ⟨bt, 0, none⟩)])) (first | (simp [go_sem, *]; done) | exact ⟨yy0, yy2⟩ | exact ⟨y0, y2⟩)
    (first
      | (go_at_call 67; refine (HPL.out _ (by repeat (first | exact Bw.refl _ | apply Bw.drew))).mono ?_; rintro e w2 ⟨rfl, hb2⟩; have hb3 : Bw w w2 := Bw.trans (by repeat (first | exact Bw.refl _ | apply Bw.drew)) hb2; have hi2 := HI.out.bw hb3; have y0 := hi2.c0; have y2 := hi2.c2; have HI2 := hid hi2; have HT2 := hid (HI.out.sz hb3); clear hb2 hb3 hi2)
      | (go_at_call 37; refine (put_two s HI2.out HX.out HS.out).mono ?_; rintro e w3 ⟨rfl, hst3, hi3⟩; obtain ⟨yy0, yy1, yy2⟩ := HI2.out.cs hst3; have HI3 := hid hi3; have HT3 := hid hst3; clear hi3 hst3)
      | fail)
  go_wp2
  all_goals go_ret
  all_goals exact ⟨rfl, HT2.out.trans HT3.out, HI3.out⟩

set_option maxHeartbeats 8000000 in
theorem nested_out2 {b0 : Nat} {H : AHeap} {bs : List Nat} {sb mb bt base : Nat} {W : List Int} {xs t : List Value} (v : Int) (hU : U v) (w : World) (h : SI w b0 H bs sb mb bt base W xs)
    (hv : v ∉ W) (hW : W.length ≤ 1000000)
    (hp : ∀ w1, Sz mb bt base w w1 → SI w1 b0 H bs sb mb bt base (W ++ [v]) xs → Calls Tryz.prog 84 #[.pointer (some ⟨sb, 0, none⟩), .int .u64 v] w1 (Sd b0 H bs sb mb bt base (W ++ [v]) xs t w1)) :
    Calls Tryz.prog 66 #[.pointer (some ⟨sb, 0, none⟩), .int .u64 v] w (Sd b0 H bs sb mb bt base W xs t w) := by
  have HI := hid h
  have HP := hid hp
  have HK := hid (Maps.keyOf_int_mk underKV (wfU hU))
  have z1 := h.c1
  obtain ⟨D, ho, hr⟩ := h.mp
  have HO := hid ho
  have HR := hid hr
  have hsz := hr.size
  have hhas : Maps.has D (.int .u64 v) = false := by rw [hr.has v]; simp [hv]
  clear h hp hU ho hr
  cases hfit : fits xs t
  · have HF := hid hfit
    clear hfit
    go_enter Tryz.func66, Tryz.ntmps66
    go_wp2_with (first
      | (at_len; refine wpList_len_own _ rfl _ 86 rfl 27 3 underMp _ mb W.length D rfl HO.out ?_; rw [hsz])
      | (at_lookup; refine wpList_lookup_own_ok_int _ rfl _ _ 86 rfl 27 3 .i64 lawKV underMp underKI (zeroKI _) mb W.length D rfl HO.out _ _ rfl HK.out ?_; intro c hat hwc; rw [hhas]; clear hat hwc)
      | (at_mapUpdate; refine wpList_mapUpdate_in _ rfl _ _ _ 86 rfl 27 3 lawKV underMp _ mb W.length D rfl HO.out (by unfold maxLen; omega) _ _ _ rfl rfl HK.out _ [] (plainElem_int underKI (WalkArith.wf_i64 (by omega))) ?_; intro w1 hown1 hturn1; have hw1 : Wi w1 mb (W ++ [v]) := ⟨_, by simpa using hown1, HR.out.snoc hv⟩; obtain ⟨hi1, hs1⟩ := HI.out.turnedz hturn1 hw1; have y1 := hi1.c1; have HI1 := hid hi1; have HT1 := hid hs1; clear hown1 hturn1 hw1 hi1 hs1)
      | (go_at_call 84; refine (HP.out _ HT1.out HI1.out).mono ?_; rintro e w2 ⟨he2, hs2, _⟩; rw [HF.out] at he2; subst he2; have HT2 := hid hs2; clear hs2)
      | fail)
    all_goals go_ret
    all_goals exact ⟨by rw [HF.out]; rfl, HT1.out.trans HT2.out, fun k => by rw [HF.out] at k; cases k⟩
  · have HF := hid hfit
    clear hfit
    go_enter Tryz.func66, Tryz.ntmps66
    go_wp2_with (first
      | (at_len; refine wpList_len_own _ rfl _ 86 rfl 27 3 underMp _ mb W.length D rfl HO.out ?_; rw [hsz])
      | (at_lookup; refine wpList_lookup_own_ok_int _ rfl _ _ 86 rfl 27 3 .i64 lawKV underMp underKI (zeroKI _) mb W.length D rfl HO.out _ _ rfl HK.out ?_; intro c hat hwc; rw [hhas]; clear hat hwc)
      | (at_mapUpdate; refine wpList_mapUpdate_in _ rfl _ _ _ 86 rfl 27 3 lawKV underMp _ mb W.length D rfl HO.out (by unfold maxLen; omega) _ _ _ rfl rfl HK.out _ [] (plainElem_int underKI (WalkArith.wf_i64 (by omega))) ?_; intro w1 hown1 hturn1; have hw1 : Wi w1 mb (W ++ [v]) := ⟨_, by simpa using hown1, HR.out.snoc hv⟩; obtain ⟨hi1, hs1⟩ := HI.out.turnedz hturn1 hw1; have y1 := hi1.c1; have HI1 := hid hi1; have HT1 := hid hs1; clear hown1 hturn1 hw1 hi1 hs1)
      | (go_at_call 84; refine (HP.out _ HT1.out HI1.out).mono ?_; rintro e w2 ⟨he2, hs2, hi2'⟩; rw [HF.out] at he2; subst he2; have hi2 := hi2' HF.out; have y2 := hi2.c1; obtain ⟨D2, ho2, hr2⟩ := hi2.mp; have HO2 := hid ho2; have HR2 := hid hr2; have HI2 := hid hi2; have HT2 := hid hs2; clear hi2 hi2' hs2 ho2 hr2)
      | (at_delete; refine wpList_delete_own _ rfl _ _ 86 27 rfl 3 lawKV underMp _ mb (W ++ [v]).length D2 rfl HO2.out _ _ rfl HK.out ?_; intro w3 hown3 hturn3; have hrd := HR2.out.pop; have hw3 : Wi w3 mb W := ⟨_, own_tight hown3 hrd.size, hrd⟩; obtain ⟨hi3, hs3⟩ := HI2.out.turnedz hturn3 hw3; have HI3 := hid hi3; have HT3 := hid hs3; clear hown3 hturn3 hw3 hi3 hs3 hrd)
      | fail)
    all_goals go_ret
    all_goals exact ⟨by rw [HF.out]; rfl, (HT1.out.trans HT2.out).trans HT3.out, fun _ => HI3.out⟩

set_option maxRecDepth 100000 in
set_option maxHeartbeats 1000000 in
theorem nested_in2 {b0 : Nat} {H : AHeap} {bs : List Nat} {sb mb bt base : Nat} {W : List Int} {xs : List Value} (v : Int) (hU : U v) (w : World) (h : SI w b0 H bs sb mb bt base W xs) (hx : xs.length ≤ 65536)
    (i : Nat) (hv : W[i]? = some v) (hW : W.length ≤ 1000000) (s : ByteArray) (hss : s.size ≤ 1000000)
    (hit : ∀ w1, Bw w w1 → Calls Tryz.prog 83 #[.int .i64 ((W.length : Int) - (i : Int))] w1 fun e w2 => e = .returned (.string s) ∧ Bw w1 w2) :
    Calls Tryz.prog 66 #[.pointer (some ⟨sb, 0, none⟩), .int .u64 v] w (Sd b0 H bs sb mb bt base W xs (Lib.strCells (⟨#[94]⟩ ++ s)) w) := by
  have hs1 : (⟨#[94]⟩ : ByteArray).size + s.size ≤ 9223372036854775807 := by have e : (⟨#[94]⟩ : ByteArray).size = 1 := rfl; omega
  have hr0 : (⟨#[94]⟩ ++ s : ByteArray).size ≤ 1000000000 := by rw [ByteArray.size_append]; have e : (⟨#[94]⟩ : ByteArray).size = 1 := rfl; omega
  generalize hpe : (⟨#[94]⟩ ++ s : ByteArray) = p at hr0 ⊢
  have hadd : ∀ w, (Op.stringOp .add ⟨#[94]⟩ s).run Tryz.prog w = .ok (.string p) w := fun w => by rw [← hpe]; exact run_string_add_sum (P := Tryz.prog) w ⟨#[94]⟩ s hs1
  have HI := hid h
  have HX := hid hx
  have HK := hid (Maps.keyOf_int_mk underKV (wfU hU))
  have z1 := h.c1
  have z2 := h.c2
  obtain ⟨D, ho, hr⟩ := h.mp
  have HO := hid ho
  have hsz := hr.size
  have hhas : Maps.has D (.int .u64 v) = true := by rw [hr.has v]; simp [List.mem_of_getElem? hv]
  have HA := hid (hr.at_ i v hv)
  have hil : i < W.length := (List.getElem?_eq_some_iff.1 hv).1
  obtain ⟨d, hd⟩ : ∃ d : Int, d = (W.length : Int) - (i : Int) := ⟨_, rfl⟩
  have hwr : IntKind.i64.wrap ((W.length : Int) - (i : Int)) = d := by rw [IntKind.wrap_i64, hd]; omega
  rw [← hd] at hit
  have HIT := hid hit
  have hno : ¬ (9223372036854775807 < 1 + s.size) := by have e : (⟨#[94]⟩ : ByteArray).size = 1 := rfl; omega
  have HR0 := hid hr0
  clear h hit hU ho hr hv hs1 hr0 hd hx hss
  go_enter Tryz.func66, Tryz.ntmps66
  go_wp2_with (first
    | (at_len; refine wpList_len_own _ rfl _ 86 rfl 27 3 underMp _ mb W.length D rfl HO.out ?_; rw [hsz])
    | (at_lookup; refine wpList_lookup_own_ok_int _ rfl _ _ 86 rfl 27 3 .i64 lawKV underMp underKI (zeroKI _) mb W.length D rfl HO.out _ _ rfl HK.out ?_; intro c hat hwc; obtain rfl : c = (i : Int) := (by have := HA.out.symm.trans hat; injection this with e1; injection e1 with _ e2; exact e2.symm); rw [hhas]; clear hat hwc)
    | fail)
  go_region_held3 (fun w' => w'.cell? ⟨sb, 2, none⟩ = some (.func (.func 37) #[] #[.pointer (some ⟨bt, 0, none⟩)])) (first | (simp [go_sem, *]; done) | exact yy2 | exact y2)
    (first
      | (go_at_call_of 83 (Value.int .i64 d); refine (HIT.out _ (by repeat (first | exact Bw.refl _ | apply Bw.drew))).mono ?_; rintro e w2 ⟨rfl, hb2⟩; have hb3 : Bw w w2 := Bw.trans (by repeat (first | exact Bw.refl _ | apply Bw.drew)) hb2; have hi2 := HI.out.bw hb3; have y2 := hi2.c2; have HI2 := hid hi2; have HT2 := hid (HI.out.sz hb3); clear hb2 hb3 hi2)
      | (go_at_call 37; refine (put_two p HI2.out HX.out HR0.out).mono ?_; rintro e w3 ⟨rfl, hst3, hi3⟩; obtain ⟨_, _, yy2⟩ := HI2.out.cs hst3; have HI3 := hid hi3; have HT3 := hid (HT2.out.trans hst3); clear hi3 hst3)
      | fail)
  go_wp2
  all_goals go_ret
  all_goals exact ⟨rfl, HT3.out, HI3.out⟩

set_option maxHeartbeats 8000000 in
theorem value_nest2 {b0 : Nat} {H : AHeap} {bs : List Nat} {sb mb bt base : Nat} {W : List Int} {xs t : List Value} (v : Int) (hU : U v) (w : World) (h : SI w b0 H bs sb mb bt base W xs)
    (hk : (kk H v == 2 || kk H v == 3 || kk H v == 4) = true)
    (hn : Calls Tryz.prog 66 #[.pointer (some ⟨sb, 0, none⟩), .int .u64 v] w (Sd b0 H bs sb mb bt base W xs t w)) :
    Calls Tryz.prog 38 #[.pointer (some ⟨sb, 0, none⟩), .int .u64 v] w (Sd b0 H bs sb mb bt base W xs t w) := by
  have HI := hid h
  have HU := hid hU
  have HN := hid hn
  have z0 := h.c0
  clear h hU hn
  go_enter Tryz.func38, Tryz.ntmps38
  go_wp2_with (first
    | (go_at_call 33; refine (kind_hs4 _ HU.out _ HI.out.hs).mono ?_; rintro e w' ⟨rfl, hw'⟩; subst w')
    | (go_at_call 55; refine (hasParts_any _ _).mono ?_; rintro e w' ⟨rfl, hw'⟩; subst w'; rw [hk])
    | (go_at_call 66; refine HN.out.mono ?_; rintro e w1 ⟨rfl, hs1, hi1⟩; have HI1 := hid hi1; have HT1 := hid hs1; clear hi1 hs1)
    | fail)
  all_goals go_ret
  all_goals exact ⟨rfl, HT1.out, HI1.out⟩

end Go.Proofs.YtlhgdknmgdohkaaGreatDoor

