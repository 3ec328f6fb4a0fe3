/- What a word looks like: the program's value, Text, while there is room. -/
import Derived.Test.YtgfdbhbkmjabcabGreatDoorSPn
import Derived.Laws.EntriesVeiled
set_option linter.unusedSimpArgs false
set_option linter.unusedVariables false
namespace Go.Proofs.YtgfdbhbkmjabcabGreatDoor
open Go Go.RowKit

set_option maxHeartbeats 8000000 in
theorem value_nest {b0 : Nat} {H : AHeap} {bs : List Nat} {sb mb bt base : Nat} {W : List Int} {xs t : List Value} (v : Int) (hU : U v) (w : World) (h : SI w b0 H bs sb mb bt base W xs)
    (hk : (kk H v == 2 || kk H v == 3 || kk H v == 4) = true)
    (hn : Calls Tryz.prog 22 #[.pointer (some ⟨sb, 0, none⟩), .int .u64 v] w fun e w2 => e = .returned (.bool true) ∧ SI w2 b0 H bs sb mb bt base W (xs ++ t) ∧ St mb bt base w w2) :
    Calls Tryz.prog 12 #[.pointer (some ⟨sb, 0, none⟩), .int .u64 v] w fun e w' => e = .returned (.bool true) ∧ SI w' b0 H bs sb mb bt base W (xs ++ t) ∧ St mb bt base w w' := by
  have HI := hid h
  have HU := hid hU
  have HN := hid hn
  have z0 := h.c0
  clear h hU hn
  go_enter Tryz.func12, Tryz.ntmps12
  go_wp2_with (first
    | (go_at_call 14; refine (kind_hs4 _ HU.out _ HI.out.hs).mono ?_; rintro e w' ⟨rfl, hw'⟩; subst w')
    | (go_at_call 21; refine (hasParts_any _ _).mono ?_; rintro e w' ⟨rfl, hw'⟩; subst w'; rw [hk])
    | (go_at_call 22; refine HN.out.mono ?_; rintro e w1 ⟨rfl, hi1, hs1⟩; have HI1 := hid hi1; have HT1 := hid hs1; clear hi1 hs1)
    | fail)
  all_goals go_ret
  all_goals exact ⟨rfl, HI1.out, HT1.out⟩

/-- The texts of words without parts that are known (X: what is besides asked of the world). -/
def PlOK (X : World → Prop) (b0 : Nat) (H : AHeap) (bs : List Nat) (pl : Int → Option ByteArray) : Prop :=
  ∀ v s, pl v = some s → U v → ∀ w1, X w1 → HS w1 b0 H bs → Calls Tryz.prog 23 #[.pointer (some ⟨b0, 0, none⟩), .int .u64 v] w1 fun e w2 => e = .returned (.string s) ∧ Bw w1 w2
/-- The numbers whose digits are known. -/
def ItOK (X : World → Prop) (it : Nat → Option ByteArray) : Prop :=
  ∀ n s, it n = some s → n ≤ 1000000 → ∀ w1, X w1 → Calls Tryz.prog 39 #[.int .i64 (n : Int)] w1 fun e w2 => e = .returned (.string s) ∧ Bw w1 w2

theorem value_lk {X : World → Prop} {b0 : Nat} {H : AHeap} {bs : List Nat} {sb mb bt base : Nat} {pl : Int → Option ByteArray} {it : Nat → Option ByteArray} (hpl : PlOK X b0 H bs pl) (hit : ItOK X it) (hX : ∀ w w', base ≤ w.heap.size → St mb bt base w w' → X w → X w') :
    ∀ (n : Nat) (W : List Int) (v : Int) (t : List Value), lk H pl it n W v = some t → U v → W.length + n ≤ 1000000 → ∀ (w : World) (xs : List Value), X w → SI w b0 H bs sb mb bt base W xs → xs.length + t.length ≤ 65536 →
      Calls Tryz.prog 12 #[.pointer (some ⟨sb, 0, none⟩), .int .u64 v] w fun e w' => e = .returned (.bool true) ∧ SI w' b0 H bs sb mb bt base W (xs ++ t) ∧ St mb bt base w w'
  | 0, W, v, t, h, _, _, _, _, _, _, _ => by simp [lk] at h
  | n + 1, W, v, t, h, hU, hW, w, xs, hx, hi, hr => by
    rw [lk] at h
    by_cases hk : (kk H v == 2 || kk H v == 3 || kk H v == 4) = true
    · rw [if_pos hk] at h
      refine value_nest v hU w hi hk ?_
      by_cases hv : v ∈ W
      · rw [if_pos hv] at h
        cases hs : it (W.length - W.idxOf v) with
        | none => rw [hs] at h; simp at h
        | some s =>
          rw [hs] at h
          simp only [Option.map_some, Option.some.injEq] at h
          subst h
          have hlt : W.idxOf v < W.length := List.idxOf_lt_length_iff.2 hv
          refine nested_in v hU w hi (W.idxOf v) (by rw [List.getElem?_eq_getElem hlt]; simp) (by omega) s (by rw [Lib.strCells_length] at hr; exact hr) (fun w1 hb1 => ?_)
          have := hit _ _ hs (by omega) w1 (hX w w1 hi.top (hi.st hb1) hx)
          rw [show ((W.length - W.idxOf v : Nat) : Int) = (W.length : Int) - (W.idxOf v : Int) by omega] at this
          exact this
      · rw [if_neg hv] at h
        by_cases hk2 : kk H v = 2
        · rw [if_pos hk2] at h
          cases hl : lks (lk H pl it n (W ++ [v])) 0 (ob H v).vals with
          | none => rw [hl] at h; simp at h
          | some T =>
            rw [hl] at h
            simp only [Option.map_some, Option.some.injEq] at h
            subst h
            simp only [List.length_append, List.length_cons, List.length_nil] at hr
            refine nested_out v hU w hi hv (by omega) (fun w1 hs1 hi1 => ?_)
            refine parts_arr v hU w1 hi1 hk2 (by omega) (fun w2 hs2 hi2 => ?_)
            exact entries_any (lk H pl it n (W ++ [v])) v hU w2 hi2 hk2 T hl (by simp only [List.length_append, List.length_cons, List.length_nil]; omega)
              (fun x tx hfx hUx w3 ys hs3 hi3 hr3 => value_lk hpl hit hX n (W ++ [v]) x tx hfx hUx (by simp; omega) w3 ys (hX w w3 hi.top ((hs1.trans hs2).trans hs3) hx) hi3 hr3)
        · rw [if_neg hk2] at h; simp at h
    · rw [if_neg hk] at h
      cases hs : pl v with
      | none => rw [hs] at h; simp at h
      | some s =>
        rw [hs] at h
        simp only [Option.map_some, Option.some.injEq] at h
        subst h
        exact value_pl v hU w hi (by simpa using hk) s (by rw [Lib.strCells_length] at hr; exact hr) (fun w1 hb1 => hpl v s hs hU w1 (hX w w1 hi.top (hi.st hb1) hx) (hi.hs.bw hb1))

theorem SI.begin {w : World} {b0 : Nat} {H : AHeap} {bs : List Nat} (h : HS w b0 H bs) :
    SI ((((w.alloc (.cells #[.slice none 0 0] 34)).alloc (.map #[] 0)).alloc (.cells (shv b0 (w.heap.size + 1) w.heap.size) 48))) b0 H bs (w.heap.size + 2) (w.heap.size + 1) w.heap.size (w.heap.size + 3) [] [] where
  hs := h.bw ((((Bw.refl w).alloc _).alloc _).alloc _)
  lo := fun k hk => by have := h.lt hk; omega
  sbn := by omega
  mbn := by omega
  btn := by omega
  top := by simp
  sh := by
    have := Blk.new ((w.alloc (.cells #[.slice none 0 0] 34)).alloc (.map #[] 0)) (shv b0 (w.heap.size + 1) w.heap.size) 48
    simpa using this
  mp := by
    have := World.ownsMap_made (w.alloc (.cells #[.slice none 0 0] 34)) Tryz.prog 23 (plainElem (H := Unit) Tryz.prog 3)
    simp only [World.size_alloc] at this
    exact ⟨_, this.alloc _, RowD.nil⟩
  tx := ⟨.slice none 0 0, ((Blk.new w #[.slice none 0 0] 34).alloc _).alloc _, ⟨rfl, .inl ⟨rfl, rfl⟩⟩⟩

set_option maxHeartbeats 8000000 in
theorem text_ok {b0 : Nat} {H : AHeap} {bs : List Nat} {pl : Int → Option ByteArray} {it : Nat → Option ByteArray} (w : World) (hpl : PlOK (Bw w) b0 H bs pl) (hit : ItOK (Bw w) it) (n : Nat) (v : Int) (t : List Value) (ht : lk H pl it n [] v = some t) (hU : U v) (hn : n ≤ 1000000) (hl : t.length ≤ 65536)
    (h : HS w b0 H bs) :
    Calls Tryz.prog 7 #[.pointer (some ⟨b0, 0, none⟩), .int .u64 v] w fun e w' => ∃ r, e = .returned (.tuple #[r, .int .i64 0]) ∧ w'.ownsRow w.heap.size 5 1 r t.length t ∧ Bw w w' := by
  have HB := hid (SI.begin h)
  have hX : ∀ w1 w2 : World, w.heap.size + 3 ≤ w1.heap.size → St (w.heap.size + 1) w.heap.size (w.heap.size + 3) w1 w2 → Bw w w1 → Bw w w2 := fun w1 w2 _ hs hb =>
    ⟨hs.os.trans hb.os, hs.tape.trans hb.tape, hs.output.trans hb.output, Nat.le_trans hb.size hs.size, fun b h1 => (hs.block b (by omega) (by omega) (by omega)).trans (hb.block b h1)⟩
  have HV := hid (fun w1 h0 h1 => value_lk (sb := w.heap.size + 2) (mb := w.heap.size + 1) (bt := w.heap.size) (base := w.heap.size + 3) hpl hit hX n [] v t ht hU (by simpa using hn) w1 [] h0 h1 (by simpa using hl))
  clear h hpl hit ht hX
  have hmm := @run_makeMap Tryz.prog
  go_enter Tryz.func7, Tryz.ntmps7
  go_wp2_with (first
    | (go_at_call 12; refine (HV.out _ ((((Bw.refl w).alloc _).alloc _).alloc _) HB.out).mono ?_; rintro e w1 ⟨rfl, hi1, hs1⟩; obtain ⟨r, hb1, ho1⟩ := hi1.tx; have y0 := hb1.cell 0; have HO1 := hid ho1; have HT1 := hid hs1; clear hi1 hs1 hb1 ho1)
    | fail)
  all_goals go_ret2
  all_goals refine ⟨_, rfl, own_base (by simpa using HO1.out) (by omega), ?_⟩
  all_goals exact ⟨HT1.out.os, HT1.out.tape, HT1.out.output, by have := HT1.out.size; simp at this; omega, fun b hb => (HT1.out.block b (by omega) (by omega) (by omega)).trans (((((Bw.refl w).alloc _).alloc _).alloc _).block b hb)⟩

end Go.Proofs.YtgfdbhbkmjabcabGreatDoor
