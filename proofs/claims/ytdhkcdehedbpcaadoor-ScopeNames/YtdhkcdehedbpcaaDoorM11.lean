/- withoutFinished: the contract; rows of unfinished nodes. · Check: the contract. -/
import Derived.Test.YtdhkcdehedbpcaaDoorM10
import Derived.Deep.QuietTactic
import Derived.BigQuiet
set_option linter.unusedSimpArgs false
set_option linter.unusedVariables false
namespace Go.Proofs.YtdhkcdehedbpcaaDoor
open Go Go.RowKit

def Un (w : World) (base : Nat) (v : Value) (S : List (ANode × Int)) : Prop := w.ownsRow base 114 6 v S.length (S.flatMap unV)

theorem un_len : ∀ S : List (ANode × Int), (S.flatMap unV).length = S.length * 6
 | [] => rfl
 | u :: S => by rw [List.flatMap_cons, List.length_append, un_len S, List.length_cons]; simp [unV]; omega

theorem un_get : ∀ (l : List (ANode × Int)) (i : Nat) (hi : i < l.length) (j : Nat) (hj : j < 6), (l.flatMap unV)[i * 6 + j]? = (unV l[i])[j]?
 | [], i, hi, _, _ => by simp at hi
 | t :: u, 0, _, j, hj => by
  rw [List.flatMap_cons, Nat.zero_mul, Nat.zero_add, List.getElem?_append_left (by simp [unV]; omega)]
  rfl
 | t :: u, i + 1, hi, j, hj => by
  have hi' : i < u.length := by simpa using hi
  rw [List.flatMap_cons, List.getElem?_append_right (by simp [unV]; omega)]
  have e : (i + 1) * 6 + j - (unV t).length = i * 6 + j := by simp [unV]; omega
  rw [e, un_get u i hi' j hj]
  simp

theorem Un.at {w : World} {base : Nat} {v : Value} {l : List (ANode × Int)} (h : Un w base v l) (hl : 0 < l.length) :
  ∃ g cap, v = .slice (some ⟨g, 0, none⟩) l.length cap ∧ base ≤ g ∧ g < w.heap.size ∧ l.length ≤ cap ∧ (∀ i (hi : i < l.length) j, j < 6 → w.cell? ⟨g, i * 6 + j, none⟩ = (unV l[i])[j]?) ∧ ∀ j, w.frozen? ⟨g, j, none⟩ = false := by
 rcases h.2 with ⟨_, h0⟩ | ⟨g, cap, cur, rfl, hb, hg, hnc, hmx, hsz, htake⟩
 ·omega
 ·refine ⟨g, cap, rfl, hb, (Array.getElem?_eq_some_iff.1 hg).1, hnc, fun i hi j hj => ?_, fun j => by simp [World.frozen?, hg]⟩
  rw [cell_of_row w g (i * 6 + j) cur _ (0, 0) hg, ← un_get l i hi j hj, ← htake, List.getElem?_take, if_pos (by omega)]
  simp

theorem Un.take {w : World} {base : Nat} {a : Option Addr} {cap : Nat} {l : List (ANode × Int)} (h : Un w base (.slice a l.length cap) l) (hl : 0 < l.length) (k : Nat) (hk : k ≤ l.length) : Un w base (.slice a k cap) (l.take k) := by
 have hlen : (l.take k).length = k := by simp; omega
 refine ⟨by rw [un_len], ?_⟩
 rcases h.2 with ⟨_, h0⟩ | ⟨g, cap', cur, e, hb, hg, hnc, hmx, hsz, htake⟩
 ·omega
 ·injection e with e1 e2 e3
  subst e1 e3
  refine .inr ⟨g, cap, cur, by rw [hlen], hb, hg, by omega, hmx, hsz, ?_⟩
  rw [hlen]
  have : (l.take k).flatMap unV = (l.flatMap unV).take (k * 6) := by
   have e := List.take_append_drop k l
   have e2 : (l.flatMap unV) = (l.take k).flatMap unV ++ (l.drop k).flatMap unV := by rw [← List.flatMap_append, e]
   rw [e2, List.take_left' (by rw [un_len, hlen])]
  rw [this, ← htake, List.take_take]
  congr 1
  omega

theorem wof_snoc (P : List (ANode × Int)) (n : ANode) (c : Int) : wof (P ++ [(n, c)]).reverse = if c = n.2.1 then wof P.reverse else (P ++ [(n, c)]).reverse := by
 rw [List.reverse_append]
 simp only [List.reverse_cons, List.reverse_nil, List.nil_append, List.singleton_append]
 rw [wof]

set_option maxRecDepth 100000 in
set_option maxHeartbeats 8000000 in
theorem without_any (base g cap : Nat) (S : List (ANode × Int)) (hS : 0 < S.length) (hm : S.length ≤ 100000) (w : World) (h : Un w base (.slice (some ⟨g, 0, none⟩) S.length cap) S) :
  Calls Tryd.prog 54 #[.slice (some ⟨g, 0, none⟩) S.length cap] w fun e w' => ∃ k, k ≤ S.length ∧ (S.take k).reverse = wof S.reverse ∧ e = .returned (.slice (some ⟨g, 0, none⟩) k cap) ∧ Bw w w' := by
 obtain ⟨g', cap', e, hb, hg, hnc, hcs, hfz⟩ := h.at hS
 injection e with e1 e2 e3
 injection e1 with e1
 injection e1 with e1
 subst e1 e3
 have HCS := hid hcs
 clear h hcs hfz
 go_enter Tryd.func54, Tryd.ntmps54
 go_wp2
 go_loopw [0] (fun v wr => ∃ k : Nat, k ≤ S.length ∧ v = .slice (some ⟨g, 0, none⟩) k cap ∧ wof (S.take k).reverse = wof S.reverse ∧ Bw w wr) (fun v _ => (match v with | .slice _ k _ => k | _ => 0))
 case atStart => exact ⟨S.length, Nat.le_refl _, rfl, by simp, Bw.refl _⟩
 case round =>
  obtain ⟨k, hk, rfl, hw, hbw⟩ := hrel
  have HW := hid hw
  have HB := hid hbw
  have hgr : g < wr.heap.size := Nat.lt_of_lt_of_le hg hbw.size
  have HCR := hid (fun j => World.cell?_of_block (w := w) (w' := wr) (a := ⟨g, j, none⟩) (hbw.block g hg))
  clear hw hbw
  cases k with
  | zero =>
   have d : ¬ (0 : Int) < ((0 : Nat) : Int) := by omega
   go_wp2
   go_quiet (fail)
   go_wp2
   all_goals go_ret
   all_goals exact ⟨0, Nat.zero_le _, by rw [← HW.out]; simp [wof], rfl, by repeat (first | exact HB.out | apply Bw.drewN | apply Bw.drew)⟩
  | succ k =>
   have hkl : k < S.length := by omega
   have x1 := HCS.out k hkl 1 (by decide)
   have x5 := HCS.out k hkl 5 (by decide)
   have hsn : S.take (k + 1) = S.take k ++ [(S[k].1, S[k].2)] := by rw [List.take_succ_eq_append_getElem hkl]
   have HWS := HW.out
   rw [hsn, wof_snoc] at HWS
   have HWS := hid HWS
   have x1' : wr.cell? ⟨g, k * 6 + 1, none⟩ = some (.int .i64 S[k].1.2.1) := (HCR.out _).trans x1
   have x5' : wr.cell? ⟨g, k * 6 + 5, none⟩ = some (.int .i64 S[k].2) := (HCR.out _).trans x5
   have HSN := hid hsn
   clear x1 x5 hsn HW HCS HCR
   generalize S[k].1 = nn at *
   generalize S[k].2 = cc at *
   have b0 : (0 : Int) < ((k : Int) + 1) := by omega
   have b1 : (0 : Int) ≤ (k : Int) := by omega
   have b2 : (k : Int) < (k : Int) + 1 := by omega
   by_cases hcc : cc = nn.2.1
   ·have hq : (cc == nn.2.1) = true := by simpa using hcc
    have HK := hid (show wof (S.take k).reverse = wof S.reverse by have := HWS.out; rw [if_pos hcc] at this; exact this)
    clear HWS HSN
    generalize nn.2.1 = N at *
    clear hcc
    go_wp2
    go_quiet (fail)
    go_wp2
    go_roundw
    case rel => exact ⟨k, by omega, rfl, HK.out, by repeat (first | exact HB.out | apply Bw.drewN | apply Bw.drew)⟩
    case measure => show k < k + 1; omega
   ·have hq : (cc == nn.2.1) = false := by simpa using hcc
    have HK := hid (show (S.take (k + 1)).reverse = wof S.reverse by have := HWS.out; rw [if_neg hcc] at this; rw [← this, HSN.out])
    clear HWS HSN
    generalize nn.2.1 = N at *
    clear hcc
    go_wp2
    go_quiet (fail)
    go_wp2
    all_goals go_ret
    all_goals exact ⟨k + 1, hk, HK.out, rfl, by repeat (first | exact HB.out | apply Bw.drewN | apply Bw.drew)⟩

end Go.Proofs.YtdhkcdehedbpcaaDoor

namespace Go.Proofs.YtdhkcdehedbpcaaDoor
open Go Go.RowKit

theorem own_keep {w w' : World} {base : Nat} {e : TypeId} {size : Nat} {v : Value} {n : Nat} {xs : List Value} (h : w.ownsRow base e size v n xs) (hk : ∀ k, v.ownBlock = some k → w'.heap[k]? = w.heap[k]?) : w'.ownsRow base e size v n xs := by
 refine ⟨h.1, ?_⟩
 rcases h.2 with h2 | ⟨g, cap, cur, rfl, h1, h3, h4⟩
 ·exact .inl h2
 ·exact .inr ⟨g, cap, cur, rfl, h1, (hk g rfl).trans h3, h4⟩

theorem own_lt' {w : World} {base : Nat} {e : TypeId} {size : Nat} {v : Value} {n : Nat} {xs : List Value} (h : w.ownsRow base e size v n xs) {k : Nat} (hk : v.ownBlock = some k) : k < w.heap.size := by
 rcases h.2 with ⟨rfl, _⟩ | ⟨g, cap, cur, rfl, h1, h3, h4⟩
 ·cases hk
 ·cases hk; exact (Array.getElem?_eq_some_iff.1 h3).1

theorem infoUn : (Tryd.prog.info? 114).map (fun i => (i.zero, i.size, i.bytes)) = some (some (.agg #[.int .i64 0, .int .i64 0, .string ⟨#[]⟩, .int .i64 0, .int .i64 0, .int .i64 0]), 6, 56) := by kernel_rfl
theorem underUns : Tryd.prog.underlying 109 = some (.slice 114) := by kernel_rfl

theorem unV_one (n : ANode × Int) : ∀ u ∈ unV n, u.oneCell' = true := by
 intro u hu
 simp only [unV, List.mem_cons, List.not_mem_nil, or_false] at hu
 rcases hu with rfl | rfl | rfl | rfl | rfl | rfl <;> rfl

theorem unf_new (w : World) (m : Nat) (hm : w.heap.size = m) (n : ANode × Int) (e : TypeId) : ∀ j u, (unV n)[j]? = some u → (w.alloc (.cells (unV n).toArray e)).cell? (Addr.add ⟨m, 0, none⟩ j) = some u := by
 subst hm
 intro j u hu
 have h := (Blk.new w (unV n).toArray e).cell j
 have e1 : (Addr.add ⟨w.heap.size, 0, none⟩ j) = ⟨w.heap.size, j, none⟩ := by
  unfold Addr.add
  split
  ·rename_i h0; subst h0; rfl
  ·simp
 rw [e1, h]
 simpa using hu

theorem Un.bw {w w' : World} {base : Nat} {v : Value} {S : List (ANode × Int)} (h : Un w base v S) (hb : Bw w w') : Un w' base v S :=
 own_keep h (fun q hq => hb.block q (own_lt' h hq))

theorem Un.bump {w : World} {base g cap : Nat} {P : List (ANode × Int)} {m : ANode} {c d : Int} (h : Un w base (.slice (some ⟨g, 0, none⟩) (P.length + 1) cap) (P ++ [(m, c)])) :
  Un (w.setCell ⟨g, P.length * 6 + 5, none⟩ (.int .i64 d)) base (.slice (some ⟨g, 0, none⟩) (P.length + 1) cap) (P ++ [(m, d)]) := by
 have hl1 : (P ++ [(m, c)]).length = P.length + 1 := by simp
 have hl2 : (P ++ [(m, d)]).length = P.length + 1 := by simp
 refine ⟨by rw [un_len], ?_⟩
 rcases h.2 with ⟨_, h0⟩ | ⟨g', cap', cur, e, hb, hg, hnc, hmx, hsz, htake⟩
 ·rw [hl1] at h0; omega
 ·injection e with e1 e2 e3
  injection e1 with e1
  injection e1 with e1
  subst e1 e3
  have hb2 : Blk w g cur 114 := hg
  refine .inr ⟨g, cap, cur.setIfInBounds (P.length * 6 + 5) (.int .i64 d), by rw [hl2], hb, hb2.set (P.length * 6 + 5) (.int .i64 d), by omega, hmx, by simpa using hsz, ?_⟩
  rw [hl2]
  rw [hl1] at htake
  have e9 : (cur.setIfInBounds (P.length * 6 + 5) (.int .i64 d)).toList.take ((P.length + 1) * 6) = (cur.toList.take ((P.length + 1) * 6)).set (P.length * 6 + 5) (.int .i64 d) := by
   rw [Array.toList_setIfInBounds, List.take_set]
  rw [e9, htake, List.flatMap_append, List.flatMap_append, List.set_append_right _ _ (by rw [un_len]; omega), un_len]
  congr 1
  rw [show P.length * 6 + 5 - P.length * 6 = 5 by omega]
  simp [unV]

structure NC (w : World) (g o : Nat) (L : List ANode) : Prop where
 lt : g < w.heap.size
 c : ∀ i (hi : i < L.length) j, j < 5 → w.cell? ⟨g, o + i * 5 + j, none⟩ = (ndV L[i])[j]?
 b : ∀ i (hi : i < L.length), (-9223372036854775808 ≤ L[i].2.1 ∧ L[i].2.1 ≤ 9223372036854775807) ∧ ((∀ c ∈ L[i].2.2.1, 0 ≤ c ∧ c ≤ 255) ∧ L[i].2.2.1.length ≤ 9223372036854775807)

def OkU (i : Nat) (u : ANode × Int) : Prop := ∃ c : Nat, u.2 = (c : Int) ∧ (c : Int) ≤ u.1.2.1 ∧ c ≤ i ∧ (u.1.1 = 4 → u.1.2.1 ≤ 2) ∧ (u.1.1 = 5 ∨ u.1.1 = 6 → u.1.2.1 ≤ 3)

theorem wof_head {m : ANode} {c : Int} {st' : List (ANode × Int)} : ∀ {st : List (ANode × Int)}, wof st = (m, c) :: st' → c ≠ m.2.1 ∧ (m, c) ∈ st
 | [], h => by cases h
 | (n, d) :: st, h => by
  rw [wof] at h
  split at h
  ·have := wof_head h
   exact ⟨this.1, List.mem_cons_of_mem _ this.2⟩
  ·injection h with h1 h2
   injection h1 with h1 h3
   subst h1 h3
   exact ⟨by assumption, List.mem_cons_self⟩

theorem wm_small {n : ANode} (h : wmP n = true) : (n.1 = 4 → n.2.1 ≤ 2) ∧ (n.1 = 5 ∨ n.1 = 6 → n.2.1 ≤ 3) := by
 unfold wmP at h
 split at h
 ·cases h
 ·rename_i hh
  have h2 : n.2.1 ≤ (shpA n.1).2.2.1 := by omega
  refine ⟨fun e => ?_, fun e => ?_⟩
  ·rw [e] at h2; exact h2
  ·rcases e with e | e
   ·rw [e] at h2; exact h2
   ·rw [e] at h2; exact Int.le_trans h2 (by decide)

theorem ft_kind {k a : Int} (h : ftP k a = true) : ∃ n : Nat, k = (n : Int) ∧ 0 < n ∧ n < 33 := by
 unfold ftP at h
 split at h
 ·cases h
 ·exact ⟨k.toNat, by omega, by omega, by omega⟩

set_option maxRecDepth 100000 in
set_option maxHeartbeats 16000000 in
theorem check_any (g o cap : Nat) (L : List ANode) (h0 : 0 < L.length) (hl : L.length ≤ 1000) (w : World) (h : NC w g o L) (hh : Sh w) :
  Calls Tryd.prog 23 #[.slice (some ⟨g, o, none⟩) L.length cap] w fun e w' => e = .returned (.tuple #[.int .i64 (ckP L).1, .int .i64 (ckP L).2]) ∧ Bw w w' := by
 have hne : L ≠ [] := by intro e; rw [e] at h0; simp at h0
 have hR : ckP L = ckI L 0 [] 1 := if_neg hne
 rw [hR]
 obtain ⟨R, hRR⟩ : ∃ R, R = ckI L 0 [] 1 := ⟨_, rfl⟩
 rw [← hRR]
 have HR := hid hRR
 have HN := hid h
 have HH := hid hh
 have hz : ((L.length : Int) == 0) = false := by rw [beq_eq_false_iff_ne]; omega
 obtain ⟨i1, hi1, hz1, hs1, hy1⟩ := info_parts infoUn
 have I1 := hid (And.intro hi1 (And.intro hz1 (And.intro hs1 hy1)))
 clear hne hR hRR h hh hi1 hz1 hs1 hy1
 go_enter Tryd.func23, Tryd.ntmps23
 go_wp2
 go_loopw [4, 5, 13] (fun v a j wr => ∃ (i : Nat) (S : List (ANode × Int)) (aa : Int) (x : Option Addr) (c : Nat), i ≤ L.length ∧ v = .slice x S.length c ∧ a = .int .i64 aa ∧ j = .int .i64 i ∧ Un wr w.heap.size (.slice x S.length c) S ∧ Bw w wr ∧ ckI (L.drop i) i S.reverse aa = R ∧ S.length ≤ i ∧ ∀ u ∈ S, OkU i u) (fun _ _ j _ => L.length - (intOf j).toNat)
 case atStart => exact ⟨0, [], 1, none, 0, Nat.zero_le _, rfl, rfl, rfl, World.ownsRow_nil _ _ _ _, Bw.refl _, HR.out.symm, Nat.le_refl _, fun u hu => by cases hu⟩
 case round =>
  obtain ⟨i, S, aa, x, c, hi, rfl, rfl, rfl, hun, hbw, hck, hsl, hok⟩ := hrel
  have HUN := hid hun
  have HBW := hid hbw
  have HCK := hid hck
  have HOK := hid hok
  have hszr : w.heap.size ≤ wr.heap.size := hbw.size
  clear hun hbw hck hok
  by_cases hlt : i < L.length
  ·have hlt2 : (i : Int) < (L.length : Int) := by omega
   have hi0 : (0 : Int) ≤ (i : Int) := by omega
   have hdrop : L.drop i = L[i] :: L.drop (i + 1) := List.drop_eq_getElem_cons hlt
   have y := fun j hj => (World.cell?_of_block (w := w) (w' := wr) (a := ⟨g, o + i * 5 + j, none⟩) (HBW.out.block g HN.out.lt)).trans (HN.out.c i hlt j hj)
   have y0 := y 0 (by decide)
   have y1 := y 1 (by decide)
   have y2 := y 2 (by decide)
   have y3 := y 3 (by decide)
   have y4 := y 4 (by decide)
   have hgl : g < wr.heap.size := Nat.lt_of_lt_of_le HN.out.lt HBW.out.size
   have HNB := hid (HN.out.b i hlt)
   have hck2 := HCK.out
   rw [hdrop] at hck2
   have HCK2 := hid hck2
   clear y hdrop HCK hck2
   generalize L[i] = n at *
   obtain ⟨nk, nN, nt, nu, na⟩ := n
   replace y0 : wr.cell? ⟨g, o + i * 5, none⟩ = some (.int .i64 nk) := y0
   replace y1 : wr.cell? ⟨g, o + i * 5 + 1, none⟩ = some (.int .i64 nN) := y1
   replace y2 : wr.cell? ⟨g, o + i * 5 + 2, none⟩ = some (.string (strOfNums nt)) := y2
   replace y3 : wr.cell? ⟨g, o + i * 5 + 3, none⟩ = some (.int .i64 nu) := y3
   replace y4 : wr.cell? ⟨g, o + i * 5 + 4, none⟩ = some (.int .i64 na) := y4
   cases hft : ftP nk aa
   ·have e : R = ((i : Int), 8) := by
     rw [← HCK2.out, ckI]
     exact if_pos hft
    subst e
    have HF := hid (fun w1 (hb : Bw wr w1) => fits_any nk aa w1 ((HH.out.bw HBW.out).bw hb))
    rw [hft] at HF
    generalize strOfNums nt = ss at *
    clear HCK2 HNB hft
    go_wp2_with (first
     | (go_at_call 52; refine (HF.out _ bq).mono ?_; rintro e w' ⟨rfl, hw'⟩; subst w')
     | fail)
    all_goals go_ret2
    all_goals exact ⟨rfl, by repeat (first | exact HBW.out | apply Bw.alloc | apply Bw.drewN | apply Bw.drew)⟩
   ·obtain ⟨kn, rfl, hk1, hk2⟩ := ft_kind hft
    have HF := hid (fun w1 (hb : Bw wr w1) => fits_any (kn : Int) aa w1 ((HH.out.bw HBW.out).bw hb))
    rw [hft] at HF
    have HM := hid (fun w1 (hb : Bw wr w1) => wellMade_any kn hk1 hk2 nN nu na nt HNB.out.2 HNB.out.1 w1 ((HH.out.bw HBW.out).bw hb))
    cases hwm : wmP ((kn : Int), nN, nt, nu, na)
    ·have e : R = ((i : Int), 1) := by
      rw [← HCK2.out, ckI, if_neg (by show ¬ ftP (kn : Int) aa = false; rw [hft]; decide)]
      exact if_pos hwm
     subst e
     rw [hwm] at HM
     generalize strOfNums nt = ss at *
     clear HCK2 HNB hft hwm
     go_wp2_with (first
      | (go_at_call 52; refine (HF.out _ bq).mono ?_; rintro e w' ⟨rfl, hw'⟩; subst w')
      | (go_at_call 53; refine (HM.out _ bq).mono ?_; rintro e w3 ⟨rfl, hb3⟩; have B3 := hid (Bw.trans (show Bw wr _ from bq) hb3); clear hb3)
      | fail)
     all_goals go_ret2
     all_goals exact ⟨rfl, HBW.out.trans B3.out⟩
    ·rw [hwm] at HM
     have hnn := wm_nonneg (n := ((kn : Int), nN, nt, nu, na)) hft hwm
     have hsm := wm_small hwm
     have hck3 : (match wof ((((kn : Int), nN, nt, nu, na), 0) :: S.reverse) with
      | [] => if L.drop (i + 1) = [] then (0, 0) else (((i + 1 : Nat) : Int), 6)
      | (m, c) :: st' => ckI (L.drop (i + 1)) (i + 1) ((m, c + 1) :: st') (stP m c)) = R := by
      have q := HCK2.out
      rw [ckI, if_neg (show ¬ ftP ((kn : Int), nN, nt, nu, na).1 aa = false by rw [hft]; decide), if_neg (show ¬ wmP ((kn : Int), nN, nt, nu, na) = false by rw [hwm]; decide)] at q
      exact q
     have HCK3 := hid hck3
     have HSM := hid (And.intro hnn hsm)
     clear HCK2 HNB hft hwm hnn hsm hck3
     obtain ⟨nd, hnd⟩ : ∃ nd : ANode, nd = ((kn : Int), nN, nt, nu, na) := ⟨_, rfl⟩
     have HND := hid hnd
     rw [← hnd] at HCK3 HSM
     have huv : unV (nd, 0) = [.int .i64 (kn : Int), .int .i64 nN, .string (strOfNums nt), .int .i64 nu, .int .i64 na, .int .i64 0] := by rw [hnd]; rfl
     have HUV := hid huv
     clear hnd huv
     generalize strOfNums nt = ss at *
     go_wp2_with (first
      | (go_at_call 52; refine (HF.out _ bq).mono ?_; rintro e w' ⟨rfl, hw'⟩; subst w')
      | (go_at_call 53; refine (HM.out _ bq).mono ?_; rintro e w3 ⟨rfl, hb3⟩; have B3 := hid (Bw.trans (show Bw wr _ from bq) hb3); have z0 := ((Blk.new wr #[.int .i64 (kn : Int), .int .i64 nN, .string ss, .int .i64 nu, .int .i64 na] 43).bw hb3).cell; have zl := ((Blk.new wr #[.int .i64 (kn : Int), .int .i64 nN, .string ss, .int .i64 nu, .int .i64 na] 43).bw hb3).lt; clear hb3)
      | (at_builtin; refine wpList_append_own _ rfl _ _ 109 rfl w.heap.size 114 i1 _ 6 56 underUns I1.out.1 I1.out.2.1 I1.out.2.2.1 I1.out.2.2.2 rfl (by decide) (.slice x S.length c) S.length (S.flatMap unV) rfl ?c0 ⟨w3.heap.size, 0, none⟩ 1 1 (unV (nd, 0)) rfl ?c1 ?c2 (unV_one _) ?c3 ?c4 ?c5 ?_)
      | fail)
     case c0 => exact HUN.out.bw (Bw.alloc B3.out _)
     case c1 => rw [HUV.out]; rfl
     case c2 =>
      have := unf_new w3 w3.heap.size rfl (nd, 0) 114
      rw [HUV.out] at this ⊢
      exact this
     case c3 => unfold maxLen; omega
     case c4 => omega
     case c5 => have := B3.out.size; simp only [World.size_alloc]; omega
     intro v4 w4 ho4 hg4 _
     have HB4 := hid (bw_grown (Bw.alloc (HBW.out.trans B3.out) _) (Nat.le_refl _) (HUN.out.bw (Bw.alloc B3.out _)) hg4)
     have hl4 : (S ++ [(nd, (0 : Int))]).length = S.length + 1 := by simp
     have hun4 : Un w4 w.heap.size v4 (S ++ [(nd, 0)]) := by
      unfold Un
      rw [hl4, List.flatMap_append]
      simpa using ho4
     obtain ⟨g4, cap4, e4, hgb4, hgl4, hnc4, hcs4, hfz4⟩ := hun4.at (by rw [hl4]; omega)
     subst e4
     have HUN4 := hid hun4
     have HGB := hid hgb4
     have HW4 := hid (without_any w.heap.size g4 cap4 (S ++ [(nd, 0)]) (by rw [hl4]; omega) (by rw [hl4]; omega) w4 hun4)
     have HL4 := hid hl4
     rw [hl4] at HW4
     rw [hl4]
     have hokN : ∀ u ∈ S ++ [(nd, (0 : Int))], OkU i u := by
      intro u hu
      rcases List.mem_append.1 hu with hu | hu
      ·exact HOK.out u hu
      ·simp at hu
       subst hu
       exact ⟨0, rfl, HSM.out.1, Nat.zero_le _, HSM.out.2.1, HSM.out.2.2⟩
     have HOKN := hid hokN
     have hrev : (S ++ [(nd, (0 : Int))]).reverse = (nd, 0) :: S.reverse := by simp
     have HREV := hid hrev
     clear ho4 hg4 hun4 hcs4 hfz4 hgb4 hl4 HF HM hokN hrev z0 HUN HOK y0 y1 y2 y3 y4
     go_upto_region 13 with (first
      | (go_at_call 54; refine HW4.out.mono ?_; rintro e w5 ⟨k, hk, hT, rfl, hb5⟩; have HB5 := hid (HB4.out.trans hb5); have HUN5 := hid (HUN4.out.bw hb5); have HT := hid hT; clear hb5 hT)
      | fail)
     generalize hS1 : S ++ [(nd, (0 : Int))] = S1 at *
     cases k with
     | zero =>
      have hTe : wof ((nd, 0) :: S.reverse) = [] := by rw [← HREV.out, ← HT.out]; simp
      have e : R = if L.drop (i + 1) = [] then (0, 0) else (((i + 1 : Nat) : Int), 6) := by rw [← HCK3.out, hTe]
      have e2 : R = ((if i + 1 < L.length then (((i + 1 : Nat) : Int)) else 0), (if i + 1 < L.length then 6 else 0)) := by
       rw [e]
       by_cases hq : i + 1 < L.length
       ·rw [if_pos hq, if_pos hq, if_neg (by intro h9; have := congrArg List.length h9; simp at this; omega)]
       ·rw [if_neg hq, if_neg hq, if_pos (List.drop_eq_nil_of_le (by omega))]
      have HCE := hid (checkEnd_any (some ⟨g, o, none⟩) L.length cap (i + 1) (by omega))
      have hcast : ((i + 1 : Nat) : Int) = (i : Int) + 1 := by omega
      rw [hcast] at HCE e2
      clear e
      clear HCK3 HT HREV HOKN HW4 HUN4 HUN5 hTe hcast
      subst e2
      go_wp2_with (first
       | (go_at_call 55; refine (HCE.out _).mono ?_; rintro e w' ⟨rfl, hw'⟩; subst w')
       | fail)
      all_goals go_ret2
      all_goals exact ⟨rfl, HB5.out⟩
     | succ q =>
      have hS1l := HL4.out
      have hql : q < S1.length := by omega
      have hsn : S1.take (q + 1) = S1.take q ++ [(S1[q].1, S1[q].2)] := by rw [List.take_succ_eq_append_getElem hql]
      have hTe : wof ((nd, 0) :: S.reverse) = (S1[q].1, S1[q].2) :: (S1.take q).reverse := by
       rw [← HREV.out, ← HT.out, hsn]
       simp
      have hmem : (S1[q].1, S1[q].2) ∈ S1 := List.getElem_mem hql
      obtain ⟨c9, hc9, hc9b, hc9c, hc9d, hc9e⟩ := HOKN.out _ hmem
      have hne := (wof_head hTe).1
      have hck4 := HCK3.out
      rw [hTe] at hck4
      dsimp only at hck4 hc9 hc9b hc9d hc9e
      have hun6 := Un.take (show Un w5 w.heap.size (.slice (some ⟨g4, 0, none⟩) S1.length cap4) S1 from HUN5.out) (by omega) (q + 1) (by omega)
      have hql2 : (S1.take q).length = q := by simp; omega
      obtain ⟨g6, cap6, e6, hj1, hg6, hj2, hcs6, hfz6⟩ := hun6.at (by rw [List.length_take]; omega)
      injection e6 with e6 hj3 hj4
      clear hj1 hj2 hj3 hj4
      injection e6 with e6
      injection e6 with e6
      subst e6
      have hq6 : q < (S1.take (q + 1)).length := by rw [List.length_take]; omega
      have hgq : (S1.take (q + 1))[q]'hq6 = S1[q] := by simp
      have u0 := hcs6 q hq6 0 (by decide)
      have u3 := hcs6 q hq6 3 (by decide)
      have u5 := hcs6 q hq6 5 (by decide)
      rw [hgq] at u0 u3 u5
      have u0' : w5.cell? ⟨g4, q * 6, none⟩ = some (.int .i64 S1[q].1.1) := u0
      have u3' : w5.cell? ⟨g4, q * 6 + 3, none⟩ = some (.int .i64 S1[q].1.2.2.2.1) := u3
      have u5' : w5.cell? ⟨g4, q * 6 + 5, none⟩ = some (.int .i64 (c9 : Int)) := by rw [← hc9]; exact u5
      have HST := hid (step_any S1[q].1 c9 g4 (q * 6) w5 (by omega) (by omega) hc9d hc9e hg6 u0' u3' u5' (hfz6 _))
      have hunb : Un (w5.setCell ⟨g4, q * 6 + 5, none⟩ (.int .i64 ((c9 : Int) + 1))) w.heap.size (.slice (some ⟨g4, 0, none⟩) (q + 1) cap4) (S1.take q ++ [(S1[q].1, (c9 : Int) + 1)]) := by
       have h9 := Un.bump (d := (c9 : Int) + 1) (P := S1.take q) (m := S1[q].1) (c := S1[q].2) (g := g4) (cap := cap4) (w := w5) (base := w.heap.size) (by rw [hql2, ← hsn]; exact hun6)
       rw [hql2] at h9
       exact h9
      have HUNB := hid hunb
      rw [hc9] at hck4
      have HCK5 := hid hck4
      have HLAST := hid (And.intro hc9b (And.intro hc9d (And.intro hc9e hc9c)))
      have hlt9 : (c9 : Int) < S1[q].1.2.1 := by omega
      have HLT9 := hid hlt9
      clear hcs6 hfz6 u0 u3 u5 u0' u3' u5' hun6 hunb hck4 hne hmem hsn hTe hc9 hc9b hc9d hc9e hlt9 hgq
      have hok6 : ∀ u ∈ S1.take q ++ [(S1[q].1, (c9 : Int) + 1)], OkU (i + 1) u := by
       intro u hu
       rcases List.mem_append.1 hu with hu | hu
       ·obtain ⟨c8, k1, k2, k3, k4, k5⟩ := HOKN.out u (List.mem_of_mem_take hu)
        exact ⟨c8, k1, k2, by omega, k4, k5⟩
       ·simp at hu
        subst hu
        have k := HLAST.out
        have k9 := HLT9.out
        exact ⟨c9 + 1, by simp, by simp; omega, by have := k.2.2.2; omega, k.2.1, k.2.2.1⟩
      have HOK6 := hid hok6
      have hlen6 : (S1.take q ++ [(S1[q].1, (c9 : Int) + 1)]).length = q + 1 := by simp; omega
      have HLEN6 := hid hlen6
      have hrev6 : (S1.take q ++ [(S1[q].1, (c9 : Int) + 1)]).reverse = (S1[q].1, (c9 : Int) + 1) :: (S1.take q).reverse := by simp
      rw [← hrev6] at HCK5
      clear hok6 hlen6 hrev6 HLAST HLT9 HOKN HT HREV HCK3 HW4 HUN4 HUN5
      generalize S1.take q ++ [(S1[q].1, (c9 : Int) + 1)] = S6 at *
      generalize S1[q].1 = mm at *
      have b1 : (0 : Int) ≤ (q : Int) := by omega
      have b2 : (q : Int) < (q : Int) + 1 := by omega
      have HQI := hid (show q ≤ i by omega)
      have hq9 : q ≤ 100000 := by omega
      clear hS1 hS1l hql2 hql hq6 hnc4 hk hsl hc9c HL4
      go_wp2_with (first
       | (go_at_call 56; refine HST.out.mono ?_; rintro e w' ⟨rfl, hw'⟩; subst w')
       | fail)
      go_roundw
      case rel =>
       refine ⟨i + 1, S6, _, _, cap4, by omega, by rw [HLEN6.out], rfl, by go_num, by rw [HLEN6.out]; exact HUNB.out, HB5.out.setCell (p := ⟨g4, q * 6 + 5, none⟩) HGB.out _, HCK5.out, by have := HLEN6.out; have := HQI.out; omega, HOK6.out⟩
      case measure => simp [intOf]; omega
  ·have e : R = ((L.length : Int), 6) := by
    obtain rfl : i = L.length := by omega
    rw [← HCK.out, List.drop_length, ckI]
   subst e
   go_wp2
   all_goals go_ret2
   all_goals exact ⟨rfl, HBW.out⟩

end Go.Proofs.YtdhkcdehedbpcaaDoor

