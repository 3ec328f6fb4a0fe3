/- Check: the contract. · The globals looked ahead for: globalsOf. -/
import Derived.Test.YtdhkcdehedbpcaaDoorM23
import Derived.Test.YtdhkcdehedbpcaaDoorM20
import Derived.Test.YtdhkcdehedbpcaaDoorM21
import Derived.Carry
set_option linter.unusedSimpArgs false
set_option linter.unusedVariables false
namespace Go.Proofs.YtdhkcdehedbpcaaDoor
open Go Go.RowKit

theorem own_keep {w w' : World} {base : Nat} {e : TypeId} {size : Nat} {v : Value} {n : Nat} {xs : List Value} (h : w.ownsRow base e size v n xs) (hk : ∀ k, v.ownBlock = some k → w'.heap[k]? = w.heap[k]?) : w'.ownsRow base e size v n xs := by
  refine ⟨h.1, ?_⟩
  rcases h.2 with h2 | ⟨g, cap, cur, rfl, h1, h3, h4⟩
  · exact .inl h2
  · exact .inr ⟨g, cap, cur, rfl, h1, (hk g rfl).trans h3, h4⟩

theorem own_lt' {w : World} {base : Nat} {e : TypeId} {size : Nat} {v : Value} {n : Nat} {xs : List Value} (h : w.ownsRow base e size v n xs) {k : Nat} (hk : v.ownBlock = some k) : k < w.heap.size := by
  rcases h.2 with ⟨rfl, _⟩ | ⟨g, cap, cur, rfl, h1, h3, h4⟩
  · cases hk
  · cases hk; exact (Array.getElem?_eq_some_iff.1 h3).1

theorem infoUn : (Tryd.prog.info? 114).map (fun i => (i.zero, i.size, i.bytes)) = some (some (.agg #[.int .i64 0, .int .i64 0, .string ⟨#[]⟩, .int .i64 0, .int .i64 0, .int .i64 0]), 6, 56) := by kernel_rfl
theorem underUns : Tryd.prog.underlying 109 = some (.slice 114) := by kernel_rfl

theorem unV_one (n : ANode × Int) : ∀ u ∈ unV n, u.oneCell' = true := by
  intro u hu
  simp only [unV, List.mem_cons, List.not_mem_nil, or_false] at hu
  rcases hu with rfl | rfl | rfl | rfl | rfl | rfl <;> rfl

theorem unf_new (w : World) (m : Nat) (hm : w.heap.size = m) (n : ANode × Int) (e : TypeId) : ∀ j u, (unV n)[j]? = some u → (w.alloc (.cells (unV n).toArray e)).cell? (Addr.add ⟨m, 0, none⟩ j) = some u := by
  subst hm
  intro j u hu
  have h := (Blk.new w (unV n).toArray e).cell j
  have e1 : (Addr.add ⟨w.heap.size, 0, none⟩ j) = ⟨w.heap.size, j, none⟩ := by
    unfold Addr.add
    split
    · rename_i h0; subst h0; rfl
    · simp
  rw [e1, h]
  simpa using hu

theorem Un.bw {w w' : World} {base : Nat} {v : Value} {S : List (ANode × Int)} (h : Un w base v S) (hb : Bw w w') : Un w' base v S :=
  own_keep h (fun q hq => hb.block q (own_lt' h hq))

/-- One more of the last one's parts came. -/
theorem Un.bump {w : World} {base g cap : Nat} {P : List (ANode × Int)} {m : ANode} {c d : Int} (h : Un w base (.slice (some ⟨g, 0, none⟩) (P.length + 1) cap) (P ++ [(m, c)])) :
    Un (w.setCell ⟨g, P.length * 6 + 5, none⟩ (.int .i64 d)) base (.slice (some ⟨g, 0, none⟩) (P.length + 1) cap) (P ++ [(m, d)]) := by
  have hl1 : (P ++ [(m, c)]).length = P.length + 1 := by simp
  have hl2 : (P ++ [(m, d)]).length = P.length + 1 := by simp
  refine ⟨by rw [un_len], ?_⟩
  rcases h.2 with ⟨_, h0⟩ | ⟨g', cap', cur, e, hb, hg, hnc, hmx, hsz, htake⟩
  · rw [hl1] at h0; omega
  · injection e with e1 e2 e3
    injection e1 with e1
    injection e1 with e1
    subst e1 e3
    have hb2 : Blk w g cur 114 := hg
    refine .inr ⟨g, cap, cur.setIfInBounds (P.length * 6 + 5) (.int .i64 d), by rw [hl2], hb, hb2.set (P.length * 6 + 5) (.int .i64 d), by omega, hmx, by simpa using hsz, ?_⟩
    rw [hl2]
    rw [hl1] at htake
    have e9 : (cur.setIfInBounds (P.length * 6 + 5) (.int .i64 d)).toList.take ((P.length + 1) * 6) = (cur.toList.take ((P.length + 1) * 6)).set (P.length * 6 + 5) (.int .i64 d) := by
      rw [Array.toList_setIfInBounds, List.take_set]
    rw [e9, htake, List.flatMap_append, List.flatMap_append, List.set_append_right _ _ (by rw [un_len]; omega), un_len]
    congr 1
    rw [show P.length * 6 + 5 - P.length * 6 = 5 by omega]
    simp [unV]

/-- A list of nodes that was handed in. -/
structure NC (w : World) (g o : Nat) (L : List ANode) : Prop where
  lt : g < w.heap.size
  c : ∀ i (hi : i < L.length) j, j < 5 → w.cell? ⟨g, o + i * 5 + j, none⟩ = (ndV L[i])[j]?
  b : ∀ i (hi : i < L.length), (-9223372036854775808 ≤ L[i].2.1 ∧ L[i].2.1 ≤ 9223372036854775807) ∧ ((∀ c ∈ L[i].2.2.1, 0 ≤ c ∧ c ≤ 255) ∧ L[i].2.2.1.length ≤ 9223372036854775807)

def OkU (i : Nat) (u : ANode × Int) : Prop := ∃ c : Nat, u.2 = (c : Int) ∧ (c : Int) ≤ u.1.2.1 ∧ c ≤ i ∧ (u.1.1 = 4 → u.1.2.1 ≤ 2) ∧ (u.1.1 = 5 ∨ u.1.1 = 6 → u.1.2.1 ≤ 3)

theorem wof_head {m : ANode} {c : Int} {st' : List (ANode × Int)} : ∀ {st : List (ANode × Int)}, wof st = (m, c) :: st' → c ≠ m.2.1 ∧ (m, c) ∈ st
  | [], h => by cases h
  | (n, d) :: st, h => by
    rw [wof] at h
    split at h
    · have := wof_head h
      exact ⟨this.1, List.mem_cons_of_mem _ this.2⟩
    · injection h with h1 h2
      injection h1 with h1 h3
      subst h1 h3
      exact ⟨by assumption, List.mem_cons_self⟩

theorem wm_small {n : ANode} (h : wmP n = true) : (n.1 = 4 → n.2.1 ≤ 2) ∧ (n.1 = 5 ∨ n.1 = 6 → n.2.1 ≤ 3) := by
  unfold wmP at h
  split at h
  · cases h
  · rename_i hh
    have h2 : n.2.1 ≤ (shpA n.1).2.2.1 := by omega
    refine ⟨fun e => ?_, fun e => ?_⟩
    · rw [e] at h2; exact h2
    · rcases e with e | e
      · rw [e] at h2; exact h2
      · rw [e] at h2; exact Int.le_trans h2 (by decide)

theorem ft_kind {k a : Int} (h : ftP k a = true) : ∃ n : Nat, k = (n : Int) ∧ 0 < n ∧ n < 33 := by
  unfold ftP at h
  split at h
  · cases h
  · exact ⟨k.toNat, by omega, by omega, by omega⟩

set_option maxRecDepth 100000 in
set_option maxHeartbeats 16000000 in
theorem check_any (g o cap : Nat) (L : List ANode) (h0 : 0 < L.length) (hl : L.length ≤ 1000) (w : World) (h : NC w g o L) (hh : Sh w) :
    Calls Tryd.prog 23 #[.slice (some ⟨g, o, none⟩) L.length cap] w fun e w' => e = .returned (.tuple #[.int .i64 (ckP L).1, .int .i64 (ckP L).2]) ∧ Bw w w' := by
  have hne : L ≠ [] := by intro e; rw [e] at h0; simp at h0
  have hR : ckP L = ckI L 0 [] 1 := if_neg hne
  rw [hR]
  obtain ⟨R, hRR⟩ : ∃ R, R = ckI L 0 [] 1 := ⟨_, rfl⟩
  rw [← hRR]
  have HR := hid hRR
  have HN := hid h
  have HH := hid hh
  have hz : ((L.length : Int) == 0) = false := by rw [beq_eq_false_iff_ne]; omega
  obtain ⟨i1, hi1, hz1, hs1, hy1⟩ := info_parts infoUn
  have I1 := hid (And.intro hi1 (And.intro hz1 (And.intro hs1 hy1)))
  clear hne hR hRR h hh hi1 hz1 hs1 hy1
  go_enter Tryd.func23, Tryd.ntmps23
  go_wp2
  go_loopw [4, 5, 13] (fun v a j wr => ∃ (i : Nat) (S : List (ANode × Int)) (aa : Int) (x : Option Addr) (c : Nat), i ≤ L.length ∧ v = .slice x S.length c ∧ a = .int .i64 aa ∧ j = .int .i64 i ∧ Un wr w.heap.size (.slice x S.length c) S ∧ Bw w wr ∧ ckI (L.drop i) i S.reverse aa = R ∧ S.length ≤ i ∧ ∀ u ∈ S, OkU i u) (fun _ _ j _ => L.length - (intOf j).toNat)
  case atStart => exact ⟨0, [], 1, none, 0, Nat.zero_le _, rfl, rfl, rfl, World.ownsRow_nil _ _ _ _, Bw.refl _, HR.out.symm, Nat.le_refl _, fun u hu => by cases hu⟩
  case round =>
    obtain ⟨i, S, aa, x, c, hi, rfl, rfl, rfl, hun, hbw, hck, hsl, hok⟩ := hrel
    have HUN := hid hun
    have HBW := hid hbw
    have HCK := hid hck
    have HOK := hid hok
    have hszr : w.heap.size ≤ wr.heap.size := hbw.size
    clear hun hbw hck hok
    by_cases hlt : i < L.length
    · have hlt2 : (i : Int) < (L.length : Int) := by omega
      have hi0 : (0 : Int) ≤ (i : Int) := by omega
      have hdrop : L.drop i = L[i] :: L.drop (i + 1) := List.drop_eq_getElem_cons hlt
      have y := fun j hj => (World.cell?_of_block (w := w) (w' := wr) (a := ⟨g, o + i * 5 + j, none⟩) (HBW.out.block g HN.out.lt)).trans (HN.out.c i hlt j hj)
      have y0 := y 0 (by decide)
      have y1 := y 1 (by decide)
      have y2 := y 2 (by decide)
      have y3 := y 3 (by decide)
      have y4 := y 4 (by decide)
      have hgl : g < wr.heap.size := Nat.lt_of_lt_of_le HN.out.lt HBW.out.size
      have HNB := hid (HN.out.b i hlt)
      have hck2 := HCK.out
      rw [hdrop] at hck2
      have HCK2 := hid hck2
      clear y hdrop HCK hck2
      generalize L[i] = n at *
      obtain ⟨nk, nN, nt, nu, na⟩ := n
      replace y0 : wr.cell? ⟨g, o + i * 5, none⟩ = some (.int .i64 nk) := y0
      replace y1 : wr.cell? ⟨g, o + i * 5 + 1, none⟩ = some (.int .i64 nN) := y1
      replace y2 : wr.cell? ⟨g, o + i * 5 + 2, none⟩ = some (.string (strOfNums nt)) := y2
      replace y3 : wr.cell? ⟨g, o + i * 5 + 3, none⟩ = some (.int .i64 nu) := y3
      replace y4 : wr.cell? ⟨g, o + i * 5 + 4, none⟩ = some (.int .i64 na) := y4
      cases hft : ftP nk aa
      · have e : R = ((i : Int), 8) := by
          rw [← HCK2.out, ckI]
          exact if_pos hft
        subst e
        have HF := hid (fun w1 (hb : Bw wr w1) => fits_any nk aa w1 ((HH.out.bw HBW.out).bw hb))
        rw [hft] at HF
        generalize strOfNums nt = ss at *
        clear HCK2 HNB hft
        go_wp2_with (first
          | (go_at_call 52; refine (HF.out _ bq).mono ?_; rintro e w' ⟨rfl, hw'⟩; subst w')
          | fail)
        all_goals go_ret2
        all_goals exact ⟨rfl, by repeat (first | exact HBW.out | apply Bw.alloc | apply Bw.drewN | apply Bw.drew)⟩
      · obtain ⟨kn, rfl, hk1, hk2⟩ := ft_kind hft
        have HF := hid (fun w1 (hb : Bw wr w1) => fits_any (kn : Int) aa w1 ((HH.out.bw HBW.out).bw hb))
        rw [hft] at HF
        have HM := hid (fun w1 (hb : Bw wr w1) => wellMade_any kn hk1 hk2 nN nu na nt HNB.out.2 HNB.out.1 w1 ((HH.out.bw HBW.out).bw hb))
        cases hwm : wmP ((kn : Int), nN, nt, nu, na)
        · have e : R = ((i : Int), 1) := by
            rw [← HCK2.out, ckI, if_neg (by show ¬ ftP (kn : Int) aa = false; rw [hft]; decide)]
            exact if_pos hwm
          subst e
          rw [hwm] at HM
          generalize strOfNums nt = ss at *
          clear HCK2 HNB hft hwm
          go_wp2_with (first
            | (go_at_call 52; refine (HF.out _ bq).mono ?_; rintro e w' ⟨rfl, hw'⟩; subst w')
            | (go_at_call 53; refine (HM.out _ bq).mono ?_; rintro e w3 ⟨rfl, hb3⟩; have B3 := hid (Bw.trans (show Bw wr _ from bq) hb3); clear hb3)
            | fail)
          all_goals go_ret2
          all_goals exact ⟨rfl, HBW.out.trans B3.out⟩
        · rw [hwm] at HM
          have hnn := wm_nonneg (n := ((kn : Int), nN, nt, nu, na)) hft hwm
          have hsm := wm_small hwm
          have hck3 : (match wof ((((kn : Int), nN, nt, nu, na), 0) :: S.reverse) with
            | [] => if L.drop (i + 1) = [] then (0, 0) else (((i + 1 : Nat) : Int), 6)
            | (m, c) :: st' => ckI (L.drop (i + 1)) (i + 1) ((m, c + 1) :: st') (stP m c)) = R := by
            have q := HCK2.out
            rw [ckI, if_neg (show ¬ ftP ((kn : Int), nN, nt, nu, na).1 aa = false by rw [hft]; decide), if_neg (show ¬ wmP ((kn : Int), nN, nt, nu, na) = false by rw [hwm]; decide)] at q
            exact q
          have HCK3 := hid hck3
          have HSM := hid (And.intro hnn hsm)
          clear HCK2 HNB hft hwm hnn hsm hck3
          obtain ⟨nd, hnd⟩ : ∃ nd : ANode, nd = ((kn : Int), nN, nt, nu, na) := ⟨_, rfl⟩
          have HND := hid hnd
          rw [← hnd] at HCK3 HSM
          have huv : unV (nd, 0) = [.int .i64 (kn : Int), .int .i64 nN, .string (strOfNums nt), .int .i64 nu, .int .i64 na, .int .i64 0] := by rw [hnd]; rfl
          have HUV := hid huv
          clear hnd huv
          generalize strOfNums nt = ss at *
          go_wp2_with (first
            | (go_at_call 52; refine (HF.out _ bq).mono ?_; rintro e w' ⟨rfl, hw'⟩; subst w')
            | (go_at_call 53; refine (HM.out _ bq).mono ?_; rintro e w3 ⟨rfl, hb3⟩; have B3 := hid (Bw.trans (show Bw wr _ from bq) hb3); have z0 := ((Blk.new wr #[.int .i64 (kn : Int), .int .i64 nN, .string ss, .int .i64 nu, .int .i64 na] 43).bw hb3).cell; have zl := ((Blk.new wr #[.int .i64 (kn : Int), .int .i64 nN, .string ss, .int .i64 nu, .int .i64 na] 43).bw hb3).lt; clear hb3)
            | (at_builtin; refine wpList_append_own _ rfl _ _ 109 rfl w.heap.size 114 i1 _ 6 56 underUns I1.out.1 I1.out.2.1 I1.out.2.2.1 I1.out.2.2.2 rfl (by decide) (.slice x S.length c) S.length (S.flatMap unV) rfl ?c0 ⟨w3.heap.size, 0, none⟩ 1 1 (unV (nd, 0)) rfl ?c1 ?c2 (unV_one _) ?c3 ?c4 ?c5 ?_)
            | fail)
          case c0 => exact HUN.out.bw (Bw.alloc B3.out _)
          case c1 => rw [HUV.out]; rfl
          case c2 =>
            have := unf_new w3 w3.heap.size rfl (nd, 0) 114
            rw [HUV.out] at this ⊢
            exact this
          case c3 => unfold maxLen; omega
          case c4 => omega
          case c5 => have := B3.out.size; simp only [World.size_alloc]; omega
          intro v4 w4 ho4 hg4 _
          have HB4 := hid (bw_grown (Bw.alloc (HBW.out.trans B3.out) _) (Nat.le_refl _) (HUN.out.bw (Bw.alloc B3.out _)) hg4)
          have hl4 : (S ++ [(nd, (0 : Int))]).length = S.length + 1 := by simp
          have hun4 : Un w4 w.heap.size v4 (S ++ [(nd, 0)]) := by
            unfold Un
            rw [hl4, List.flatMap_append]
            simpa using ho4
          obtain ⟨g4, cap4, e4, hgb4, hgl4, hnc4, hcs4, hfz4⟩ := hun4.at (by rw [hl4]; omega)
          subst e4
          have HUN4 := hid hun4
          have HGB := hid hgb4
          have HW4 := hid (without_any w.heap.size g4 cap4 (S ++ [(nd, 0)]) (by rw [hl4]; omega) (by rw [hl4]; omega) w4 hun4)
          have HL4 := hid hl4
          rw [hl4] at HW4
          rw [hl4]
          have hokN : ∀ u ∈ S ++ [(nd, (0 : Int))], OkU i u := by
            intro u hu
            rcases List.mem_append.1 hu with hu | hu
            · exact HOK.out u hu
            · simp at hu
              subst hu
              exact ⟨0, rfl, HSM.out.1, Nat.zero_le _, HSM.out.2.1, HSM.out.2.2⟩
          have HOKN := hid hokN
          have hrev : (S ++ [(nd, (0 : Int))]).reverse = (nd, 0) :: S.reverse := by simp
          have HREV := hid hrev
          clear ho4 hg4 hun4 hcs4 hfz4 hgb4 hl4 HF HM hokN hrev z0 HUN HOK y0 y1 y2 y3 y4
          go_upto_region 13 with (first
            | (go_at_call 54; refine HW4.out.mono ?_; rintro e w5 ⟨k, hk, hT, rfl, hb5⟩; have HB5 := hid (HB4.out.trans hb5); have HUN5 := hid (HUN4.out.bw hb5); have HT := hid hT; clear hb5 hT)
            | fail)
          generalize hS1 : S ++ [(nd, (0 : Int))] = S1 at *
          cases k with
          | zero =>
            have hTe : wof ((nd, 0) :: S.reverse) = [] := by rw [← HREV.out, ← HT.out]; simp
            have e : R = if L.drop (i + 1) = [] then (0, 0) else (((i + 1 : Nat) : Int), 6) := by rw [← HCK3.out, hTe]
            have e2 : R = ((if i + 1 < L.length then (((i + 1 : Nat) : Int)) else 0), (if i + 1 < L.length then 6 else 0)) := by
              rw [e]
              by_cases hq : i + 1 < L.length
              · rw [if_pos hq, if_pos hq, if_neg (by intro h9; have := congrArg List.length h9; simp at this; omega)]
              · rw [if_neg hq, if_neg hq, if_pos (List.drop_eq_nil_of_le (by omega))]
            have HCE := hid (checkEnd_any (some ⟨g, o, none⟩) L.length cap (i + 1) (by omega))
            have hcast : ((i + 1 : Nat) : Int) = (i : Int) + 1 := by omega
            rw [hcast] at HCE e2
            clear e
            clear HCK3 HT HREV HOKN HW4 HUN4 HUN5 hTe hcast
            subst e2
            go_wp2_with (first
              | (go_at_call 55; refine (HCE.out _).mono ?_; rintro e w' ⟨rfl, hw'⟩; subst w')
              | fail)
            all_goals go_ret2
            all_goals exact ⟨rfl, HB5.out⟩
          | succ q =>
            have hS1l := HL4.out
            have hql : q < S1.length := by omega
            have hsn : S1.take (q + 1) = S1.take q ++ [(S1[q].1, S1[q].2)] := by rw [List.take_succ_eq_append_getElem hql]
            have hTe : wof ((nd, 0) :: S.reverse) = (S1[q].1, S1[q].2) :: (S1.take q).reverse := by
              rw [← HREV.out, ← HT.out, hsn]
              simp
            have hmem : (S1[q].1, S1[q].2) ∈ S1 := List.getElem_mem hql
            obtain ⟨c9, hc9, hc9b, hc9c, hc9d, hc9e⟩ := HOKN.out _ hmem
            have hne := (wof_head hTe).1
            have hck4 := HCK3.out
            rw [hTe] at hck4
            dsimp only at hck4 hc9 hc9b hc9d hc9e
            have hun6 := Un.take (show Un w5 w.heap.size (.slice (some ⟨g4, 0, none⟩) S1.length cap4) S1 from HUN5.out) (by omega) (q + 1) (by omega)
            have hql2 : (S1.take q).length = q := by simp; omega
            obtain ⟨g6, cap6, e6, hj1, hg6, hj2, hcs6, hfz6⟩ := hun6.at (by rw [List.length_take]; omega)
            injection e6 with e6 hj3 hj4
            clear hj1 hj2 hj3 hj4
            injection e6 with e6
            injection e6 with e6
            subst e6
            have hq6 : q < (S1.take (q + 1)).length := by rw [List.length_take]; omega
            have hgq : (S1.take (q + 1))[q]'hq6 = S1[q] := by simp
            have u0 := hcs6 q hq6 0 (by decide)
            have u3 := hcs6 q hq6 3 (by decide)
            have u5 := hcs6 q hq6 5 (by decide)
            rw [hgq] at u0 u3 u5
            have u0' : w5.cell? ⟨g4, q * 6, none⟩ = some (.int .i64 S1[q].1.1) := u0
            have u3' : w5.cell? ⟨g4, q * 6 + 3, none⟩ = some (.int .i64 S1[q].1.2.2.2.1) := u3
            have u5' : w5.cell? ⟨g4, q * 6 + 5, none⟩ = some (.int .i64 (c9 : Int)) := by rw [← hc9]; exact u5
            have HST := hid (step_any S1[q].1 c9 g4 (q * 6) w5 (by omega) (by omega) hc9d hc9e hg6 u0' u3' u5' (hfz6 _))
            have hunb : Un (w5.setCell ⟨g4, q * 6 + 5, none⟩ (.int .i64 ((c9 : Int) + 1))) w.heap.size (.slice (some ⟨g4, 0, none⟩) (q + 1) cap4) (S1.take q ++ [(S1[q].1, (c9 : Int) + 1)]) := by
              have h9 := Un.bump (d := (c9 : Int) + 1) (P := S1.take q) (m := S1[q].1) (c := S1[q].2) (g := g4) (cap := cap4) (w := w5) (base := w.heap.size) (by rw [hql2, ← hsn]; exact hun6)
              rw [hql2] at h9
              exact h9
            have HUNB := hid hunb
            rw [hc9] at hck4
            have HCK5 := hid hck4
            have HLAST := hid (And.intro hc9b (And.intro hc9d (And.intro hc9e hc9c)))
            have hlt9 : (c9 : Int) < S1[q].1.2.1 := by omega
            have HLT9 := hid hlt9
            clear hcs6 hfz6 u0 u3 u5 u0' u3' u5' hun6 hunb hck4 hne hmem hsn hTe hc9 hc9b hc9d hc9e hlt9 hgq
            have hok6 : ∀ u ∈ S1.take q ++ [(S1[q].1, (c9 : Int) + 1)], OkU (i + 1) u := by
              intro u hu
              rcases List.mem_append.1 hu with hu | hu
              · obtain ⟨c8, k1, k2, k3, k4, k5⟩ := HOKN.out u (List.mem_of_mem_take hu)
                exact ⟨c8, k1, k2, by omega, k4, k5⟩
              · simp at hu
                subst hu
                have k := HLAST.out
                have k9 := HLT9.out
                exact ⟨c9 + 1, by simp, by simp; omega, by have := k.2.2.2; omega, k.2.1, k.2.2.1⟩
            have HOK6 := hid hok6
            have hlen6 : (S1.take q ++ [(S1[q].1, (c9 : Int) + 1)]).length = q + 1 := by simp; omega
            have HLEN6 := hid hlen6
            have hrev6 : (S1.take q ++ [(S1[q].1, (c9 : Int) + 1)]).reverse = (S1[q].1, (c9 : Int) + 1) :: (S1.take q).reverse := by simp
            rw [← hrev6] at HCK5
            clear hok6 hlen6 hrev6 HLAST HLT9 HOKN HT HREV HCK3 HW4 HUN4 HUN5
            generalize S1.take q ++ [(S1[q].1, (c9 : Int) + 1)] = S6 at *
            generalize S1[q].1 = mm at *
            have b1 : (0 : Int) ≤ (q : Int) := by omega
            have b2 : (q : Int) < (q : Int) + 1 := by omega
            have HQI := hid (show q ≤ i by omega)
            have hq9 : q ≤ 100000 := by omega
            clear hS1 hS1l hql2 hql hq6 hnc4 hk hsl hc9c HL4
            go_wp2_with (first
              | (go_at_call 56; refine HST.out.mono ?_; rintro e w' ⟨rfl, hw'⟩; subst w')
              | fail)
            go_roundw
            case rel =>
              refine ⟨i + 1, S6, _, _, cap4, by omega, by rw [HLEN6.out], rfl, by go_num, by rw [HLEN6.out]; exact HUNB.out, HB5.out.setCell (p := ⟨g4, q * 6 + 5, none⟩) HGB.out _, HCK5.out, by have := HLEN6.out; have := HQI.out; omega, HOK6.out⟩
            case measure => simp [intOf]; omega
    · have e : R = ((L.length : Int), 6) := by
        obtain rfl : i = L.length := by omega
        rw [← HCK.out, List.drop_length, ckI]
      subst e
      go_wp2
      all_goals go_ret2
      all_goals exact ⟨rfl, HBW.out⟩

end Go.Proofs.YtdhkcdehedbpcaaDoor

set_option linter.unusedSimpArgs false
set_option linter.unusedVariables false
namespace Go.Proofs.YtdhkcdehedbpcaaDoor
open Go Go.RowKit

theorem underMs : Tryd.prog.underlying 77 = some (.map 9 3) := by kernel_rfl
theorem zero3 (w : World) : (zeroValue 3).run Tryd.prog w = .ok (.int .i64 0) w := by kernel_rfl

/-- The globals' numbers by names, of so many nodes from a place on; none: a place is beyond. -/
def globA (L : List ANode) : Nat → Int → (ByteArray → Option Int) → Int → Option (ByteArray → Option Int)
  | 0, _, M, _ => some M
  | n + 1, a, M, c => if 0 ≤ a ∧ a < L.length then
      (if (L.getD a.toNat (0, 0, [], 0, 0)).1 = 3 ∨ (L.getD a.toNat (0, 0, [], 0, 0)).1 = 12 then
        globA L n (bhV L a).1 (if (M (strOfNums (L.getD a.toNat (0, 0, [], 0, 0)).2.2.1)).isSome then M else mput M (strOfNums (L.getD a.toNat (0, 0, [], 0, 0)).2.2.1) c) (c + 1)
       else globA L n (bhV L a).1 M c) else none

theorem NC.bw {w w' : World} {g o : Nat} {L : List ANode} (h : NC w g o L) (hb : Bw w w') : NC w' g o L := by
  refine ⟨Nat.lt_of_lt_of_le h.lt hb.size, fun i hi j hj => ?_, h.b⟩
  rw [← h.c i hi j hj]
  exact World.cell?_of_block (w := w) (w' := w') (a := ⟨g, o + i * 5 + j, none⟩) (hb.block g h.lt)
theorem NC.nm {w : World} {g o : Nat} {L : List ANode} (h : NC w g o L) : NM w g o L :=
  ⟨h.lt, fun i hi => by rw [h.c i hi 1 (by omega)]; rfl, fun i hi => (h.b i hi).1⟩

set_option maxRecDepth 100000 in
set_option maxHeartbeats 4000000 in
theorem globals_any {w : World} (g o cap : Nat) (L : List ANode) (h0 : 0 < L.length) (hl : L.length ≤ 1000) (n : Nat) (hn : L[0].2.1 = (n : Int)) (hn5 : n ≤ 1000) (h : NC w g o L) {M : ByteArray → Option Int} (hg : globA L n 1 (fun _ => none) 0 = some M) :
    Calls Tryd.prog 57 #[.slice (some ⟨g, o, none⟩) L.length cap] w fun e w' => ∃ b, e = .returned (.map (some b)) ∧ w.heap.size ≤ b ∧ MS w' b M n ∧ Bw w w' := by
  have H := hid h
  have HG := hid hg
  have HL := hid hl
  have c1 : w.cell? ⟨g, o + 1, none⟩ = some (.int .i64 (n : Int)) := by
    have := h.c 0 h0 1 (by omega)
    rw [show o + 0 * 5 + 1 = o + 1 by omega] at this
    rw [this]; simp [ndV, hn]
  have gl := h.lt
  have hi0 : (0 : Int) < (L.length : Int) := by omega
  have M0 := hid (MS.new w)
  have hmm := @run_makeMap Tryd.prog
  clear h hg hn
  go_enter Tryd.func57, Tryd.ntmps57
  go_wp2
  clear hmm
  go_loopw [4, 5, 13] (fun v4 v5 v13 wr => ∃ (k : Nat) (a c : Int) (M' : ByteArray → Option Int), v13 = .int .i64 (k : Int) ∧ k ≤ n ∧ v4 = .int .i64 c ∧ 0 ≤ c ∧ c ≤ k ∧ v5 = .int .i64 a ∧ globA L (n - k) a M' c = some M ∧ MS wr w.heap.size M' k ∧ Bw w wr) (fun _ _ v13 _ => n - (intOf v13).toNat)
  case atStart => exact ⟨0, 1, 0, fun _ => none, rfl, Nat.zero_le _, rfl, Int.le_refl _, Int.le_refl _, rfl, HG.out, M0.out, bq⟩
  case round =>
    obtain ⟨k, a, c, M', rfl, hk, rfl, hc0, hck, rfl, hgo, hms, hbw⟩ := hrel
    have HM := hid hms
    have HB := hid hbw
    by_cases hkn : k < n
    · have hkn' : (k : Int) < (n : Int) := by omega
      obtain ⟨r, hr⟩ : ∃ r, n - k = r + 1 := ⟨n - k - 1, by omega⟩
      rw [hr] at hgo
      unfold globA at hgo
      by_cases hac : 0 ≤ a ∧ a < L.length
      case neg => rw [if_neg hac] at hgo; cases hgo
      rw [if_pos hac] at hgo
      obtain ⟨ha0, ha1⟩ := hac
      obtain ⟨i, rfl⟩ : ∃ i : Nat, a = i := ⟨a.toNat, by omega⟩
      have hil : i < L.length := by omega
      have hget : L.getD (i : Int).toNat (0, 0, [], 0, 0) = L[i] := by rw [Int.toNat_natCast, List.getD_eq_getElem?_getD, List.getElem?_eq_getElem hil]; rfl
      rw [hget] at hgo
      have hN := H.out.bw hbw
      have z0 : wr.cell? ⟨g, o + i * 5, none⟩ = some (.int .i64 L[i].1) := hN.c i hil 0 (by omega)
      have z2 : wr.cell? ⟨g, o + i * 5 + 2, none⟩ = some (.string (strOfNums L[i].2.2.1)) := hN.c i hil 2 (by omega)
      have zl : g < wr.heap.size := hN.lt
      have hsz : (strOfNums L[i].2.2.1).size ≤ maxLen := by rw [strOfNums_size]; have := (hN.b i hil).2.2; unfold maxLen; omega
      have HK := hid (key_lit hsz)
      have HBH := hid (fun w1 (hw : NC w1 g o L) => behind_any g o cap L HL.out (i : Int) (by omega) w1 (.inr hw.nm))
      have hRR : ∃ b' e', bhV L i = (b', e') := ⟨_, _, rfl⟩
      obtain ⟨b', e', hRR⟩ := hRR
      rw [hRR] at hgo HBH
      simp only at hgo HBH
      generalize strOfNums L[i].2.2.1 = u at z2 hgo HK
      generalize L[i].1 = d0 at z0 hgo
      have hr2 : r = n - (k + 1) := by omega
      have HR2 := hid hr2
      have HI := hid hil
      clear hms hbw hN hget hsz hr hRR hr2
      by_cases hd : d0 = 3 ∨ d0 = 12
      · rw [if_pos hd] at hgo
        have HGO := hid hgo
        obtain ⟨D, hown, hD⟩ := HM.out
        have HO := hid hown
        have HD := hid hD
        clear hown hD hgo
        cases hu : M' u with
        | none =>
          have hhas : Maps.has D (.string u.data.toList) = false := by rw [HD.out.has, hu]; rfl
          have HGN := hid (show globA L (n - (k + 1)) b' (mput M' u c) (c + 1) = some M by rw [← HR2.out]; have h := HGO.out; rw [hu] at h; exact h)
          clear hu
          have hdd : (d0 == 3) = true ∨ ((d0 == 3) = false ∧ (d0 == 12) = true) := by
            rcases hd with e | e
            · exact .inl (by simpa using e)
            · exact .inr ⟨by rw [e]; rfl, by simpa using e⟩
          clear hd HGO
          rcases hdd with e3 | ⟨e3, e12⟩
          all_goals
            go_upto_region 7 with go_quiet (fail)
            go_wp2_with (first
              | (at_lookup; refine wpList_lookup_own_ok_int _ rfl _ _ 77 rfl 9 3 .i64 key9 underMs int3 (zero3 _) w.heap.size k D rfl HO.out _ _ rfl HK.out ?_; intro c1 hat hwc; rw [hhas]; clear hat hwc)
              | (at_mapUpdate; refine wpList_mapUpdate_in _ rfl _ _ _ 77 rfl 9 3 key9 underMs _ w.heap.size k D rfl HO.out (by unfold maxLen; omega) _ _ _ rfl rfl HK.out _ [] (plainElem_int int3 (WalkArith.wf_i64 (by omega))) ?_; intro w1 hown1 hturn1; have M1 := hid (show MS w1 w.heap.size (mput M' u c) (k + 1) from ⟨_, hown1, HD.out.put u c⟩); have B1 := hid (bw_grownAt (HB.out.trans bq) hturn1.grown (Nat.le_refl _)); have z3 := H.out.bw B1.out; have z4 := z3.lt; clear z3 hown1 hturn1)
              | (go_at_call 75; refine (HBH.out _ (H.out.bw (B1.out.trans bq))).mono ?_; rintro e w2 ⟨rfl, rfl⟩)
              | fail)
            case roundEnd =>
              exact ⟨⟨k + 1, b', c + 1, mput M' u c, by go_num, by omega, by go_num, by omega, by omega, rfl, HGN.out, M1.out, B1.out.trans bq⟩, by simp [intOf]; omega⟩
        | some x =>
          have hhas : Maps.has D (.string u.data.toList) = true := by rw [HD.out.has, hu]; rfl
          have HGN := hid (show globA L (n - (k + 1)) b' M' (c + 1) = some M by rw [← HR2.out]; have h := HGO.out; rw [hu] at h; exact h)
          clear hu
          have hdd : (d0 == 3) = true ∨ ((d0 == 3) = false ∧ (d0 == 12) = true) := by
            rcases hd with e | e
            · exact .inl (by simpa using e)
            · exact .inr ⟨by rw [e]; rfl, by simpa using e⟩
          clear hd HGO
          rcases hdd with e3 | ⟨e3, e12⟩
          all_goals
            go_upto_region 7 with go_quiet (fail)
            go_wp2_with (first
              | (at_lookup; refine wpList_lookup_own_ok_int _ rfl _ _ 77 rfl 9 3 .i64 key9 underMs int3 (zero3 _) w.heap.size k D rfl HO.out _ _ rfl HK.out ?_; intro c1 hat hwc; rw [hhas]; clear hat hwc)
              | (go_at_call 75; refine (HBH.out _ (H.out.bw (HB.out.trans bq))).mono ?_; rintro e w2 ⟨rfl, rfl⟩)
              | fail)
            case roundEnd =>
              exact ⟨⟨k + 1, b', c + 1, M', by go_num, by omega, by go_num, by omega, by omega, rfl, HGN.out, (HM.out.mono (Nat.le_succ k)).keep rfl, HB.out.trans bq⟩, by simp [intOf]; omega⟩
      · rw [if_neg hd] at hgo
        have HGN := hid (show globA L (n - (k + 1)) b' M' c = some M by rw [← HR2.out]; exact hgo)
        have e3 : (d0 == 3) = false := by simpa using fun e => hd (.inl e)
        have e12 : (d0 == 12) = false := by simpa using fun e => hd (.inr e)
        clear hd hgo
        go_upto_region 11 with go_quiet (fail)
        go_wp2_with (first
          | (go_at_call 75; refine (HBH.out _ (H.out.bw (HB.out.trans bq))).mono ?_; rintro e w2 ⟨rfl, rfl⟩)
          | fail)
        case roundEnd =>
          exact ⟨⟨k + 1, b', c, M', by go_num, by omega, rfl, by omega, by omega, rfl, HGN.out, (HM.out.mono (Nat.le_succ k)).keep rfl, HB.out.trans bq⟩, by simp [intOf]; omega⟩
    · obtain rfl : k = n := by omega
      rw [Nat.sub_self] at hgo
      have hM : M' = M := by unfold globA at hgo; exact Option.some.inj hgo
      subst hM
      clear hms hbw hgo
      go_wp2
      all_goals go_ret
      all_goals exact ⟨_, rfl, Nat.le_refl _, HM.out.keep rfl, HB.out.trans bq⟩

end Go.Proofs.YtdhkcdehedbpcaaDoor

