/- The document's strings: the contract. · The document's Lex, of texts that are not too long: the contract. -/
import Derived.Test.YtdhkcdehedbpcaaDoorM17
set_option linter.unusedSimpArgs false
set_option linter.unusedVariables false
set_option maxRecDepth 20000
namespace Go.Proofs.YtdhkcdehedbpcaaDoor
open Go Go.RowKit

theorem hexV_cases {c : Int} : (hexV c = none ∧ (hexV c).getD (-1) = -1) ∨ ∃ d, hexV c = some d ∧ (hexV c).getD (-1) = d ∧ 0 ≤ d ∧ d ≤ 15 := by
  cases h : hexV c with
  | none => exact .inl ⟨rfl, rfl⟩
  | some d => exact .inr ⟨d, rfl, rfl, (hexV_bd h).1, (hexV_bd h).2⟩

theorem St.next2 {r : List Int} {i : Nat} {x c d : Int} (h : St r i x) (hi : i < 2) (hr : r[i]? = some c) (hc : hexV c = some d) : St r (i + 1) (x * 16 + d) ∧ 0 ≤ x ∧ x ≤ 15 := by
  have hd := hexV_bd hc
  rcases h with ⟨rfl, rfl⟩ | ⟨rfl, e, t, rfl, h1⟩ | ⟨h, _⟩
  · refine ⟨.inr (.inl ⟨rfl, ?_⟩), by omega, by omega⟩
    cases r with
    | nil => simp at hr
    | cons f u => simp at hr; subst hr; exact ⟨f, u, rfl, by simpa using hc⟩
  · have he := hexV_bd h1
    refine ⟨.inr (.inr ⟨rfl, ?_⟩), he.1, he.2⟩
    cases t with
    | nil => simp at hr
    | cons f u => simp at hr; subst hr; exact ⟨e, f, u, x, d, rfl, h1, hc, by omega⟩
  · omega

theorem St.bd {r : List Int} {x : Int} (h : St r 2 x) : 0 ≤ x ∧ x ≤ 255 := by
  rcases h with ⟨h, _⟩ | ⟨h, _⟩ | ⟨_, c, d, t, p, q, _, h1, h2, rfl⟩
  · omega
  · omega
  · have := hexV_bd h1
    have := hexV_bd h2
    omega

set_option maxRecDepth 100000 in
set_option maxHeartbeats 16000000 in
theorem rtext_any (v : Value) (b : List Int) (k : Nat) (w : World) (h : By w v b) (hk : k < b.length) (hm : b.length ≤ 1000000) (C : Cut) (hC : C = cStr ((b.drop (k + 1)).length + 1) (b.drop (k + 1)) [] 1) :
    Calls Tryd.prog 39 #[v, .int .i64 (k : Nat)] w fun e w' => ∃ r, e = .returned r ∧ RV k C r ∧ Bw w w' := by
  have HB := hid h
  obtain ⟨g, o, cap, rfl, hcap, hg, hcs⟩ := h.parts hk
  have HC := hid hcs
  obtain ⟨i1, hi1, hz1, hs1, hy1⟩ := info_parts infoU8
  have I1 := hid (And.intro hi1 (And.intro hz1 (And.intro hs1 hy1)))
  have HCC := hid hC
  clear h hcs hi1 hz1 hs1 hy1 hC
  go_enter Tryd.func39, Tryd.ntmps39
  go_wp2
  go_loopw [8, 9] (fun s j wr => ∃ (f m : Nat) (acc : List Int), j = .int .i64 ((k + m : Nat) : Int) ∧ 1 ≤ m ∧ k + m ≤ b.length ∧ (b.drop (k + m)).length < f ∧ C = cStr f (b.drop (k + m)) acc m ∧ acc.length ≤ m ∧ wr.ownsRow (w.heap.size + 2) 5 1 s acc.length (acc.map (Value.int .u8)) ∧ Bw ((w.alloc tkz).alloc (.cells #[.int .i64 4, .string ⟨#[]⟩, .int .i64 0, .int .i64 (k : Nat)] 70)) wr) (fun _ j _ => b.length - (intOf j).toNat)
  case atStart => exact ⟨_, 1, [], by simp, by omega, by omega, by omega, HCC.out, by simp, World.ownsRow_nil _ _ _ _, Bw.refl _⟩
  case round =>
    obtain ⟨f, m, acc, rfl, hm1, hkm, hf, hce, ham, hown, hbw⟩ := hrel
    obtain ⟨ax, cax, e⟩ := own_form hown
    subst e
    have HO := hid hown
    have HW := hid hbw
    have hsz : w.heap.size + 2 ≤ wr.heap.size := by have := hbw.size; simpa using this
    have B0 := ((Blk.new w #[.int .i64 0, .string ⟨#[]⟩, .int .i64 0, .int .i64 0] 70).alloc (.cells #[.int .i64 4, .string ⟨#[]⟩, .int .i64 0, .int .i64 (k : Nat)] 70)).bw hbw
    have B1 : Blk wr (w.heap.size + 1) #[.int .i64 4, .string ⟨#[]⟩, .int .i64 0, .int .i64 (k : Nat)] 70 := by
      have := (Blk.new (w.alloc tkz) #[.int .i64 4, .string ⟨#[]⟩, .int .i64 0, .int .i64 (k : Nat)] 70).bw hbw
      simpa using this
    have HBK0 := hid B0
    have HBK1 := hid B1
    have k0 := B0.cell 0
    have k1 := B0.cell 1
    have k2 := B0.cell 2
    have k3 := B0.cell 3
    have kf := B0.free
    have j0 := B1.cell 0
    have j1 := B1.cell 1
    have j2 := B1.cell 2
    have j3 := B1.cell 3
    have jf := B1.free
    simp at k0 k1 k2 k3 j0 j1 j2 j3
    have HCE := hid hce
    have HF := hid hf
    clear hown hbw B0 B1 hce hf
    by_cases hlt : k + m < b.length
    · have hcw : ∀ i (hi : i < b.length), wr.cell? ⟨g, o + i, none⟩ = some (.int .u8 b[i]) := by
        intro i hi
        rw [← HC.out _ hi]
        exact World.cell?_of_block (w := w) (w' := wr) (a := ⟨g, o + i, none⟩) (((bwTwo w _ _).trans HW.out).block g hg)
      have HCW := hid hcw
      have hc := hcw _ hlt
      have hbd := HB.out.2.1 _ (List.getElem_mem hlt)
      have hr : b.drop (k + m) = b[k + m] :: b.drop (k + m + 1) := List.drop_eq_getElem_cons hlt
      have HR := hid hr
      have HBD := hid hbd
      have hlt2 : ((k + m : Nat) : Int) < (b.length : Int) := by omega
      have hnge : ¬ ((b.length : Int) ≤ ((k + m : Nat) : Int)) := by omega
      obtain ⟨f', rfl⟩ : ∃ f', f = f' + 1 := ⟨f - 1, by have := HF.out; omega⟩
      have hst : C = cStr (f' + 1) (b[k + m] :: b.drop (k + m + 1)) acc m := by rw [← hr]; exact HCE.out
      have HST := hid hst
      clear hr hbd hst HCE hcw
      have HL : (b.drop (k + m)).length = b.length - (k + m) := List.length_drop
      generalize b[k + m] = c at hc HR HBD HST
      cases h34 : (c == 34)
      · have h34' : (c != 34) = true := by simpa using h34
        cases h10 : (c == 10)
        · cases h92 : (c == 92)
          · have h92' : (c != 92) = true := by simpa using h92
            have hst2 : C = cStr f' (b.drop (k + m + 1)) (acc ++ [c]) (m + 1) := by
              rw [HST.out]
              simp only [beq_eq_false_iff_ne, beq_iff_eq] at *
              simp [cStr, h34, h10, h92]
            have HS2 := hid hst2
            clear hst2
            go_wp2_with (first
              | (at_builtin; go_loud (refine wpList_append_own _ rfl _ _ 22 rfl (w.heap.size + 2) 5 i1 (.int .u8 0) 1 1 under22 I1.out.1 I1.out.2.1 I1.out.2.2.1 I1.out.2.2.2 rfl (by decide) (.slice ax acc.length cax) acc.length (acc.map (Value.int .u8)) rfl (HO.out.alloc _) ⟨wr.heap.size, 0, none⟩ 1 1 [.int .u8 c] rfl rfl ?aa1 ?aa2 ?aa3 ?aa4 ?aa5 ?_))
              | go_in)
            try case aa1 =>
              intro j u hj
              match j, hj with
              | 0, hj => simp at hj; subst hj; simp [Addr.add, go_sem]
            try case aa2 => first | rfl | (intro u hu; simp at hu; subst hu; rfl)
            try case aa3 => unfold maxLen; omega
            try case aa4 => omega
            try case aa5 => first | omega | (simp only [World.size_alloc]; omega)
            intro v' w1 hown hgr _
            obtain ⟨av', cv', e⟩ := own_form hown
            subst e
            have HW1 := hid (bw_grown (Bw.alloc HW.out _) (by simp) (HO.out.alloc _) hgr)
            rw [map_snoc8] at hown
            have HO1 := hid hown
            clear hgr hown
            go_wp2
            go_roundw
            case rel => exact ⟨f', m + 1, acc ++ [c], by go_num, by omega, by omega, by rw [List.length_drop]; have := HF.out; omega, HS2.out, by simp; omega, by simpa using HO1.out, HW1.out⟩
            case measure => simp [intOf]; omega
          · have h92' : (c != 92) = false := by simpa using h92
            have hcc : c = 92 := by simpa using h92
            subst hcc
            have HST2 := hid (show C = match esc (b.drop (k + m + 1)) with | .inr n => .bad 6 (m + n) | .inl (x, n) => cStr f' (b.drop (k + (m + n))) (acc ++ [x]) (m + n) by
              rw [HST.out]
              simp only [cStr]
              rw [if_neg (by decide), if_neg (by decide), if_pos trivial]
              cases esc (b.drop (k + m + 1)) with
              | inr n => rfl
              | inl q =>
                obtain ⟨x, n⟩ := q
                simp only
                rw [← HR.out, List.drop_drop]
                congr 1
                congr 1; omega)
            clear HST
            by_cases hl2 : k + m + 1 < b.length
            · have hd := HCW.out _ hl2
              have hdb := HB.out.2.1 _ (List.getElem_mem hl2)
              have hr2 : b.drop (k + m + 1) = b[k + m + 1] :: b.drop (k + m + 2) := List.drop_eq_getElem_cons hl2
              rw [hr2] at HST2
              have hl3 : ((k : Int) + m + 1) < (b.length : Int) := by omega
              clear hr2
              generalize b[k + m + 1] = d at hd hdb HST2
              have HDB := hid hdb
              clear hdb
              cases t110 : (d == 110)
              · cases t116 : (d == 116)
                · cases t34 : (d == 34)
                  · cases t92 : (d == 92)
                    · cases t120 : (d == 120)
                      · have he : esc (d :: b.drop (k + m + 2)) = .inr 1 := by
                          simp only [beq_eq_false_iff_ne] at *
                          simp [esc, t110, t116, t34, t92, t120]
                        have HV := hid (show RV k C (.tuple #[.agg #[.int .i64 4, .string ⟨#[]⟩, .int .i64 0, .int .i64 (k : Nat)], .int .i64 ((k : Int) + m + 1), .int .i64 6]) by
                          rw [HST2.out, he]
                          exact ⟨4, 0, k, ⟨#[]⟩, by simp; omega⟩)
                        clear HST2 he
                        go_wp2
                        all_goals
                          have bf := (((HBK0.out.set 0 (.int .i64 4)).set 1 (.string ⟨#[]⟩)).set 2 (.int .i64 0)).set 3 (.int .i64 (k : Nat))
                          have bfc := bf.cell
                          refine bodyPost_ret (v := _) (by simp [results, Tryd.results39, go_sem, bfc]; rfl) rfl ?_
                          exact ⟨_, rfl, HV.out, (bwTwo w _ _).trans HW.out |>.setCell (by simp) _ |>.setCell (by simp) _ |>.setCell (by simp) _ |>.setCell (by simp) _⟩
                      · have hdd : d = 120 := by simpa using t120
                        subst hdd
                        rw [esc_hex] at HST2
                        clear t110 t116 t34 t92 t120
                        go_wp2
                        go_loopw [10, 11] (fun nn j wi => ∃ (i : Nat) (x : Int), i ≤ 2 ∧ j = .int .i64 ((k + m + 2 + i : Nat) : Int) ∧ k + m + 2 + i ≤ b.length ∧ nn = .int .i64 x ∧ wi = wr ∧ St (b.drop (k + m + 2)) i x) (fun _ j _ => k + m + 4 - (intOf j).toNat)
                        case atStart => exact ⟨0, 0, by omega, by go_num, by omega, rfl, rfl, .inl ⟨rfl, rfl⟩⟩
                        case round =>
                          obtain ⟨i, x, hi2, rfl, hib, rfl, hwr, hst⟩ := hrel
                          subst hwr
                          have HSt := hid hst
                          clear hst
                          by_cases h2 : i < 2
                          · have h2i : ((k + m + 2 + i : Nat) : Int) < (k : Int) + m + 1 + 3 := by omega
                            by_cases hli : k + m + 2 + i < b.length
                            · have hci := HCW.out _ hli
                              have hri : (b.drop (k + m + 2))[i]? = some b[k + m + 2 + i] := by rw [List.getElem?_drop, List.getElem?_eq_getElem hli]
                              have HRi := hid hri
                              have hnl : ¬ ((b.length : Int) ≤ ((k + m + 2 + i : Nat) : Int)) := by omega
                              have hlib : ((k + m + 2 + i : Nat) : Int) < (b.length : Int) := by omega
                              clear hri
                              generalize b[k + m + 2 + i] = ci at hci HRi
                              rcases hexV_cases (c := ci) with ⟨hx, hx2⟩ | ⟨dd, hx, hx2, hd0, hd1⟩
                              · have he := HSt.out.bad h2 HRi.out hx
                                have HV := hid (show RV k C (.tuple #[.agg #[.int .i64 4, .string ⟨#[]⟩, .int .i64 0, .int .i64 (k : Nat)], .int .i64 (((k + m + 2 + i : Nat) : Int)), .int .i64 6]) by
                                  rw [HST2.out, he]
                                  exact ⟨4, 0, k, ⟨#[]⟩, by simp; omega⟩)
                                clear HST2 he hx
                                go_wp2_with (first
                                  | (go_at_call 67; refine (rhexit_any _ _).mono ?_; rw [hx2]; rintro e w' ⟨rfl, hw'⟩; subst w'))
                                all_goals
                                  have bf := (((HBK0.out.set 0 (.int .i64 4)).set 1 (.string ⟨#[]⟩)).set 2 (.int .i64 0)).set 3 (.int .i64 (k : Nat))
                                  have bfc := bf.cell
                                  refine bodyPost_ret (v := _) (by simp [results, Tryd.results39, go_sem, bfc]; rfl) rfl ?_
                                  exact ⟨_, rfl, HV.out, (bwTwo w _ _).trans HW.out |>.setCell (by simp) _ |>.setCell (by simp) _ |>.setCell (by simp) _ |>.setCell (by simp) _⟩
                              · obtain ⟨hn1, hn2, hn3⟩ := HSt.out.next2 h2 HRi.out hx
                                have HN1 := hid hn1
                                clear hn1 hx
                                go_wp2_with (first
                                  | (go_at_call 67; refine (rhexit_any _ _).mono ?_; rw [hx2]; rintro e w' ⟨rfl, hw'⟩; subst w'))
                                go_roundw
                                case rel => exact ⟨i + 1, x * 16 + dd, by omega, by go_num, by omega, rfl, trivial, HN1.out⟩
                                case measure => simp [intOf]; omega
                            · have hlen : (b.drop (k + m + 2)).length = i := by rw [List.length_drop]; omega
                              have he := HSt.out.short h2 hlen
                              have hge : ((b.length : Int) ≤ ((k + m + 2 + i : Nat) : Int)) := by omega
                              have HV := hid (show RV k C (.tuple #[.agg #[.int .i64 4, .string ⟨#[]⟩, .int .i64 0, .int .i64 (k : Nat)], .int .i64 (((k + m + 2 + i : Nat) : Int)), .int .i64 6]) by
                                rw [HST2.out, he]
                                exact ⟨4, 0, k, ⟨#[]⟩, by simp; omega⟩)
                              clear HST2 he hlen
                              go_wp2
                              all_goals
                                have bf := (((HBK0.out.set 0 (.int .i64 4)).set 1 (.string ⟨#[]⟩)).set 2 (.int .i64 0)).set 3 (.int .i64 (k : Nat))
                                have bfc := bf.cell
                                refine bodyPost_ret (v := _) (by simp [results, Tryd.results39, go_sem, bfc]; rfl) rfl ?_
                                exact ⟨_, rfl, HV.out, (bwTwo w _ _).trans HW.out |>.setCell (by simp) _ |>.setCell (by simp) _ |>.setCell (by simp) _ |>.setCell (by simp) _⟩
                          · obtain rfl : i = 2 := by omega
                            have he := HSt.out.end
                            have hxb := HSt.out.bd
                            have HS2 := hid (show C = cStr f' (b.drop (k + (m + 4))) (acc ++ [x]) (m + 4) by rw [HST2.out, he])
                            have hx256 : x % 256 = x := by omega
                            clear HST2 he
                            go_wp2_with (first
                              | (at_builtin; go_loud (refine wpList_append_own _ rfl _ _ 22 rfl (w.heap.size + 2) 5 i1 (.int .u8 0) 1 1 under22 I1.out.1 I1.out.2.1 I1.out.2.2.1 I1.out.2.2.2 rfl (by decide) (.slice ax acc.length cax) acc.length (acc.map (Value.int .u8)) rfl (HO.out.alloc _) ⟨wr.heap.size, 0, none⟩ 1 1 [.int .u8 x] rfl rfl ?bb1 ?bb2 ?bb3 ?bb4 ?bb5 ?_))
                              | go_in)
                            try case bb1 =>
                              intro j u hj
                              match j, hj with
                              | 0, hj => simp at hj; subst hj; simp [Addr.add, go_sem]
                            try case bb2 => first | rfl | (intro u hu; simp at hu; subst hu; rfl)
                            try case bb3 => unfold maxLen; omega
                            try case bb4 => omega
                            try case bb5 => first | omega | (simp only [World.size_alloc]; omega)
                            intro v' w1 hown hgr _
                            obtain ⟨av', cv', e⟩ := own_form hown
                            subst e
                            have HW1 := hid (bw_grown (Bw.alloc HW.out _) (by simp) (HO.out.alloc _) hgr)
                            rw [map_snoc8] at hown
                            have HO1 := hid hown
                            clear hgr hown
                            go_wp2
                            go_roundw
                            case rel => exact ⟨f', m + 4, acc ++ [x], by go_num, by omega, by omega, by rw [List.length_drop]; have := HF.out; omega, HS2.out, by simp; omega, by simpa using HO1.out, HW1.out⟩
                            case measure => simp [intOf]; omega
                    · have hdd : d = 92 := by simpa using t92
                      have HS2 := hid (show C = cStr f' (b.drop (k + (m + 2))) (acc ++ [d]) (m + 2) by rw [HST2.out, hdd]; simp [esc])
                      clear HST2
                      subst hdd
                      go_wp2_with (first
                        | (at_builtin; go_loud (refine wpList_append_own _ rfl _ _ 22 rfl (w.heap.size + 2) 5 i1 (.int .u8 0) 1 1 under22 I1.out.1 I1.out.2.1 I1.out.2.2.1 I1.out.2.2.2 rfl (by decide) (.slice ax acc.length cax) acc.length (acc.map (Value.int .u8)) rfl (HO.out.alloc _) ⟨wr.heap.size, 0, none⟩ 1 1 [.int .u8 92] rfl rfl ?cc1 ?cc2 ?cc3 ?cc4 ?cc5 ?_))
                        | go_in)
                      try case cc1 =>
                        intro j u hj
                        match j, hj with
                        | 0, hj => simp at hj; subst hj; simp [Addr.add, go_sem]
                      try case cc2 => first | rfl | (intro u hu; simp at hu; subst hu; rfl)
                      try case cc3 => unfold maxLen; omega
                      try case cc4 => omega
                      try case cc5 => first | omega | (simp only [World.size_alloc]; omega)
                      intro v' w1 hown hgr _
                      obtain ⟨av', cv', e⟩ := own_form hown
                      subst e
                      have HW1 := hid (bw_grown (Bw.alloc HW.out _) (by simp) (HO.out.alloc _) hgr)
                      rw [map_snoc8] at hown
                      have HO1 := hid hown
                      clear hgr hown
                      go_wp2
                      go_roundw
                      case rel => exact ⟨f', m + 2, acc ++ [92], by go_num, by omega, by omega, by rw [List.length_drop]; have := HF.out; omega, HS2.out, by simp; omega, by simpa using HO1.out, HW1.out⟩
                      case measure => simp [intOf]; omega
                  · have hdd : d = 34 := by simpa using t34
                    have HS2 := hid (show C = cStr f' (b.drop (k + (m + 2))) (acc ++ [d]) (m + 2) by rw [HST2.out, hdd]; simp [esc])
                    clear HST2
                    subst hdd
                    go_wp2_with (first
                      | (at_builtin; go_loud (refine wpList_append_own _ rfl _ _ 22 rfl (w.heap.size + 2) 5 i1 (.int .u8 0) 1 1 under22 I1.out.1 I1.out.2.1 I1.out.2.2.1 I1.out.2.2.2 rfl (by decide) (.slice ax acc.length cax) acc.length (acc.map (Value.int .u8)) rfl (HO.out.alloc _) ⟨wr.heap.size, 0, none⟩ 1 1 [.int .u8 34] rfl rfl ?dd1 ?dd2 ?dd3 ?dd4 ?dd5 ?_))
                      | go_in)
                    try case dd1 =>
                      intro j u hj
                      match j, hj with
                      | 0, hj => simp at hj; subst hj; simp [Addr.add, go_sem]
                    try case dd2 => first | rfl | (intro u hu; simp at hu; subst hu; rfl)
                    try case dd3 => unfold maxLen; omega
                    try case dd4 => omega
                    try case dd5 => first | omega | (simp only [World.size_alloc]; omega)
                    intro v' w1 hown hgr _
                    obtain ⟨av', cv', e⟩ := own_form hown
                    subst e
                    have HW1 := hid (bw_grown (Bw.alloc HW.out _) (by simp) (HO.out.alloc _) hgr)
                    rw [map_snoc8] at hown
                    have HO1 := hid hown
                    clear hgr hown
                    go_wp2
                    go_roundw
                    case rel => exact ⟨f', m + 2, acc ++ [34], by go_num, by omega, by omega, by rw [List.length_drop]; have := HF.out; omega, HS2.out, by simp; omega, by simpa using HO1.out, HW1.out⟩
                    case measure => simp [intOf]; omega
                · have hdd : d = 116 := by simpa using t116
                  have HS2 := hid (show C = cStr f' (b.drop (k + (m + 2))) (acc ++ [9]) (m + 2) by rw [HST2.out, hdd]; simp [esc])
                  clear HST2 hdd
                  go_wp2_with (first
                    | (at_builtin; go_loud (refine wpList_append_own _ rfl _ _ 22 rfl (w.heap.size + 2) 5 i1 (.int .u8 0) 1 1 under22 I1.out.1 I1.out.2.1 I1.out.2.2.1 I1.out.2.2.2 rfl (by decide) (.slice ax acc.length cax) acc.length (acc.map (Value.int .u8)) rfl (HO.out.alloc _) ⟨wr.heap.size, 0, none⟩ 1 1 [.int .u8 9] rfl rfl ?ee1 ?ee2 ?ee3 ?ee4 ?ee5 ?_))
                    | go_in)
                  try case ee1 =>
                    intro j u hj
                    match j, hj with
                    | 0, hj => simp at hj; subst hj; simp [Addr.add, go_sem]
                  try case ee2 => first | rfl | (intro u hu; simp at hu; subst hu; rfl)
                  try case ee3 => unfold maxLen; omega
                  try case ee4 => omega
                  try case ee5 => first | omega | (simp only [World.size_alloc]; omega)
                  intro v' w1 hown hgr _
                  obtain ⟨av', cv', e⟩ := own_form hown
                  subst e
                  have HW1 := hid (bw_grown (Bw.alloc HW.out _) (by simp) (HO.out.alloc _) hgr)
                  rw [map_snoc8] at hown
                  have HO1 := hid hown
                  clear hgr hown
                  go_wp2
                  go_roundw
                  case rel => exact ⟨f', m + 2, acc ++ [9], by go_num, by omega, by omega, by rw [List.length_drop]; have := HF.out; omega, HS2.out, by simp; omega, by simpa using HO1.out, HW1.out⟩
                  case measure => simp [intOf]; omega
              · have hdd : d = 110 := by simpa using t110
                have HS2 := hid (show C = cStr f' (b.drop (k + (m + 2))) (acc ++ [10]) (m + 2) by rw [HST2.out, hdd]; simp [esc])
                clear HST2 hdd
                go_wp2_with (first
                  | (at_builtin; go_loud (refine wpList_append_own _ rfl _ _ 22 rfl (w.heap.size + 2) 5 i1 (.int .u8 0) 1 1 under22 I1.out.1 I1.out.2.1 I1.out.2.2.1 I1.out.2.2.2 rfl (by decide) (.slice ax acc.length cax) acc.length (acc.map (Value.int .u8)) rfl (HO.out.alloc _) ⟨wr.heap.size, 0, none⟩ 1 1 [.int .u8 10] rfl rfl ?ff1 ?ff2 ?ff3 ?ff4 ?ff5 ?_))
                  | go_in)
                try case ff1 =>
                  intro j u hj
                  match j, hj with
                  | 0, hj => simp at hj; subst hj; simp [Addr.add, go_sem]
                try case ff2 => first | rfl | (intro u hu; simp at hu; subst hu; rfl)
                try case ff3 => unfold maxLen; omega
                try case ff4 => omega
                try case ff5 => first | omega | (simp only [World.size_alloc]; omega)
                intro v' w1 hown hgr _
                obtain ⟨av', cv', e⟩ := own_form hown
                subst e
                have HW1 := hid (bw_grown (Bw.alloc HW.out _) (by simp) (HO.out.alloc _) hgr)
                rw [map_snoc8] at hown
                have HO1 := hid hown
                clear hgr hown
                go_wp2
                go_roundw
                case rel => exact ⟨f', m + 2, acc ++ [10], by go_num, by omega, by omega, by rw [List.length_drop]; have := HF.out; omega, HS2.out, by simp; omega, by simpa using HO1.out, HW1.out⟩
                case measure => simp [intOf]; omega
            · have hdn : b.drop (k + m + 1) = [] := List.drop_eq_nil_of_le (by omega)
              have hge : ((b.length : Int) ≤ (k : Int) + m + 1) := by omega
              have HV := hid (show RV k C (.tuple #[.agg #[.int .i64 4, .string ⟨#[]⟩, .int .i64 0, .int .i64 (k : Nat)], .int .i64 ((k : Int) + m + 1), .int .i64 6]) by
                rw [HST2.out, hdn]
                exact ⟨4, 0, k, ⟨#[]⟩, by simp; omega⟩)
              clear HST2 hdn
              go_wp2
              all_goals
                have bf := (((HBK0.out.set 0 (.int .i64 4)).set 1 (.string ⟨#[]⟩)).set 2 (.int .i64 0)).set 3 (.int .i64 (k : Nat))
                have bfc := bf.cell
                refine bodyPost_ret (v := _) (by simp [results, Tryd.results39, go_sem, bfc]; rfl) rfl ?_
                exact ⟨_, rfl, HV.out, (bwTwo w _ _).trans HW.out |>.setCell (by simp) _ |>.setCell (by simp) _ |>.setCell (by simp) _ |>.setCell (by simp) _⟩
        · have hcc : c = 10 := by simpa using h10
          have HV := hid (show RV k C (.tuple #[.agg #[.int .i64 4, .string ⟨#[]⟩, .int .i64 0, .int .i64 (k : Nat)], .int .i64 ((k : Int) + m), .int .i64 6]) by
            rw [HST.out, hcc]
            simp only [cStr]
            rw [if_neg (by decide), if_pos trivial]
            exact ⟨4, 0, k, ⟨#[]⟩, by simp⟩)
          clear HST hcc
          go_wp2
          all_goals
            have bf := (((HBK0.out.set 0 (.int .i64 4)).set 1 (.string ⟨#[]⟩)).set 2 (.int .i64 0)).set 3 (.int .i64 (k : Nat))
            have bfc := bf.cell
            refine bodyPost_ret (v := _) (by simp [results, Tryd.results39, go_sem, bfc]; rfl) rfl ?_
            exact ⟨_, rfl, HV.out, (bwTwo w _ _).trans HW.out |>.setCell (by simp) _ |>.setCell (by simp) _ |>.setCell (by simp) _ |>.setCell (by simp) _⟩
      · have h34' : (c != 34) = false := by simpa using h34
        have hcc : c = 34 := by simpa using h34
        have hconv := own_conv HO.out
        have HV := hid (show RV k C (.tuple #[.agg #[.int .i64 4, .string (strOfNums acc), .int .i64 0, .int .i64 (k : Nat)], .int .i64 ((k : Int) + m + 1), .int .i64 0]) by
          rw [HST.out, hcc]
          simp [cStr, RV]; omega)
        clear HST hcc
        go_wp2
        all_goals
          have bf := ((((HBK0.out.other (p := ⟨w.heap.size + 1, 1, none⟩) (by simp) (.string (strOfNums acc))).set 0 (.int .i64 4)).set 1 (.string (strOfNums acc))).set 2 (.int .i64 0)).set 3 (.int .i64 (k : Nat))
          have bfc := bf.cell
          refine bodyPost_ret (v := _) (by simp [results, Tryd.results39, go_sem, bfc]; rfl) rfl ?_
          exact ⟨_, rfl, HV.out, (bwTwo w _ _).trans HW.out |>.setCell (by simp) _ |>.setCell (by simp) _ |>.setCell (by simp) _ |>.setCell (by simp) _ |>.setCell (by simp) _⟩
    · have hge : ((b.length : Int) ≤ ((k + m : Nat) : Int)) := by omega
      have hkb : k + m = b.length := by omega
      have HV := hid (show RV k C (.tuple #[.agg #[.int .i64 4, .string ⟨#[]⟩, .int .i64 0, .int .i64 (k : Nat)], .int .i64 ((b.length : Int)), .int .i64 6]) by
        obtain ⟨f', rfl⟩ : ∃ f', f = f' + 1 := ⟨f - 1, by have := HF.out; omega⟩
        rw [HCE.out, List.drop_eq_nil_of_le (by omega)]
        exact ⟨4, 0, k, ⟨#[]⟩, by simp; omega⟩)
      clear HCE hkb
      go_wp2
      all_goals
        have bf := (((HBK0.out.set 0 (.int .i64 4)).set 1 (.string ⟨#[]⟩)).set 2 (.int .i64 0)).set 3 (.int .i64 (k : Nat))
        have bfc := bf.cell
        refine bodyPost_ret (v := _) (by simp [results, Tryd.results39, go_sem, bfc]; rfl) rfl ?_
        exact ⟨_, rfl, HV.out, (bwTwo w _ _).trans HW.out |>.setCell (by simp) _ |>.setCell (by simp) _ |>.setCell (by simp) _ |>.setCell (by simp) _⟩

end Go.Proofs.YtdhkcdehedbpcaaDoor

set_option linter.unusedSimpArgs false
set_option linter.unusedVariables false
set_option maxRecDepth 20000
namespace Go.Proofs.YtdhkcdehedbpcaaDoor
open Go Go.RowKit

theorem rcut_bad {r : List Int} {e : Int} {off : Nat} (h : rcut r = .bad e off) : e = 6 ∨ e = 9 := by
  cases r with
  | nil => simp [rcut] at h; omega
  | cons c t =>
    cases hg : begn c
    · rw [rcut_no hg] at h
      cases h; exact .inl rfl
    · rw [rcut_eq hg] at h
      exact (Go.Proofs.YtdhkcdehedbpcaaDoor.cut_bad h).1

set_option maxRecDepth 100000 in
set_option maxHeartbeats 32000000 in
theorem rLex_any (v : Value) (b : List Int) (w : World) (h : By w v b) (hm : b.length ≤ 4000) :
    Calls Tryd.prog 20 #[v] w fun e w' => ∃ r, e = .returned (.tuple #[r, .int .i64 (lexA b).2.1, .int .i64 ((lexA b).2.2 : Nat)]) ∧ Tk w' w.heap.size r (lexA b).1 ∧ Bw w w' := by
  have HB := hid h
  obtain ⟨a, cap, rfl⟩ := h.form
  obtain ⟨i1, hi1, hz1, hs1, hy1⟩ := info_parts infoT
  have I1 := hid (And.intro hi1 (And.intro hz1 (And.intro hs1 hy1)))
  have e : lexA b = lexF (b.length + 1) b 0 [] := if_neg (by omega)
  generalize hR : lexA b = R at *
  have HE := hid e
  have hl' : decide ((65536 : Int) < (b.length : Int)) = false := decide_eq_false (by omega)
  clear h hi1 hz1 hs1 hy1 e hR
  go_enter Tryd.func20, Tryd.ntmps20
  go_wp2_with (first
    | (go_at_call 34; refine (rskip_any _ b 0 _ HB.out (by omega) (by omega)).mono ?_; rintro e w' ⟨p0, rfl, hsk, hw'⟩; subst w'; have HSK := hid hsk; clear hsk))
  go_loopw [5, 6] (fun l p wr => ∃ (f k : Nat) (acc : List ATok), p = .int .i64 (k : Nat) ∧ k ≤ b.length ∧ (b.drop k).length < f ∧ R = lexF f (b.drop k) k acc ∧ acc.length ≤ k ∧ (∀ h : k < b.length, isBl b[k] = false ∧ b[k] ≠ 35) ∧ Tk wr w.heap.size l acc ∧ Bw w wr) (fun _ p _ => b.length - (intOf p).toNat)
  case atStart =>
    obtain ⟨f2, hf2, hl2⟩ := HSK.out.1.2.2 [] (b.length + 1) (by simp)
    exact ⟨f2, p0, [], rfl, HSK.out.1.2.1, hf2, HE.out.trans (by simpa using hl2), by simp, HSK.out.2, World.ownsRow_nil _ _ _ _, Bw.refl _⟩
  case round =>
    obtain ⟨f, k, acc, rfl, hk, hf, hre, hacc, hbeg, htk, hbw⟩ := hrel
    obtain ⟨ax, cax, e⟩ := Tk.form htk
    subst e
    have HT := hid htk
    have HW := hid hbw
    have HRR := hid hre
    have HF := hid hf
    have HAC := hid (show acc.length ≤ 4000 ∧ acc.length ≤ k by omega)
    have hsz : w.heap.size ≤ wr.heap.size := hbw.size
    clear htk hbw hre hf HSK
    by_cases hlt : k < b.length
    · obtain ⟨g, o, cap', e, hcap, hg, hcs⟩ := (HB.out.bw HW.out).parts hlt
      cases e
      have HCS := hid hcs
      have hc := hcs k hlt
      have hkl : (k : Int) < (b.length : Int) := by omega
      have h4' : ((acc.length : Int) == 16384) = false := by simp; omega
      have hdr : b.drop k = b[k] :: b.drop (k + 1) := List.drop_eq_getElem_cons hlt
      obtain ⟨hb1, hb2⟩ := hbeg hlt
      have HSTP := hid (lex_step hlt hb1 hb2 acc (by omega) f HF.out)
      have hrc : rcut (b.drop k) = if isLt b[k] then cName (b.drop k) else if isDg b[k] then cNum (b.drop k) else if b[k] = 34 then cStr ((b.drop (k + 1)).length + 1) (b.drop (k + 1)) [] 1 else sgC (b.drop k) := by
        conv => lhs; rw [hdr]
        simp only [rcut]
        rw [← hdr]
      have HBA := hid ((HB.out.bw HW.out).bw (Bw.alloc (Bw.refl _) tk0))
      clear hcs hdr hb1 hb2 hbeg hacc
      generalize b[k] = c at hc hrc
      cases h1 : isLt c
      · cases h2 : isDg c
        · cases h3 : (c == 34)
          · have HRC := hid (show rcut (b.drop k) = sgC (b.drop k) by rw [hrc, if_neg (by simp [h1]), if_neg (by simp [h2]), if_neg (by simpa using h3)])
            clear hrc
            have HX := hid (rsign_any _ b k _ HBA.out hlt (by omega))
            cases hC : sgC (b.drop k) with
            | bad er off =>
              rw [hC] at HX HRC
              have hne := rcut_bad HRC.out
              have HFN := hid (HSTP.out.1 er off HRC.out)
              have hne' : (er != 0) = true := by simp; omega
              clear hC hne HSTP
              go_wp2_with (first
                | (go_at_call 36; refine (rdigit_any _ _).mono ?_; rintro e w' ⟨rfl, hw'⟩; subst w')
                | (go_at_call 35; refine (rletter_any _ _).mono ?_; rintro e w' ⟨rfl, hw'⟩; subst w')
                | (go_at_call 40; refine (HX.out).mono ?_; rintro e w1 ⟨r1, rfl, ⟨q1, q2, q3, qs, hr1⟩, hw1⟩; subst hr1; have HW1 := hid hw1; have B := (Blk.new wr #[.int .i64 0, .string ByteArray.empty, .int .i64 0, .int .i64 0] 70).bw hw1; have HBK := hid B; have k0 := B.cell 0; have k1 := B.cell 1; have k2 := B.cell 2; have k3 := B.cell 3; have kf := B.free; simp at k0 k1 k2 k3; clear hw1 B))
              all_goals go_ret3
              all_goals exact ⟨.slice none 0 0, by rw [HRR.out, HFN.out]; simp, by rw [HRR.out, HFN.out]; exact World.ownsRow_nil _ _ _ _, HW.out.trans ((((((Bw.alloc (Bw.refl wr) tk0).trans HW1.out).setCell (Nat.le_refl _) _).setCell (Nat.le_refl _) _).setCell (Nat.le_refl _) _).setCell (Nat.le_refl _) _)⟩
            | tok kd x n len =>
              rw [hC] at HX HRC
              obtain ⟨hl1, hl2', f', hf1, hf2'⟩ := HSTP.out.2 kd x n len HRC.out
              have HFN := hid (And.intro hf1 (HRR.out.trans hf2'))
              clear hC HSTP hf1 hf2'
              go_wp2_with (first
                | (go_at_call 36; refine (rdigit_any _ _).mono ?_; rintro e w' ⟨rfl, hw'⟩; subst w')
                | (go_at_call 35; refine (rletter_any _ _).mono ?_; rintro e w' ⟨rfl, hw'⟩; subst w')
                | (go_at_call 40; refine (HX.out).mono ?_; rintro e w1 ⟨r1, rfl, hr1, hw1⟩; have hr1 : r1 = _ := hr1; subst hr1; have HW1 := hid hw1; have B := (Blk.new wr #[.int .i64 0, .string ByteArray.empty, .int .i64 0, .int .i64 0] 70).bw hw1; have HBK := hid B; have k0 := B.cell 0; have k1 := B.cell 1; have k2 := B.cell 2; have k3 := B.cell 3; have kf := B.free; simp at k0 k1 k2 k3; clear hw1 B)
                | (at_builtin; refine wpList_append_own _ rfl _ _ 63 rfl w.heap.size 70 i1 _ 4 40 underT I1.out.1 I1.out.2.1 I1.out.2.2.1 I1.out.2.2.2 rfl (by decide) (.slice ax acc.length cax) acc.length (acc.flatMap tkV) rfl ?aa0 _ 1 1 (tkV (kd, x, n, (k : Int))) rfl rfl ?aa1 ?aa2 ?aa3 ?aa4 ?aa5 ?_)
                | go_in)
              try case aa0 => exact HT.out.bw (Bw.alloc ((((((Bw.alloc (Bw.refl wr) tk0).trans HW1.out).setCell (Nat.le_refl _) _).setCell (Nat.le_refl _) _).setCell (Nat.le_refl _) _).setCell (Nat.le_refl _) _) _)
              try case aa1 =>
                intro j u hj
                match j, hj with
                | 0, hj => simp [tkV] at hj; subst hj; simp [Addr.add, go_sem]
                | 1, hj => simp [tkV] at hj; subst hj; simp [Addr.add, go_sem]
                | 2, hj => simp [tkV] at hj; subst hj; simp [Addr.add, go_sem]
                | 3, hj => simp [tkV] at hj; subst hj; simp [Addr.add, go_sem]
                | j + 4, hj => simp [tkV] at hj
              try case aa2 => intro u hu; simp [tkV] at hu; rcases hu with rfl | rfl | rfl | rfl <;> rfl
              try case aa3 => have := HAC.out; unfold maxLen; omega
              try case aa4 => have := HAC.out; omega
              try case aa5 => have := HW1.out.size; simp at this ⊢; omega
              intro v' w2 hown hgr _
              obtain ⟨av', cv', e⟩ := own_form hown
              subst e
              have hb2 : Bw w w2 := by
                refine bw_grown (e := 70) (size := 4) (n := acc.length) (xs := acc.flatMap tkV) ?_ (Nat.le_refl _) ?_ hgr
                · exact HW.out.trans (Bw.alloc ((((((Bw.alloc (Bw.refl wr) tk0).trans HW1.out).setCell (Nat.le_refl _) _).setCell (Nat.le_refl _) _).setCell (Nat.le_refl _) _).setCell (Nat.le_refl _) _) _)
                · exact HT.out.bw (Bw.alloc ((((((Bw.alloc (Bw.refl wr) tk0).trans HW1.out).setCell (Nat.le_refl _) _).setCell (Nat.le_refl _) _).setCell (Nat.le_refl _) _).setCell (Nat.le_refl _) _) _)
              have HB2 := hid hb2
              rw [tk_snoc] at hown
              have HO1 := hid hown
              clear hgr hown hb2
              go_wp2_with (first
                | (go_at_call 34; refine (rskip_any _ b (k + len) _ (HB.out.bw HB2.out) (by omega) (by omega)).mono ?_; rintro e w' ⟨p, rfl, hsk, hw'⟩; subst w'; have HSK := hid hsk; clear hsk))
              obtain ⟨f2, hf2, hl2⟩ := HSK.out.1.2.2 (acc ++ [(kd, x, n, (k : Int))]) f' (by exact HFN.out.1)
              have hp1 := HSK.out.1.1
              go_roundw
              case rel => exact ⟨f2, p, acc ++ [(kd, x, n, (k : Int))], rfl, HSK.out.1.2.1, hf2, HFN.out.2.trans hl2, by have := HAC.out; simp; omega, HSK.out.2, by simpa [Tk] using HO1.out, HB2.out⟩
              case measure => simp [intOf]; omega
          · have HRC := hid (show rcut (b.drop k) = cStr ((b.drop (k + 1)).length + 1) (b.drop (k + 1)) [] 1 by rw [hrc, if_neg (by simp [h1]), if_neg (by simp [h2]), if_pos (by simpa using h3)])
            clear hrc
            have HX := hid (rtext_any _ b k _ HBA.out hlt (by omega) _ rfl)
            cases hC : cStr ((b.drop (k + 1)).length + 1) (b.drop (k + 1)) [] 1 with
            | bad er off =>
              rw [hC] at HX HRC
              have hne := rcut_bad HRC.out
              have HFN := hid (HSTP.out.1 er off HRC.out)
              have hne' : (er != 0) = true := by simp; omega
              clear hC hne HSTP
              go_wp2_with (first
                | (go_at_call 36; refine (rdigit_any _ _).mono ?_; rintro e w' ⟨rfl, hw'⟩; subst w')
                | (go_at_call 35; refine (rletter_any _ _).mono ?_; rintro e w' ⟨rfl, hw'⟩; subst w')
                | (go_at_call 39; refine (HX.out).mono ?_; rintro e w1 ⟨r1, rfl, ⟨q1, q2, q3, qs, hr1⟩, hw1⟩; subst hr1; have HW1 := hid hw1; have B := (Blk.new wr #[.int .i64 0, .string ByteArray.empty, .int .i64 0, .int .i64 0] 70).bw hw1; have HBK := hid B; have k0 := B.cell 0; have k1 := B.cell 1; have k2 := B.cell 2; have k3 := B.cell 3; have kf := B.free; simp at k0 k1 k2 k3; clear hw1 B))
              all_goals go_ret3
              all_goals exact ⟨.slice none 0 0, by rw [HRR.out, HFN.out]; simp, by rw [HRR.out, HFN.out]; exact World.ownsRow_nil _ _ _ _, HW.out.trans ((((((Bw.alloc (Bw.refl wr) tk0).trans HW1.out).setCell (Nat.le_refl _) _).setCell (Nat.le_refl _) _).setCell (Nat.le_refl _) _).setCell (Nat.le_refl _) _)⟩
            | tok kd x n len =>
              rw [hC] at HX HRC
              obtain ⟨hl1, hl2', f', hf1, hf2'⟩ := HSTP.out.2 kd x n len HRC.out
              have HFN := hid (And.intro hf1 (HRR.out.trans hf2'))
              clear hC HSTP hf1 hf2'
              go_wp2_with (first
                | (go_at_call 36; refine (rdigit_any _ _).mono ?_; rintro e w' ⟨rfl, hw'⟩; subst w')
                | (go_at_call 35; refine (rletter_any _ _).mono ?_; rintro e w' ⟨rfl, hw'⟩; subst w')
                | (go_at_call 39; refine (HX.out).mono ?_; rintro e w1 ⟨r1, rfl, hr1, hw1⟩; have hr1 : r1 = _ := hr1; subst hr1; have HW1 := hid hw1; have B := (Blk.new wr #[.int .i64 0, .string ByteArray.empty, .int .i64 0, .int .i64 0] 70).bw hw1; have HBK := hid B; have k0 := B.cell 0; have k1 := B.cell 1; have k2 := B.cell 2; have k3 := B.cell 3; have kf := B.free; simp at k0 k1 k2 k3; clear hw1 B)
                | (at_builtin; refine wpList_append_own _ rfl _ _ 63 rfl w.heap.size 70 i1 _ 4 40 underT I1.out.1 I1.out.2.1 I1.out.2.2.1 I1.out.2.2.2 rfl (by decide) (.slice ax acc.length cax) acc.length (acc.flatMap tkV) rfl ?bb0 _ 1 1 (tkV (kd, x, n, (k : Int))) rfl rfl ?bb1 ?bb2 ?bb3 ?bb4 ?bb5 ?_)
                | go_in)
              try case bb0 => exact HT.out.bw (Bw.alloc ((((((Bw.alloc (Bw.refl wr) tk0).trans HW1.out).setCell (Nat.le_refl _) _).setCell (Nat.le_refl _) _).setCell (Nat.le_refl _) _).setCell (Nat.le_refl _) _) _)
              try case bb1 =>
                intro j u hj
                match j, hj with
                | 0, hj => simp [tkV] at hj; subst hj; simp [Addr.add, go_sem]
                | 1, hj => simp [tkV] at hj; subst hj; simp [Addr.add, go_sem]
                | 2, hj => simp [tkV] at hj; subst hj; simp [Addr.add, go_sem]
                | 3, hj => simp [tkV] at hj; subst hj; simp [Addr.add, go_sem]
                | j + 4, hj => simp [tkV] at hj
              try case bb2 => intro u hu; simp [tkV] at hu; rcases hu with rfl | rfl | rfl | rfl <;> rfl
              try case bb3 => have := HAC.out; unfold maxLen; omega
              try case bb4 => have := HAC.out; omega
              try case bb5 => have := HW1.out.size; simp at this ⊢; omega
              intro v' w2 hown hgr _
              obtain ⟨av', cv', e⟩ := own_form hown
              subst e
              have hb2 : Bw w w2 := by
                refine bw_grown (e := 70) (size := 4) (n := acc.length) (xs := acc.flatMap tkV) ?_ (Nat.le_refl _) ?_ hgr
                · exact HW.out.trans (Bw.alloc ((((((Bw.alloc (Bw.refl wr) tk0).trans HW1.out).setCell (Nat.le_refl _) _).setCell (Nat.le_refl _) _).setCell (Nat.le_refl _) _).setCell (Nat.le_refl _) _) _)
                · exact HT.out.bw (Bw.alloc ((((((Bw.alloc (Bw.refl wr) tk0).trans HW1.out).setCell (Nat.le_refl _) _).setCell (Nat.le_refl _) _).setCell (Nat.le_refl _) _).setCell (Nat.le_refl _) _) _)
              have HB2 := hid hb2
              rw [tk_snoc] at hown
              have HO1 := hid hown
              clear hgr hown hb2
              go_wp2_with (first
                | (go_at_call 34; refine (rskip_any _ b (k + len) _ (HB.out.bw HB2.out) (by omega) (by omega)).mono ?_; rintro e w' ⟨p, rfl, hsk, hw'⟩; subst w'; have HSK := hid hsk; clear hsk))
              obtain ⟨f2, hf2, hl2⟩ := HSK.out.1.2.2 (acc ++ [(kd, x, n, (k : Int))]) f' (by exact HFN.out.1)
              have hp1 := HSK.out.1.1
              go_roundw
              case rel => exact ⟨f2, p, acc ++ [(kd, x, n, (k : Int))], rfl, HSK.out.1.2.1, hf2, HFN.out.2.trans hl2, by have := HAC.out; simp; omega, HSK.out.2, by simpa [Tk] using HO1.out, HB2.out⟩
              case measure => simp [intOf]; omega
        · have HRC := hid (show rcut (b.drop k) = cNum (b.drop k) by rw [hrc, if_neg (by simp [h1]), if_pos h2])
          clear hrc
          have HX := hid (rnumber_any _ b k _ HBA.out hlt (by omega))
          cases hC : cNum (b.drop k) with
          | bad er off =>
            rw [hC] at HX HRC
            have hne := rcut_bad HRC.out
            have HFN := hid (HSTP.out.1 er off HRC.out)
            have hne' : (er != 0) = true := by simp; omega
            clear hC hne HSTP
            go_wp2_with (first
              | (go_at_call 36; refine (rdigit_any _ _).mono ?_; rintro e w' ⟨rfl, hw'⟩; subst w')
              | (go_at_call 35; refine (rletter_any _ _).mono ?_; rintro e w' ⟨rfl, hw'⟩; subst w')
              | (go_at_call 38; refine (HX.out).mono ?_; rintro e w1 ⟨r1, rfl, ⟨q1, q2, q3, qs, hr1⟩, hw1⟩; subst hr1; have HW1 := hid hw1; have B := (Blk.new wr #[.int .i64 0, .string ByteArray.empty, .int .i64 0, .int .i64 0] 70).bw hw1; have HBK := hid B; have k0 := B.cell 0; have k1 := B.cell 1; have k2 := B.cell 2; have k3 := B.cell 3; have kf := B.free; simp at k0 k1 k2 k3; clear hw1 B))
            all_goals go_ret3
            all_goals exact ⟨.slice none 0 0, by rw [HRR.out, HFN.out]; simp, by rw [HRR.out, HFN.out]; exact World.ownsRow_nil _ _ _ _, HW.out.trans ((((((Bw.alloc (Bw.refl wr) tk0).trans HW1.out).setCell (Nat.le_refl _) _).setCell (Nat.le_refl _) _).setCell (Nat.le_refl _) _).setCell (Nat.le_refl _) _)⟩
          | tok kd x n len =>
            rw [hC] at HX HRC
            obtain ⟨hl1, hl2', f', hf1, hf2'⟩ := HSTP.out.2 kd x n len HRC.out
            have HFN := hid (And.intro hf1 (HRR.out.trans hf2'))
            clear hC HSTP hf1 hf2'
            go_wp2_with (first
              | (go_at_call 36; refine (rdigit_any _ _).mono ?_; rintro e w' ⟨rfl, hw'⟩; subst w')
              | (go_at_call 35; refine (rletter_any _ _).mono ?_; rintro e w' ⟨rfl, hw'⟩; subst w')
              | (go_at_call 38; refine (HX.out).mono ?_; rintro e w1 ⟨r1, rfl, hr1, hw1⟩; have hr1 : r1 = _ := hr1; subst hr1; have HW1 := hid hw1; have B := (Blk.new wr #[.int .i64 0, .string ByteArray.empty, .int .i64 0, .int .i64 0] 70).bw hw1; have HBK := hid B; have k0 := B.cell 0; have k1 := B.cell 1; have k2 := B.cell 2; have k3 := B.cell 3; have kf := B.free; simp at k0 k1 k2 k3; clear hw1 B)
              | (at_builtin; refine wpList_append_own _ rfl _ _ 63 rfl w.heap.size 70 i1 _ 4 40 underT I1.out.1 I1.out.2.1 I1.out.2.2.1 I1.out.2.2.2 rfl (by decide) (.slice ax acc.length cax) acc.length (acc.flatMap tkV) rfl ?cc0 _ 1 1 (tkV (kd, x, n, (k : Int))) rfl rfl ?cc1 ?cc2 ?cc3 ?cc4 ?cc5 ?_)
              | go_in)
            try case cc0 => exact HT.out.bw (Bw.alloc ((((((Bw.alloc (Bw.refl wr) tk0).trans HW1.out).setCell (Nat.le_refl _) _).setCell (Nat.le_refl _) _).setCell (Nat.le_refl _) _).setCell (Nat.le_refl _) _) _)
            try case cc1 =>
              intro j u hj
              match j, hj with
              | 0, hj => simp [tkV] at hj; subst hj; simp [Addr.add, go_sem]
              | 1, hj => simp [tkV] at hj; subst hj; simp [Addr.add, go_sem]
              | 2, hj => simp [tkV] at hj; subst hj; simp [Addr.add, go_sem]
              | 3, hj => simp [tkV] at hj; subst hj; simp [Addr.add, go_sem]
              | j + 4, hj => simp [tkV] at hj
            try case cc2 => intro u hu; simp [tkV] at hu; rcases hu with rfl | rfl | rfl | rfl <;> rfl
            try case cc3 => have := HAC.out; unfold maxLen; omega
            try case cc4 => have := HAC.out; omega
            try case cc5 => have := HW1.out.size; simp at this ⊢; omega
            intro v' w2 hown hgr _
            obtain ⟨av', cv', e⟩ := own_form hown
            subst e
            have hb2 : Bw w w2 := by
              refine bw_grown (e := 70) (size := 4) (n := acc.length) (xs := acc.flatMap tkV) ?_ (Nat.le_refl _) ?_ hgr
              · exact HW.out.trans (Bw.alloc ((((((Bw.alloc (Bw.refl wr) tk0).trans HW1.out).setCell (Nat.le_refl _) _).setCell (Nat.le_refl _) _).setCell (Nat.le_refl _) _).setCell (Nat.le_refl _) _) _)
              · exact HT.out.bw (Bw.alloc ((((((Bw.alloc (Bw.refl wr) tk0).trans HW1.out).setCell (Nat.le_refl _) _).setCell (Nat.le_refl _) _).setCell (Nat.le_refl _) _).setCell (Nat.le_refl _) _) _)
            have HB2 := hid hb2
            rw [tk_snoc] at hown
            have HO1 := hid hown
            clear hgr hown hb2
            go_wp2_with (first
              | (go_at_call 34; refine (rskip_any _ b (k + len) _ (HB.out.bw HB2.out) (by omega) (by omega)).mono ?_; rintro e w' ⟨p, rfl, hsk, hw'⟩; subst w'; have HSK := hid hsk; clear hsk))
            obtain ⟨f2, hf2, hl2⟩ := HSK.out.1.2.2 (acc ++ [(kd, x, n, (k : Int))]) f' (by exact HFN.out.1)
            have hp1 := HSK.out.1.1
            go_roundw
            case rel => exact ⟨f2, p, acc ++ [(kd, x, n, (k : Int))], rfl, HSK.out.1.2.1, hf2, HFN.out.2.trans hl2, by have := HAC.out; simp; omega, HSK.out.2, by simpa [Tk] using HO1.out, HB2.out⟩
            case measure => simp [intOf]; omega
      · have HRC := hid (show rcut (b.drop k) = cName (b.drop k) by rw [hrc, if_pos h1])
        clear hrc
        obtain ⟨hl1, hl2', f', hf1, hf2'⟩ := HSTP.out.2 _ _ _ _ (HRC.out.trans rfl)
        have HFN := hid (And.intro hf1 (HRR.out.trans hf2'))
        have hwb : ∀ c ∈ (b.drop k).takeWhile isNm, 0 ≤ c ∧ c ≤ 255 := fun c hc => HB.out.2.1 c (List.mem_of_mem_drop ((List.takeWhile_sublist _).subset hc))
        have WD := hid (rWord_any _ hwb)
        have HTW := hid (takeWhile_twl isNm (b.drop k))
        have hck : ¬ cap = k := by omega
        clear HSTP hf1 hf2' hwb HRC
        go_wp2_with (first
          | (go_at_call 36; refine (rdigit_any _ _).mono ?_; rintro e w' ⟨rfl, hw'⟩; subst w')
          | (go_at_call 35; refine (rletter_any _ _).mono ?_; rintro e w' ⟨rfl, hw'⟩; subst w'))
        rename World => wo
        go_loopw [8] (fun j wi => ∃ m, j = .int .i64 ((k + m : Nat) : Int) ∧ m ≤ twl isNm (b.drop k) ∧ wi = wo.alloc tk0) (fun j _ => b.length - (intOf j).toNat)
        case atStart => exact ⟨0, by simp, Nat.zero_le _, rfl⟩
        case round =>
          obtain ⟨m, rfl, hm1, hwr⟩ := hrel
          subst hwr
          have hle := twl_le isNm (b.drop k)
          rw [List.length_drop] at hle
          have key : (twl isNm (b.drop k) = m ∧ ∀ hlt : k + m < b.length, isNm b[k + m] = false) ∨ ∃ hlt : k + m < b.length, isNm b[k + m] = true ∧ m + 1 ≤ twl isNm (b.drop k) := by
            by_cases hlt : k + m < b.length
            · have hml : m < (b.drop k).length := by rw [List.length_drop]; omega
              have hge : (b.drop k)[m] = b[k + m] := by simp
              cases hp : isNm b[k + m]
              · exact .inl ⟨twl_no hm1 hml (by rw [hge]; exact hp), fun _ => hp⟩
              · exact .inr ⟨hlt, hp, twl_go hm1 hml (by rw [hge]; exact hp)⟩
            · exact .inl ⟨twl_end hm1 (by rw [List.length_drop]; omega), fun h => absurd h hlt⟩
          rcases key with ⟨hfin, hno⟩ | ⟨hlt', hp, hg1⟩
          · have hkm : k + m ≤ b.length := by omega
            have hconv := HBA.out.conv k m (cap - k) (by omega)
            rw [← hfin, ← HTW.out, hfin] at hconv
            have hm1' : 1 ≤ m := by rw [← hfin]; exact hl1
            have hcase : (∃ c', wo.cell? ⟨g, o + (k + m), none⟩ = some (.int .u8 c') ∧ isLt c' = false ∧ isDg c' = false ∧ ((k + m : Nat) : Int) < (b.length : Int)) ∨ ¬ k + m < b.length := by
              by_cases hlt' : k + m < b.length
              · have hn := hno hlt'
                simp [isNm] at hn
                exact .inl ⟨_, HCS.out _ hlt', hn.1, hn.2, by omega⟩
              · exact .inr hlt'
            rw [hfin] at HFN
            clear hno hm1 hle hfin HTW
            cases hwd : isWord ((b.drop k).takeWhile isNm)
            · rw [hwd] at HFN WD
              have HFM := hid (show (b.drop (k + m)).length < f' ∧ R = lexF f' (b.drop (k + m)) (k + m) (acc ++ [(1, (b.drop k).takeWhile isNm, 0, (k : Int))]) by simpa using HFN.out)
              clear HFN hwd
              rcases hcase with ⟨c', hc', hlc, hdc, hlt3⟩ | hlt3
              · go_wp2_with (first
                  | (go_at_call 36; refine (rdigit_any _ _).mono ?_; rintro e w' ⟨rfl, hw'⟩; subst w')
                  | (go_at_call 35; refine (rletter_any _ _).mono ?_; rintro e w' ⟨rfl, hw'⟩; subst w')
                  | (go_at_call 37; refine (WD.out _).mono ?_; rintro e w' ⟨rfl, os, ns, rfl⟩)
                  | (at_builtin; refine wpList_append_own _ rfl _ _ 63 rfl w.heap.size 70 i1 _ 4 40 underT I1.out.1 I1.out.2.1 I1.out.2.2.1 I1.out.2.2.2 rfl (by decide) (.slice ax acc.length cax) acc.length (acc.flatMap tkV) rfl ?p0x0 _ 1 1 (tkV (1, (b.drop k).takeWhile isNm, 0, (k : Int))) rfl rfl ?p0x1 ?p0x2 ?p0x3 ?p0x4 ?p0x5 ?_)
                  | go_in)
                try case p0x0 => exact HT.out.bw (Bw.alloc (Bw.lay (Bw.alloc (Bw.refl wo) _) os ns) _)
                try case p0x1 =>
                  intro j u hj
                  match j, hj with
                  | 0, hj => simp [tkV] at hj; subst hj; simp [Addr.add, go_sem]
                  | 1, hj => simp [tkV] at hj; subst hj; simp [Addr.add, go_sem]
                  | 2, hj => simp [tkV] at hj; subst hj; simp [Addr.add, go_sem]
                  | 3, hj => simp [tkV] at hj; subst hj; simp [Addr.add, go_sem]
                  | j + 4, hj => simp [tkV] at hj
                try case p0x2 => intro u hu; simp [tkV] at hu; rcases hu with rfl | rfl | rfl | rfl <;> rfl
                try case p0x3 => have := HAC.out; unfold maxLen; omega
                try case p0x4 => have := HAC.out; omega
                try case p0x5 => first | omega | (simp; omega)
                intro v' w2 hown hgr _
                obtain ⟨av', cv', e⟩ := own_form hown
                subst e
                have hb2 : Bw w w2 := by
                  refine bw_grown (e := 70) (size := 4) (n := acc.length) (xs := acc.flatMap tkV) ?_ (Nat.le_refl _) ?_ hgr
                  · exact HW.out.trans (Bw.alloc (Bw.lay (Bw.alloc (Bw.refl wo) _) os ns) _)
                  · exact HT.out.bw (Bw.alloc (Bw.lay (Bw.alloc (Bw.refl wo) _) os ns) _)
                have HB2 := hid hb2
                rw [tk_snoc] at hown
                have HO1 := hid hown
                clear hgr hown hb2
                go_wp2_with (first
                  | (go_at_call 34; refine (rskip_any _ b (k + m) _ (HB.out.bw HB2.out) (by omega) (by omega)).mono ?_; rintro e w' ⟨p, rfl, hsk, hw'⟩; subst w'; have HSK := hid hsk; clear hsk))
                obtain ⟨f2, hf2, hl2⟩ := HSK.out.1.2.2 (acc ++ [(1, (b.drop k).takeWhile isNm, 0, (k : Int))]) f' (by exact HFM.out.1)
                have hp1 := HSK.out.1.1
                go_roundw
                case rel => exact ⟨f2, p, acc ++ [(1, (b.drop k).takeWhile isNm, 0, (k : Int))], rfl, HSK.out.1.2.1, hf2, HFM.out.2.trans hl2, by have := HAC.out; simp; omega, HSK.out.2, by simpa [Tk] using HO1.out, HB2.out⟩
                case measure => simp [intOf]; omega
              · go_wp2_with (first
                  | (go_at_call 36; refine (rdigit_any _ _).mono ?_; rintro e w' ⟨rfl, hw'⟩; subst w')
                  | (go_at_call 35; refine (rletter_any _ _).mono ?_; rintro e w' ⟨rfl, hw'⟩; subst w')
                  | (go_at_call 37; refine (WD.out _).mono ?_; rintro e w' ⟨rfl, os, ns, rfl⟩)
                  | (at_builtin; refine wpList_append_own _ rfl _ _ 63 rfl w.heap.size 70 i1 _ 4 40 underT I1.out.1 I1.out.2.1 I1.out.2.2.1 I1.out.2.2.2 rfl (by decide) (.slice ax acc.length cax) acc.length (acc.flatMap tkV) rfl ?q0x0 _ 1 1 (tkV (1, (b.drop k).takeWhile isNm, 0, (k : Int))) rfl rfl ?q0x1 ?q0x2 ?q0x3 ?q0x4 ?q0x5 ?_)
                  | go_in)
                try case q0x0 => exact HT.out.bw (Bw.alloc (Bw.lay (Bw.alloc (Bw.refl wo) _) os ns) _)
                try case q0x1 =>
                  intro j u hj
                  match j, hj with
                  | 0, hj => simp [tkV] at hj; subst hj; simp [Addr.add, go_sem]
                  | 1, hj => simp [tkV] at hj; subst hj; simp [Addr.add, go_sem]
                  | 2, hj => simp [tkV] at hj; subst hj; simp [Addr.add, go_sem]
                  | 3, hj => simp [tkV] at hj; subst hj; simp [Addr.add, go_sem]
                  | j + 4, hj => simp [tkV] at hj
                try case q0x2 => intro u hu; simp [tkV] at hu; rcases hu with rfl | rfl | rfl | rfl <;> rfl
                try case q0x3 => have := HAC.out; unfold maxLen; omega
                try case q0x4 => have := HAC.out; omega
                try case q0x5 => first | omega | (simp; omega)
                intro v' w2 hown hgr _
                obtain ⟨av', cv', e⟩ := own_form hown
                subst e
                have hb2 : Bw w w2 := by
                  refine bw_grown (e := 70) (size := 4) (n := acc.length) (xs := acc.flatMap tkV) ?_ (Nat.le_refl _) ?_ hgr
                  · exact HW.out.trans (Bw.alloc (Bw.lay (Bw.alloc (Bw.refl wo) _) os ns) _)
                  · exact HT.out.bw (Bw.alloc (Bw.lay (Bw.alloc (Bw.refl wo) _) os ns) _)
                have HB2 := hid hb2
                rw [tk_snoc] at hown
                have HO1 := hid hown
                clear hgr hown hb2
                go_wp2_with (first
                  | (go_at_call 34; refine (rskip_any _ b (k + m) _ (HB.out.bw HB2.out) (by omega) (by omega)).mono ?_; rintro e w' ⟨p, rfl, hsk, hw'⟩; subst w'; have HSK := hid hsk; clear hsk))
                obtain ⟨f2, hf2, hl2⟩ := HSK.out.1.2.2 (acc ++ [(1, (b.drop k).takeWhile isNm, 0, (k : Int))]) f' (by exact HFM.out.1)
                have hp1 := HSK.out.1.1
                go_roundw
                case rel => exact ⟨f2, p, acc ++ [(1, (b.drop k).takeWhile isNm, 0, (k : Int))], rfl, HSK.out.1.2.1, hf2, HFM.out.2.trans hl2, by have := HAC.out; simp; omega, HSK.out.2, by simpa [Tk] using HO1.out, HB2.out⟩
                case measure => simp [intOf]; omega
            · rw [hwd] at HFN WD
              have HFM := hid (show (b.drop (k + m)).length < f' ∧ R = lexF f' (b.drop (k + m)) (k + m) (acc ++ [(2, (b.drop k).takeWhile isNm, 0, (k : Int))]) by simpa using HFN.out)
              clear HFN hwd
              rcases hcase with ⟨c', hc', hlc, hdc, hlt3⟩ | hlt3
              · go_wp2_with (first
                  | (go_at_call 36; refine (rdigit_any _ _).mono ?_; rintro e w' ⟨rfl, hw'⟩; subst w')
                  | (go_at_call 35; refine (rletter_any _ _).mono ?_; rintro e w' ⟨rfl, hw'⟩; subst w')
                  | (go_at_call 37; refine (WD.out _).mono ?_; rintro e w' ⟨rfl, os, ns, rfl⟩)
                  | (at_builtin; refine wpList_append_own _ rfl _ _ 63 rfl w.heap.size 70 i1 _ 4 40 underT I1.out.1 I1.out.2.1 I1.out.2.2.1 I1.out.2.2.2 rfl (by decide) (.slice ax acc.length cax) acc.length (acc.flatMap tkV) rfl ?p1x0 _ 1 1 (tkV (2, (b.drop k).takeWhile isNm, 0, (k : Int))) rfl rfl ?p1x1 ?p1x2 ?p1x3 ?p1x4 ?p1x5 ?_)
                  | go_in)
                try case p1x0 => exact HT.out.bw (Bw.alloc (Bw.lay (Bw.alloc (Bw.refl wo) _) os ns) _)
                try case p1x1 =>
                  intro j u hj
                  match j, hj with
                  | 0, hj => simp [tkV] at hj; subst hj; simp [Addr.add, go_sem]
                  | 1, hj => simp [tkV] at hj; subst hj; simp [Addr.add, go_sem]
                  | 2, hj => simp [tkV] at hj; subst hj; simp [Addr.add, go_sem]
                  | 3, hj => simp [tkV] at hj; subst hj; simp [Addr.add, go_sem]
                  | j + 4, hj => simp [tkV] at hj
                try case p1x2 => intro u hu; simp [tkV] at hu; rcases hu with rfl | rfl | rfl | rfl <;> rfl
                try case p1x3 => have := HAC.out; unfold maxLen; omega
                try case p1x4 => have := HAC.out; omega
                try case p1x5 => first | omega | (simp; omega)
                intro v' w2 hown hgr _
                obtain ⟨av', cv', e⟩ := own_form hown
                subst e
                have hb2 : Bw w w2 := by
                  refine bw_grown (e := 70) (size := 4) (n := acc.length) (xs := acc.flatMap tkV) ?_ (Nat.le_refl _) ?_ hgr
                  · exact HW.out.trans (Bw.alloc (Bw.lay (Bw.alloc (Bw.refl wo) _) os ns) _)
                  · exact HT.out.bw (Bw.alloc (Bw.lay (Bw.alloc (Bw.refl wo) _) os ns) _)
                have HB2 := hid hb2
                rw [tk_snoc] at hown
                have HO1 := hid hown
                clear hgr hown hb2
                go_wp2_with (first
                  | (go_at_call 34; refine (rskip_any _ b (k + m) _ (HB.out.bw HB2.out) (by omega) (by omega)).mono ?_; rintro e w' ⟨p, rfl, hsk, hw'⟩; subst w'; have HSK := hid hsk; clear hsk))
                obtain ⟨f2, hf2, hl2⟩ := HSK.out.1.2.2 (acc ++ [(2, (b.drop k).takeWhile isNm, 0, (k : Int))]) f' (by exact HFM.out.1)
                have hp1 := HSK.out.1.1
                go_roundw
                case rel => exact ⟨f2, p, acc ++ [(2, (b.drop k).takeWhile isNm, 0, (k : Int))], rfl, HSK.out.1.2.1, hf2, HFM.out.2.trans hl2, by have := HAC.out; simp; omega, HSK.out.2, by simpa [Tk] using HO1.out, HB2.out⟩
                case measure => simp [intOf]; omega
              · go_wp2_with (first
                  | (go_at_call 36; refine (rdigit_any _ _).mono ?_; rintro e w' ⟨rfl, hw'⟩; subst w')
                  | (go_at_call 35; refine (rletter_any _ _).mono ?_; rintro e w' ⟨rfl, hw'⟩; subst w')
                  | (go_at_call 37; refine (WD.out _).mono ?_; rintro e w' ⟨rfl, os, ns, rfl⟩)
                  | (at_builtin; refine wpList_append_own _ rfl _ _ 63 rfl w.heap.size 70 i1 _ 4 40 underT I1.out.1 I1.out.2.1 I1.out.2.2.1 I1.out.2.2.2 rfl (by decide) (.slice ax acc.length cax) acc.length (acc.flatMap tkV) rfl ?q1x0 _ 1 1 (tkV (2, (b.drop k).takeWhile isNm, 0, (k : Int))) rfl rfl ?q1x1 ?q1x2 ?q1x3 ?q1x4 ?q1x5 ?_)
                  | go_in)
                try case q1x0 => exact HT.out.bw (Bw.alloc (Bw.lay (Bw.alloc (Bw.refl wo) _) os ns) _)
                try case q1x1 =>
                  intro j u hj
                  match j, hj with
                  | 0, hj => simp [tkV] at hj; subst hj; simp [Addr.add, go_sem]
                  | 1, hj => simp [tkV] at hj; subst hj; simp [Addr.add, go_sem]
                  | 2, hj => simp [tkV] at hj; subst hj; simp [Addr.add, go_sem]
                  | 3, hj => simp [tkV] at hj; subst hj; simp [Addr.add, go_sem]
                  | j + 4, hj => simp [tkV] at hj
                try case q1x2 => intro u hu; simp [tkV] at hu; rcases hu with rfl | rfl | rfl | rfl <;> rfl
                try case q1x3 => have := HAC.out; unfold maxLen; omega
                try case q1x4 => have := HAC.out; omega
                try case q1x5 => first | omega | (simp; omega)
                intro v' w2 hown hgr _
                obtain ⟨av', cv', e⟩ := own_form hown
                subst e
                have hb2 : Bw w w2 := by
                  refine bw_grown (e := 70) (size := 4) (n := acc.length) (xs := acc.flatMap tkV) ?_ (Nat.le_refl _) ?_ hgr
                  · exact HW.out.trans (Bw.alloc (Bw.lay (Bw.alloc (Bw.refl wo) _) os ns) _)
                  · exact HT.out.bw (Bw.alloc (Bw.lay (Bw.alloc (Bw.refl wo) _) os ns) _)
                have HB2 := hid hb2
                rw [tk_snoc] at hown
                have HO1 := hid hown
                clear hgr hown hb2
                go_wp2_with (first
                  | (go_at_call 34; refine (rskip_any _ b (k + m) _ (HB.out.bw HB2.out) (by omega) (by omega)).mono ?_; rintro e w' ⟨p, rfl, hsk, hw'⟩; subst w'; have HSK := hid hsk; clear hsk))
                obtain ⟨f2, hf2, hl2⟩ := HSK.out.1.2.2 (acc ++ [(2, (b.drop k).takeWhile isNm, 0, (k : Int))]) f' (by exact HFM.out.1)
                have hp1 := HSK.out.1.1
                go_roundw
                case rel => exact ⟨f2, p, acc ++ [(2, (b.drop k).takeWhile isNm, 0, (k : Int))], rfl, HSK.out.1.2.1, hf2, HFM.out.2.trans hl2, by have := HAC.out; simp; omega, HSK.out.2, by simpa [Tk] using HO1.out, HB2.out⟩
                case measure => simp [intOf]; omega
          · have hc' := HCS.out _ hlt'
            have hlt3 : ((k + m : Nat) : Int) < (b.length : Int) := by omega
            have HG1 := hid hg1
            have HPP := hid hp
            clear hm1 hle hg1 hp
            generalize b[k + m] = c' at hc' HPP
            cases hlc : isLt c' <;> cases hdc : isDg c'
            · have := HPP.out
              simp [isNm, hlc, hdc] at this
            all_goals
              go_wp2_with (first
                | (go_at_call 36; refine (rdigit_any _ _).mono ?_; rintro e w' ⟨rfl, hw'⟩; subst w')
                | (go_at_call 35; refine (rletter_any _ _).mono ?_; rintro e w' ⟨rfl, hw'⟩; subst w'))
              go_roundw
              case rel => exact ⟨m + 1, by go_num, HG1.out, trivial⟩
              case measure => simp [intOf]; omega
    · obtain rfl : k = b.length := by omega
      obtain ⟨f', rfl⟩ : ∃ f', f = f' + 1 := ⟨f - 1, by have := HF.out; omega⟩
      have hf : R = (acc ++ [(0, [], 0, (b.length : Int))], 0, b.length) := by rw [HRR.out, List.drop_length, lexF_nil]
      have HFN := hid hf
      clear hf
      go_wp2_with (first
        | (at_builtin; refine wpList_append_own _ rfl _ _ 63 rfl w.heap.size 70 i1 _ 4 40 underT I1.out.1 I1.out.2.1 I1.out.2.2.1 I1.out.2.2.2 rfl (by decide) (.slice ax acc.length cax) acc.length (acc.flatMap tkV) rfl ?ff0 _ 1 1 (tkV (0, [], 0, (b.length : Int))) rfl rfl ?ff1 ?ff2 ?ff3 ?ff4 ?ff5 ?_)
        | go_in)
      try case ff0 => exact HT.out.bw (Bw.alloc (Bw.refl _) _)
      try case ff1 =>
        intro j u hj
        match j, hj with
        | 0, hj => simp [tkV] at hj; subst hj; simp [Addr.add, go_sem]
        | 1, hj => simp [tkV] at hj; subst hj; simp [Addr.add, go_sem, strOf_nil]
        | 2, hj => simp [tkV] at hj; subst hj; simp [Addr.add, go_sem]
        | 3, hj => simp [tkV] at hj; subst hj; simp [Addr.add, go_sem]
        | j + 4, hj => simp [tkV] at hj
      try case ff2 => intro u hu; simp [tkV] at hu; rcases hu with rfl | rfl | rfl | rfl <;> rfl
      try case ff3 => have := HAC.out; unfold maxLen; omega
      try case ff4 => have := HAC.out; omega
      try case ff5 => simp only [World.size_alloc]; omega
      intro v' w2 hown hgr _
      obtain ⟨av', cv', e⟩ := own_form hown
      subst e
      have hb2 : Bw w w2 := by
        refine bw_grown (e := 70) (size := 4) (n := acc.length) (xs := acc.flatMap tkV) ?_ (Nat.le_refl _) ?_ hgr
        · exact HW.out.trans (Bw.alloc (Bw.refl _) _)
        · exact HT.out.bw (Bw.alloc (Bw.refl _) _)
      have HB2 := hid hb2
      rw [tk_snoc] at hown
      have HO1 := hid hown
      clear hgr hown hb2
      go_wp2
      all_goals go_ret3
      all_goals exact ⟨.slice av' (acc.length + 1) cv', by rw [HFN.out]; rfl, by rw [HFN.out]; simpa [Tk] using HO1.out, HB2.out⟩

end Go.Proofs.YtdhkcdehedbpcaaDoor

