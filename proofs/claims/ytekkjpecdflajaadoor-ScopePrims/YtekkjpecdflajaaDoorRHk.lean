/- The document's strings: the contract. -/
import Derived.Test.YtekkjpecdflajaaDoorRGk
set_option linter.unusedSimpArgs false
set_option linter.unusedVariables false
set_option maxRecDepth 20000
namespace Go.Proofs.YtekkjpecdflajaaDoor
open Go Go.RowKit

theorem hexV_cases {c : Int} : (hexV c = none ∧ (hexV c).getD (-1) = -1) ∨ ∃ d, hexV c = some d ∧ (hexV c).getD (-1) = d ∧ 0 ≤ d ∧ d ≤ 15 := by
  cases h : hexV c with
  | none => exact .inl ⟨rfl, rfl⟩
  | some d => exact .inr ⟨d, rfl, rfl, (hexV_bd h).1, (hexV_bd h).2⟩

theorem St.next2 {r : List Int} {i : Nat} {x c d : Int} (h : St r i x) (hi : i < 2) (hr : r[i]? = some c) (hc : hexV c = some d) : St r (i + 1) (x * 16 + d) ∧ 0 ≤ x ∧ x ≤ 15 := by
  have hd := hexV_bd hc
  rcases h with ⟨rfl, rfl⟩ | ⟨rfl, e, t, rfl, h1⟩ | ⟨h, _⟩
  · refine ⟨.inr (.inl ⟨rfl, ?_⟩), by omega, by omega⟩
    cases r with
    | nil => simp at hr
    | cons f u => simp at hr; subst hr; exact ⟨f, u, rfl, by simpa using hc⟩
  · have he := hexV_bd h1
    refine ⟨.inr (.inr ⟨rfl, ?_⟩), he.1, he.2⟩
    cases t with
    | nil => simp at hr
    | cons f u => simp at hr; subst hr; exact ⟨e, f, u, x, d, rfl, h1, hc, by omega⟩
  · omega

theorem St.bd {r : List Int} {x : Int} (h : St r 2 x) : 0 ≤ x ∧ x ≤ 255 := by
  rcases h with ⟨h, _⟩ | ⟨h, _⟩ | ⟨_, c, d, t, p, q, _, h1, h2, rfl⟩
  · omega
  · omega
  · have := hexV_bd h1
    have := hexV_bd h2
    omega

set_option maxRecDepth 100000 in
set_option maxHeartbeats 16000000 in
theorem rtext_any (v : Value) (b : List Int) (k : Nat) (w : World) (h : By w v b) (hk : k < b.length) (hm : b.length ≤ 1000000) (C : Cut) (hC : C = cStr ((b.drop (k + 1)).length + 1) (b.drop (k + 1)) [] 1) :
    Calls Tryd.prog 25 #[v, .int .i64 (k : Nat)] w fun e w' => ∃ r, e = .returned r ∧ RV k C r ∧ Bw w w' := by
  have HB := hid h
  obtain ⟨g, o, cap, rfl, hcap, hg, hcs⟩ := h.parts hk
  have HC := hid hcs
  obtain ⟨i1, hi1, hz1, hs1, hy1⟩ := info_parts infoU8
  have I1 := hid (And.intro hi1 (And.intro hz1 (And.intro hs1 hy1)))
  have HCC := hid hC
  clear h hcs hi1 hz1 hs1 hy1 hC
  go_enter Tryd.func25, Tryd.ntmps25
  go_wp2
  go_loopw [8, 9] (fun s j wr => ∃ (f m : Nat) (acc : List Int), j = .int .i64 ((k + m : Nat) : Int) ∧ 1 ≤ m ∧ k + m ≤ b.length ∧ (b.drop (k + m)).length < f ∧ C = cStr f (b.drop (k + m)) acc m ∧ acc.length ≤ m ∧ wr.ownsRow (w.heap.size + 2) 5 1 s acc.length (acc.map (Value.int .u8)) ∧ Bw ((w.alloc tkz).alloc (.cells #[.int .i64 4, .string ⟨#[]⟩, .int .i64 0, .int .i64 (k : Nat)] 56)) wr) (fun _ j _ => b.length - (intOf j).toNat)
  case atStart => exact ⟨_, 1, [], by simp, by omega, by omega, by omega, HCC.out, by simp, World.ownsRow_nil _ _ _ _, Bw.refl _⟩
  case round =>
    obtain ⟨f, m, acc, rfl, hm1, hkm, hf, hce, ham, hown, hbw⟩ := hrel
    obtain ⟨ax, cax, e⟩ := own_form hown
    subst e
    have HO := hid hown
    have HW := hid hbw
    have hsz : w.heap.size + 2 ≤ wr.heap.size := by have := hbw.size; simpa using this
    have B0 := ((Blk.new w #[.int .i64 0, .string ⟨#[]⟩, .int .i64 0, .int .i64 0] 56).alloc (.cells #[.int .i64 4, .string ⟨#[]⟩, .int .i64 0, .int .i64 (k : Nat)] 56)).bw hbw
    have B1 : Blk wr (w.heap.size + 1) #[.int .i64 4, .string ⟨#[]⟩, .int .i64 0, .int .i64 (k : Nat)] 56 := by
      have := (Blk.new (w.alloc tkz) #[.int .i64 4, .string ⟨#[]⟩, .int .i64 0, .int .i64 (k : Nat)] 56).bw hbw
      simpa using this
    have HBK0 := hid B0
    have HBK1 := hid B1
    have k0 := B0.cell 0
    have k1 := B0.cell 1
    have k2 := B0.cell 2
    have k3 := B0.cell 3
    have kf := B0.free
    have j0 := B1.cell 0
    have j1 := B1.cell 1
    have j2 := B1.cell 2
    have j3 := B1.cell 3
    have jf := B1.free
    simp at k0 k1 k2 k3 j0 j1 j2 j3
    have HCE := hid hce
    have HF := hid hf
    clear hown hbw B0 B1 hce hf
    by_cases hlt : k + m < b.length
    · have hcw : ∀ i (hi : i < b.length), wr.cell? ⟨g, o + i, none⟩ = some (.int .u8 b[i]) := by
        intro i hi
        rw [← HC.out _ hi]
        exact World.cell?_of_block (w := w) (w' := wr) (a := ⟨g, o + i, none⟩) (((bwTwo w _ _).trans HW.out).block g hg)
      have HCW := hid hcw
      have hc := hcw _ hlt
      have hbd := HB.out.2.1 _ (List.getElem_mem hlt)
      have hr : b.drop (k + m) = b[k + m] :: b.drop (k + m + 1) := List.drop_eq_getElem_cons hlt
      have HR := hid hr
      have HBD := hid hbd
      have hlt2 : ((k + m : Nat) : Int) < (b.length : Int) := by omega
      have hnge : ¬ ((b.length : Int) ≤ ((k + m : Nat) : Int)) := by omega
      obtain ⟨f', rfl⟩ : ∃ f', f = f' + 1 := ⟨f - 1, by have := HF.out; omega⟩
      have hst : C = cStr (f' + 1) (b[k + m] :: b.drop (k + m + 1)) acc m := by rw [← hr]; exact HCE.out
      have HST := hid hst
      clear hr hbd hst HCE hcw
      have HL : (b.drop (k + m)).length = b.length - (k + m) := List.length_drop
      generalize b[k + m] = c at hc HR HBD HST
      cases h34 : (c == 34)
      · have h34' : (c != 34) = true := by simpa using h34
        cases h10 : (c == 10)
        · cases h92 : (c == 92)
          · have h92' : (c != 92) = true := by simpa using h92
            have hst2 : C = cStr f' (b.drop (k + m + 1)) (acc ++ [c]) (m + 1) := by
              rw [HST.out]
              simp only [beq_eq_false_iff_ne, beq_iff_eq] at *
              simp [cStr, h34, h10, h92]
            have HS2 := hid hst2
            clear hst2
            go_wp2_with (first
              | (at_builtin; go_loud (refine wpList_append_own _ rfl _ _ 35 rfl (w.heap.size + 2) 5 i1 (.int .u8 0) 1 1 under22 I1.out.1 I1.out.2.1 I1.out.2.2.1 I1.out.2.2.2 rfl (by decide) (.slice ax acc.length cax) acc.length (acc.map (Value.int .u8)) rfl (HO.out.alloc _) ⟨wr.heap.size, 0, none⟩ 1 1 [.int .u8 c] rfl rfl ?aa1 ?aa2 ?aa3 ?aa4 ?aa5 ?_))
              | go_in)
            try case aa1 =>
              intro j u hj
              match j, hj with
              | 0, hj => simp at hj; subst hj; simp [Addr.add, go_sem]
            try case aa2 => first | rfl | (intro u hu; simp at hu; subst hu; rfl)
            try case aa3 => unfold maxLen; omega
            try case aa4 => omega
            try case aa5 => first | omega | (simp only [World.size_alloc]; omega)
            intro v' w1 hown hgr _
            obtain ⟨av', cv', e⟩ := own_form hown
            subst e
            have HW1 := hid (bw_grown (Bw.alloc HW.out _) (by simp) (HO.out.alloc _) hgr)
            rw [map_snoc8] at hown
            have HO1 := hid hown
            clear hgr hown
            go_wp2
            go_roundw
            case rel => exact ⟨f', m + 1, acc ++ [c], by go_num, by omega, by omega, by rw [List.length_drop]; have := HF.out; omega, HS2.out, by simp; omega, by simpa using HO1.out, HW1.out⟩
            case measure => simp [intOf]; omega
          · have h92' : (c != 92) = false := by simpa using h92
            have hcc : c = 92 := by simpa using h92
            subst hcc
            have HST2 := hid (show C = match esc (b.drop (k + m + 1)) with | .inr n => .bad 6 (m + n) | .inl (x, n) => cStr f' (b.drop (k + (m + n))) (acc ++ [x]) (m + n) by
              rw [HST.out]
              simp only [cStr]
              rw [if_neg (by decide), if_neg (by decide), if_pos trivial]
              cases esc (b.drop (k + m + 1)) with
              | inr n => rfl
              | inl q =>
                obtain ⟨x, n⟩ := q
                simp only
                rw [← HR.out, List.drop_drop]
                congr 1
                congr 1; omega)
            clear HST
            by_cases hl2 : k + m + 1 < b.length
            · have hd := HCW.out _ hl2
              have hdb := HB.out.2.1 _ (List.getElem_mem hl2)
              have hr2 : b.drop (k + m + 1) = b[k + m + 1] :: b.drop (k + m + 2) := List.drop_eq_getElem_cons hl2
              rw [hr2] at HST2
              have hl3 : ((k : Int) + m + 1) < (b.length : Int) := by omega
              clear hr2
              generalize b[k + m + 1] = d at hd hdb HST2
              have HDB := hid hdb
              clear hdb
              cases t110 : (d == 110)
              · cases t116 : (d == 116)
                · cases t34 : (d == 34)
                  · cases t92 : (d == 92)
                    · cases t120 : (d == 120)
                      · have he : esc (d :: b.drop (k + m + 2)) = .inr 1 := by
                          simp only [beq_eq_false_iff_ne] at *
                          simp [esc, t110, t116, t34, t92, t120]
                        have HV := hid (show RV k C (.tuple #[.agg #[.int .i64 4, .string ⟨#[]⟩, .int .i64 0, .int .i64 (k : Nat)], .int .i64 ((k : Int) + m + 1), .int .i64 6]) by
                          rw [HST2.out, he]
                          exact ⟨4, 0, k, ⟨#[]⟩, by simp; omega⟩)
                        clear HST2 he
                        go_wp2
                        all_goals
                          have bf := (((HBK0.out.set 0 (.int .i64 4)).set 1 (.string ⟨#[]⟩)).set 2 (.int .i64 0)).set 3 (.int .i64 (k : Nat))
                          have bfc := bf.cell
                          refine bodyPost_ret (v := _) (by simp [results, Tryd.results25, go_sem, bfc]; rfl) rfl ?_
                          exact ⟨_, rfl, HV.out, (bwTwo w _ _).trans HW.out |>.setCell (by simp) _ |>.setCell (by simp) _ |>.setCell (by simp) _ |>.setCell (by simp) _⟩
                      · have hdd : d = 120 := by simpa using t120
                        subst hdd
                        rw [esc_hex] at HST2
                        clear t110 t116 t34 t92 t120
                        go_wp2
                        go_loopw [10, 11] (fun nn j wi => ∃ (i : Nat) (x : Int), i ≤ 2 ∧ j = .int .i64 ((k + m + 2 + i : Nat) : Int) ∧ k + m + 2 + i ≤ b.length ∧ nn = .int .i64 x ∧ wi = wr ∧ St (b.drop (k + m + 2)) i x) (fun _ j _ => k + m + 4 - (intOf j).toNat)
                        case atStart => exact ⟨0, 0, by omega, by go_num, by omega, rfl, rfl, .inl ⟨rfl, rfl⟩⟩
                        case round =>
                          obtain ⟨i, x, hi2, rfl, hib, rfl, hwr, hst⟩ := hrel
                          subst hwr
                          have HSt := hid hst
                          clear hst
                          by_cases h2 : i < 2
                          · have h2i : ((k + m + 2 + i : Nat) : Int) < (k : Int) + m + 1 + 3 := by omega
                            by_cases hli : k + m + 2 + i < b.length
                            · have hci := HCW.out _ hli
                              have hri : (b.drop (k + m + 2))[i]? = some b[k + m + 2 + i] := by rw [List.getElem?_drop, List.getElem?_eq_getElem hli]
                              have HRi := hid hri
                              have hnl : ¬ ((b.length : Int) ≤ ((k + m + 2 + i : Nat) : Int)) := by omega
                              have hlib : ((k + m + 2 + i : Nat) : Int) < (b.length : Int) := by omega
                              clear hri
                              generalize b[k + m + 2 + i] = ci at hci HRi
                              rcases hexV_cases (c := ci) with ⟨hx, hx2⟩ | ⟨dd, hx, hx2, hd0, hd1⟩
                              · have he := HSt.out.bad h2 HRi.out hx
                                have HV := hid (show RV k C (.tuple #[.agg #[.int .i64 4, .string ⟨#[]⟩, .int .i64 0, .int .i64 (k : Nat)], .int .i64 (((k + m + 2 + i : Nat) : Int)), .int .i64 6]) by
                                  rw [HST2.out, he]
                                  exact ⟨4, 0, k, ⟨#[]⟩, by simp; omega⟩)
                                clear HST2 he hx
                                go_wp2_with (first
                                  | (go_at_call 46; refine (rhexit_any _ _).mono ?_; rw [hx2]; rintro e w' ⟨rfl, hw'⟩; subst w'))
                                all_goals
                                  have bf := (((HBK0.out.set 0 (.int .i64 4)).set 1 (.string ⟨#[]⟩)).set 2 (.int .i64 0)).set 3 (.int .i64 (k : Nat))
                                  have bfc := bf.cell
                                  refine bodyPost_ret (v := _) (by simp [results, Tryd.results25, go_sem, bfc]; rfl) rfl ?_
                                  exact ⟨_, rfl, HV.out, (bwTwo w _ _).trans HW.out |>.setCell (by simp) _ |>.setCell (by simp) _ |>.setCell (by simp) _ |>.setCell (by simp) _⟩
                              · obtain ⟨hn1, hn2, hn3⟩ := HSt.out.next2 h2 HRi.out hx
                                have HN1 := hid hn1
                                clear hn1 hx
                                go_wp2_with (first
                                  | (go_at_call 46; refine (rhexit_any _ _).mono ?_; rw [hx2]; rintro e w' ⟨rfl, hw'⟩; subst w'))
                                go_roundw
                                case rel => exact ⟨i + 1, x * 16 + dd, by omega, by go_num, by omega, rfl, trivial, HN1.out⟩
                                case measure => simp [intOf]; omega
                            · have hlen : (b.drop (k + m + 2)).length = i := by rw [List.length_drop]; omega
                              have he := HSt.out.short h2 hlen
                              have hge : ((b.length : Int) ≤ ((k + m + 2 + i : Nat) : Int)) := by omega
                              have HV := hid (show RV k C (.tuple #[.agg #[.int .i64 4, .string ⟨#[]⟩, .int .i64 0, .int .i64 (k : Nat)], .int .i64 (((k + m + 2 + i : Nat) : Int)), .int .i64 6]) by
                                rw [HST2.out, he]
                                exact ⟨4, 0, k, ⟨#[]⟩, by simp; omega⟩)
                              clear HST2 he hlen
                              go_wp2
                              all_goals
                                have bf := (((HBK0.out.set 0 (.int .i64 4)).set 1 (.string ⟨#[]⟩)).set 2 (.int .i64 0)).set 3 (.int .i64 (k : Nat))
                                have bfc := bf.cell
                                refine bodyPost_ret (v := _) (by simp [results, Tryd.results25, go_sem, bfc]; rfl) rfl ?_
                                exact ⟨_, rfl, HV.out, (bwTwo w _ _).trans HW.out |>.setCell (by simp) _ |>.setCell (by simp) _ |>.setCell (by simp) _ |>.setCell (by simp) _⟩
                          · obtain rfl : i = 2 := by omega
                            have he := HSt.out.end
                            have hxb := HSt.out.bd
                            have HS2 := hid (show C = cStr f' (b.drop (k + (m + 4))) (acc ++ [x]) (m + 4) by rw [HST2.out, he])
                            have hx256 : x % 256 = x := by omega
                            clear HST2 he
                            go_wp2_with (first
                              | (at_builtin; go_loud (refine wpList_append_own _ rfl _ _ 35 rfl (w.heap.size + 2) 5 i1 (.int .u8 0) 1 1 under22 I1.out.1 I1.out.2.1 I1.out.2.2.1 I1.out.2.2.2 rfl (by decide) (.slice ax acc.length cax) acc.length (acc.map (Value.int .u8)) rfl (HO.out.alloc _) ⟨wr.heap.size, 0, none⟩ 1 1 [.int .u8 x] rfl rfl ?bb1 ?bb2 ?bb3 ?bb4 ?bb5 ?_))
                              | go_in)
                            try case bb1 =>
                              intro j u hj
                              match j, hj with
                              | 0, hj => simp at hj; subst hj; simp [Addr.add, go_sem]
                            try case bb2 => first | rfl | (intro u hu; simp at hu; subst hu; rfl)
                            try case bb3 => unfold maxLen; omega
                            try case bb4 => omega
                            try case bb5 => first | omega | (simp only [World.size_alloc]; omega)
                            intro v' w1 hown hgr _
                            obtain ⟨av', cv', e⟩ := own_form hown
                            subst e
                            have HW1 := hid (bw_grown (Bw.alloc HW.out _) (by simp) (HO.out.alloc _) hgr)
                            rw [map_snoc8] at hown
                            have HO1 := hid hown
                            clear hgr hown
                            go_wp2
                            go_roundw
                            case rel => exact ⟨f', m + 4, acc ++ [x], by go_num, by omega, by omega, by rw [List.length_drop]; have := HF.out; omega, HS2.out, by simp; omega, by simpa using HO1.out, HW1.out⟩
                            case measure => simp [intOf]; omega
                    · have hdd : d = 92 := by simpa using t92
                      have HS2 := hid (show C = cStr f' (b.drop (k + (m + 2))) (acc ++ [d]) (m + 2) by rw [HST2.out, hdd]; simp [esc])
                      clear HST2
                      subst hdd
                      go_wp2_with (first
                        | (at_builtin; go_loud (refine wpList_append_own _ rfl _ _ 35 rfl (w.heap.size + 2) 5 i1 (.int .u8 0) 1 1 under22 I1.out.1 I1.out.2.1 I1.out.2.2.1 I1.out.2.2.2 rfl (by decide) (.slice ax acc.length cax) acc.length (acc.map (Value.int .u8)) rfl (HO.out.alloc _) ⟨wr.heap.size, 0, none⟩ 1 1 [.int .u8 92] rfl rfl ?cc1 ?cc2 ?cc3 ?cc4 ?cc5 ?_))
                        | go_in)
                      try case cc1 =>
                        intro j u hj
                        match j, hj with
                        | 0, hj => simp at hj; subst hj; simp [Addr.add, go_sem]
                      try case cc2 => first | rfl | (intro u hu; simp at hu; subst hu; rfl)
                      try case cc3 => unfold maxLen; omega
                      try case cc4 => omega
                      try case cc5 => first | omega | (simp only [World.size_alloc]; omega)
                      intro v' w1 hown hgr _
                      obtain ⟨av', cv', e⟩ := own_form hown
                      subst e
                      have HW1 := hid (bw_grown (Bw.alloc HW.out _) (by simp) (HO.out.alloc _) hgr)
                      rw [map_snoc8] at hown
                      have HO1 := hid hown
                      clear hgr hown
                      go_wp2
                      go_roundw
                      case rel => exact ⟨f', m + 2, acc ++ [92], by go_num, by omega, by omega, by rw [List.length_drop]; have := HF.out; omega, HS2.out, by simp; omega, by simpa using HO1.out, HW1.out⟩
                      case measure => simp [intOf]; omega
                  · have hdd : d = 34 := by simpa using t34
                    have HS2 := hid (show C = cStr f' (b.drop (k + (m + 2))) (acc ++ [d]) (m + 2) by rw [HST2.out, hdd]; simp [esc])
                    clear HST2
                    subst hdd
                    go_wp2_with (first
                      | (at_builtin; go_loud (refine wpList_append_own _ rfl _ _ 35 rfl (w.heap.size + 2) 5 i1 (.int .u8 0) 1 1 under22 I1.out.1 I1.out.2.1 I1.out.2.2.1 I1.out.2.2.2 rfl (by decide) (.slice ax acc.length cax) acc.length (acc.map (Value.int .u8)) rfl (HO.out.alloc _) ⟨wr.heap.size, 0, none⟩ 1 1 [.int .u8 34] rfl rfl ?dd1 ?dd2 ?dd3 ?dd4 ?dd5 ?_))
                      | go_in)
                    try case dd1 =>
                      intro j u hj
                      match j, hj with
                      | 0, hj => simp at hj; subst hj; simp [Addr.add, go_sem]
                    try case dd2 => first | rfl | (intro u hu; simp at hu; subst hu; rfl)
                    try case dd3 => unfold maxLen; omega
                    try case dd4 => omega
                    try case dd5 => first | omega | (simp only [World.size_alloc]; omega)
                    intro v' w1 hown hgr _
                    obtain ⟨av', cv', e⟩ := own_form hown
                    subst e
                    have HW1 := hid (bw_grown (Bw.alloc HW.out _) (by simp) (HO.out.alloc _) hgr)
                    rw [map_snoc8] at hown
                    have HO1 := hid hown
                    clear hgr hown
                    go_wp2
                    go_roundw
                    case rel => exact ⟨f', m + 2, acc ++ [34], by go_num, by omega, by omega, by rw [List.length_drop]; have := HF.out; omega, HS2.out, by simp; omega, by simpa using HO1.out, HW1.out⟩
                    case measure => simp [intOf]; omega
                · have hdd : d = 116 := by simpa using t116
                  have HS2 := hid (show C = cStr f' (b.drop (k + (m + 2))) (acc ++ [9]) (m + 2) by rw [HST2.out, hdd]; simp [esc])
                  clear HST2 hdd
                  go_wp2_with (first
                    | (at_builtin; go_loud (refine wpList_append_own _ rfl _ _ 35 rfl (w.heap.size + 2) 5 i1 (.int .u8 0) 1 1 under22 I1.out.1 I1.out.2.1 I1.out.2.2.1 I1.out.2.2.2 rfl (by decide) (.slice ax acc.length cax) acc.length (acc.map (Value.int .u8)) rfl (HO.out.alloc _) ⟨wr.heap.size, 0, none⟩ 1 1 [.int .u8 9] rfl rfl ?ee1 ?ee2 ?ee3 ?ee4 ?ee5 ?_))
                    | go_in)
                  try case ee1 =>
                    intro j u hj
                    match j, hj with
                    | 0, hj => simp at hj; subst hj; simp [Addr.add, go_sem]
                  try case ee2 => first | rfl | (intro u hu; simp at hu; subst hu; rfl)
                  try case ee3 => unfold maxLen; omega
                  try case ee4 => omega
                  try case ee5 => first | omega | (simp only [World.size_alloc]; omega)
                  intro v' w1 hown hgr _
                  obtain ⟨av', cv', e⟩ := own_form hown
                  subst e
                  have HW1 := hid (bw_grown (Bw.alloc HW.out _) (by simp) (HO.out.alloc _) hgr)
                  rw [map_snoc8] at hown
                  have HO1 := hid hown
                  clear hgr hown
                  go_wp2
                  go_roundw
                  case rel => exact ⟨f', m + 2, acc ++ [9], by go_num, by omega, by omega, by rw [List.length_drop]; have := HF.out; omega, HS2.out, by simp; omega, by simpa using HO1.out, HW1.out⟩
                  case measure => simp [intOf]; omega
              · have hdd : d = 110 := by simpa using t110
                have HS2 := hid (show C = cStr f' (b.drop (k + (m + 2))) (acc ++ [10]) (m + 2) by rw [HST2.out, hdd]; simp [esc])
                clear HST2 hdd
                go_wp2_with (first
                  | (at_builtin; go_loud (refine wpList_append_own _ rfl _ _ 35 rfl (w.heap.size + 2) 5 i1 (.int .u8 0) 1 1 under22 I1.out.1 I1.out.2.1 I1.out.2.2.1 I1.out.2.2.2 rfl (by decide) (.slice ax acc.length cax) acc.length (acc.map (Value.int .u8)) rfl (HO.out.alloc _) ⟨wr.heap.size, 0, none⟩ 1 1 [.int .u8 10] rfl rfl ?ff1 ?ff2 ?ff3 ?ff4 ?ff5 ?_))
                  | go_in)
                try case ff1 =>
                  intro j u hj
                  match j, hj with
                  | 0, hj => simp at hj; subst hj; simp [Addr.add, go_sem]
                try case ff2 => first | rfl | (intro u hu; simp at hu; subst hu; rfl)
                try case ff3 => unfold maxLen; omega
                try case ff4 => omega
                try case ff5 => first | omega | (simp only [World.size_alloc]; omega)
                intro v' w1 hown hgr _
                obtain ⟨av', cv', e⟩ := own_form hown
                subst e
                have HW1 := hid (bw_grown (Bw.alloc HW.out _) (by simp) (HO.out.alloc _) hgr)
                rw [map_snoc8] at hown
                have HO1 := hid hown
                clear hgr hown
                go_wp2
                go_roundw
                case rel => exact ⟨f', m + 2, acc ++ [10], by go_num, by omega, by omega, by rw [List.length_drop]; have := HF.out; omega, HS2.out, by simp; omega, by simpa using HO1.out, HW1.out⟩
                case measure => simp [intOf]; omega
            · have hdn : b.drop (k + m + 1) = [] := List.drop_eq_nil_of_le (by omega)
              have hge : ((b.length : Int) ≤ (k : Int) + m + 1) := by omega
              have HV := hid (show RV k C (.tuple #[.agg #[.int .i64 4, .string ⟨#[]⟩, .int .i64 0, .int .i64 (k : Nat)], .int .i64 ((k : Int) + m + 1), .int .i64 6]) by
                rw [HST2.out, hdn]
                exact ⟨4, 0, k, ⟨#[]⟩, by simp; omega⟩)
              clear HST2 hdn
              go_wp2
              all_goals
                have bf := (((HBK0.out.set 0 (.int .i64 4)).set 1 (.string ⟨#[]⟩)).set 2 (.int .i64 0)).set 3 (.int .i64 (k : Nat))
                have bfc := bf.cell
                refine bodyPost_ret (v := _) (by simp [results, Tryd.results25, go_sem, bfc]; rfl) rfl ?_
                exact ⟨_, rfl, HV.out, (bwTwo w _ _).trans HW.out |>.setCell (by simp) _ |>.setCell (by simp) _ |>.setCell (by simp) _ |>.setCell (by simp) _⟩
        · have hcc : c = 10 := by simpa using h10
          have HV := hid (show RV k C (.tuple #[.agg #[.int .i64 4, .string ⟨#[]⟩, .int .i64 0, .int .i64 (k : Nat)], .int .i64 ((k : Int) + m), .int .i64 6]) by
            rw [HST.out, hcc]
            simp only [cStr]
            rw [if_neg (by decide), if_pos trivial]
            exact ⟨4, 0, k, ⟨#[]⟩, by simp⟩)
          clear HST hcc
          go_wp2
          all_goals
            have bf := (((HBK0.out.set 0 (.int .i64 4)).set 1 (.string ⟨#[]⟩)).set 2 (.int .i64 0)).set 3 (.int .i64 (k : Nat))
            have bfc := bf.cell
            refine bodyPost_ret (v := _) (by simp [results, Tryd.results25, go_sem, bfc]; rfl) rfl ?_
            exact ⟨_, rfl, HV.out, (bwTwo w _ _).trans HW.out |>.setCell (by simp) _ |>.setCell (by simp) _ |>.setCell (by simp) _ |>.setCell (by simp) _⟩
      · have h34' : (c != 34) = false := by simpa using h34
        have hcc : c = 34 := by simpa using h34
        have hconv := own_conv HO.out
        have HV := hid (show RV k C (.tuple #[.agg #[.int .i64 4, .string (strOfNums acc), .int .i64 0, .int .i64 (k : Nat)], .int .i64 ((k : Int) + m + 1), .int .i64 0]) by
          rw [HST.out, hcc]
          simp [cStr, RV]; omega)
        clear HST hcc
        go_wp2
        all_goals
          have bf := ((((HBK0.out.other (p := ⟨w.heap.size + 1, 1, none⟩) (by simp) (.string (strOfNums acc))).set 0 (.int .i64 4)).set 1 (.string (strOfNums acc))).set 2 (.int .i64 0)).set 3 (.int .i64 (k : Nat))
          have bfc := bf.cell
          refine bodyPost_ret (v := _) (by simp [results, Tryd.results25, go_sem, bfc]; rfl) rfl ?_
          exact ⟨_, rfl, HV.out, (bwTwo w _ _).trans HW.out |>.setCell (by simp) _ |>.setCell (by simp) _ |>.setCell (by simp) _ |>.setCell (by simp) _ |>.setCell (by simp) _⟩
    · have hge : ((b.length : Int) ≤ ((k + m : Nat) : Int)) := by omega
      have hkb : k + m = b.length := by omega
      have HV := hid (show RV k C (.tuple #[.agg #[.int .i64 4, .string ⟨#[]⟩, .int .i64 0, .int .i64 (k : Nat)], .int .i64 ((b.length : Int)), .int .i64 6]) by
        obtain ⟨f', rfl⟩ : ∃ f', f = f' + 1 := ⟨f - 1, by have := HF.out; omega⟩
        rw [HCE.out, List.drop_eq_nil_of_le (by omega)]
        exact ⟨4, 0, k, ⟨#[]⟩, by simp; omega⟩)
      clear HCE hkb
      go_wp2
      all_goals
        have bf := (((HBK0.out.set 0 (.int .i64 4)).set 1 (.string ⟨#[]⟩)).set 2 (.int .i64 0)).set 3 (.int .i64 (k : Nat))
        have bfc := bf.cell
        refine bodyPost_ret (v := _) (by simp [results, Tryd.results25, go_sem, bfc]; rfl) rfl ?_
        exact ⟨_, rfl, HV.out, (bwTwo w _ _).trans HW.out |>.setCell (by simp) _ |>.setCell (by simp) _ |>.setCell (by simp) _ |>.setCell (by simp) _⟩

end Go.Proofs.YtekkjpecdflajaaDoor

