/- The program's cutter of strings: the contract. · The program's cutter of any token: the contract. -/
import Derived.Test.YtlcieebneclmpaaDoorK4
set_option linter.unusedSimpArgs false
set_option linter.unusedVariables false
namespace Go.Proofs.YtlcieebneclmpaaDoor
open Go Go.RowKit

theorem map_snoc8 (l : List Int) (c : Int) : l.map (Value.int .u8) ++ [.int .u8 c] = (l ++ [c]).map (Value.int .u8) := by simp

theorem esc_byte {r : List Int} {x : Int} {m : Nat} (h : esc r = .inl (x, m)) (hr : ∀ c ∈ r, 0 ≤ c ∧ c ≤ 255) : 0 ≤ x ∧ x ≤ 255 := by
  unfold esc at h
  split at h
  · cases h
  · rename_i c t
    have hc := hr c (by simp)
    split at h
    · simp at h; omega
    · split at h
      · simp at h; omega
      · split at h
        · simp at h; omega
        · split at h
          · split at h
            · cases h
            · split at h
              · cases h
              · rename_i hx
                split at h
                · cases h
                · split at h
                  · cases h
                  · rename_i hy
                    have := hexV_bd hx
                    have := hexV_bd hy
                    simp at h; omega
          · cases h

set_option maxRecDepth 100000 in
set_option maxHeartbeats 8000000 in
theorem xcutString_any (v : Value) (b : List Int) (k : Nat) (w : World) (h : By w v b) (hk : k < b.length) (hm : b.length ≤ 1000000) (C : Cut) (hC : C = cStr ((b.drop (k + 1)).length + 1) (b.drop (k + 1)) [] 1) :
    Calls Tryd.prog 51 #[v, .int .i64 (k : Nat)] w fun e w' => e = .returned (cutV k C) ∧ Bw w w' := by
  have HB := hid h
  obtain ⟨g, o, cap, rfl, hcap, hg, hcs⟩ := h.parts hk
  have HC := hid hcs
  obtain ⟨i1, hi1, hz1, hs1, hy1⟩ := info_parts infoU8
  have I1 := hid (And.intro hi1 (And.intro hz1 (And.intro hs1 hy1)))
  have HCC := hid hC
  clear h hcs hi1 hz1 hs1 hy1 hC
  go_enter Tryd.func51, Tryd.ntmps51
  go_wp2
  go_loopw [7, 8] (fun s j wr => ∃ (f m : Nat) (acc : List Int), j = .int .i64 ((k + m : Nat) : Int) ∧ 1 ≤ m ∧ k + m ≤ b.length ∧ (b.drop (k + m)).length < f ∧ C = cStr f (b.drop (k + m)) acc m ∧ acc.length ≤ m ∧ wr.ownsRow (w.heap.size + 1) 5 1 s acc.length (acc.map (Value.int .u8)) ∧ Bw (w.alloc tk0) wr) (fun _ j _ => b.length - (intOf j).toNat)
  case atStart => exact ⟨_, 1, [], by simp, by omega, by omega, by omega, HCC.out, by simp, World.ownsRow_nil _ _ _ _, Bw.refl _⟩
  case round =>
    obtain ⟨f, m, acc, rfl, hm1, hkm, hf, hce, ham, hown, hbw⟩ := hrel
    obtain ⟨ax, cax, e⟩ := own_form hown
    subst e
    have HO := hid hown
    have HW := hid hbw
    have hsz : w.heap.size + 1 ≤ wr.heap.size := by have := hbw.size; simpa using this
    have B := (Blk.new w #[.int .i64 0, .string ByteArray.empty, .int .i64 0, .int .i64 0] 72).bw hbw
    have HBK := hid B
    have k0 := B.cell 0
    have k1 := B.cell 1
    have k2 := B.cell 2
    have k3 := B.cell 3
    have kf := B.free
    simp at k0 k1 k2 k3
    have HCE := hid hce
    have HF := hid hf
    clear hown hbw B hce hf
    by_cases hlt : k + m < b.length
    · have hc : wr.cell? ⟨g, o + (k + m), none⟩ = some (.int .u8 b[k + m]) := by
        rw [← HC.out _ hlt]
        exact World.cell?_of_block (w := w) (w' := wr) (a := ⟨g, o + (k + m), none⟩) (((Bw.alloc (Bw.refl w) tk0).trans HW.out).block g hg)
      have hbd := HB.out.2.1 _ (List.getElem_mem hlt)
      have hr : b.drop (k + m) = b[k + m] :: b.drop (k + m + 1) := List.drop_eq_getElem_cons hlt
      have HR := hid hr
      have HBD := hid hbd
      have hlt2 : ((k + m : Nat) : Int) < (b.length : Int) := by omega
      obtain ⟨f', rfl⟩ : ∃ f', f = f' + 1 := ⟨f - 1, by have := HF.out; omega⟩
      have hst : C = cStr (f' + 1) (b[k + m] :: b.drop (k + m + 1)) acc m := by rw [← hr]; exact HCE.out
      have HST := hid hst
      clear hr hbd hst HCE
      have HL : (b.drop (k + m)).length = b.length - (k + m) := List.length_drop
      generalize b[k + m] = c at hc HR HBD HST
      cases h34 : (c == 34)
      · cases h10 : (c == 10)
        · cases h92 : (c == 92)
          · have hst2 : C = cStr f' (b.drop (k + m + 1)) (acc ++ [c]) (m + 1) := by
              rw [HST.out]
              simp only [beq_eq_false_iff_ne, beq_iff_eq] at *
              simp [cStr, h34, h10, h92]
            have HS2 := hid hst2
            clear hst2
            go_wp2_with (first
              | (at_builtin; refine wpList_append_own _ rfl _ _ 34 rfl (w.heap.size + 1) 5 i1 (.int .u8 0) 1 1 under22 I1.out.1 I1.out.2.1 I1.out.2.2.1 I1.out.2.2.2 rfl (by decide) (.slice ax acc.length cax) acc.length (acc.map (Value.int .u8)) rfl (HO.out.alloc _) ⟨wr.heap.size, 0, none⟩ 1 1 [.int .u8 c] rfl rfl ?c1 ?c2 ?c3 ?c4 ?c5 ?_)
              | go_in)
            case c1 =>
              intro j u hj
              match j, hj with
              | 0, hj => simp at hj; subst hj; simp [Addr.add, go_sem]
            case c2 => intro u hu; simp at hu; subst hu; rfl
            case c3 => unfold maxLen; omega
            case c4 => omega
            case c5 => simp only [World.size_alloc]; omega
            intro v' w1 hown hgr _
            obtain ⟨av', cv', e⟩ := own_form hown
            subst e
            have HW1 := hid (bw_grown (Bw.alloc HW.out _) (by simp) (HO.out.alloc _) hgr)
            rw [map_snoc8] at hown
            have HO1 := hid hown
            clear hgr hown
            go_wp2
            go_roundw
            case rel => exact ⟨f', m + 1, acc ++ [c], by go_num, by omega, by omega, by rw [List.length_drop]; have := HF.out; omega, HS2.out, by simp; omega, by simpa using HO1.out, HW1.out⟩
            case measure => simp [intOf]; omega
          · have hEs := hid (xcutEscape_any _ b (k + m) wr (HB.out.bw ((Bw.alloc (Bw.refl w) tk0).trans HW.out)) hlt hm)
            have hre : ∀ x ∈ b.drop (k + m + 1), 0 ≤ x ∧ x ≤ 255 := fun x hx => HB.out.2.1 x (List.mem_of_mem_drop hx)
            have HRE := hid hre
            clear hre
            cases he : esc (b.drop (k + m + 1)) with
            | inr n =>
              rw [he] at hEs
              have hv : cutV k C = .tuple #[.agg #[.int .i64 0, .string ⟨#[]⟩, .int .i64 0, .int .i64 0], .int .i64 6, .int .i64 ((k : Int) + m + n)] := by
                rw [HST.out]
                rw [beq_iff_eq] at h92
                subst h92
                simp [cStr, he, cutV]; omega
              have HV := hid hv
              clear hv
              go_wp2_with (first
                | (go_at_call 68; refine (hEs.out).mono ?_; rintro e w' ⟨rfl, hw'⟩; subst w'; unfold escT))
              all_goals
                have bf := (((HBK.out.set 0 (.int .i64 0)).set 1 (.string ⟨#[]⟩)).set 2 (.int .i64 0)).set 3 (.int .i64 0)
                have bfc := bf.cell
                refine bodyPost_ret (v := cutV k C) (by rw [HV.out]; simp [results, Tryd.results51, go_sem, bfc]) rfl ?_
                exact ⟨rfl, (Bw.alloc (Bw.refl w) tk0).trans HW.out |>.setCell (by simp) _ |>.setCell (by simp) _ |>.setCell (by simp) _ |>.setCell (by simp) _⟩
            | inl q =>
              obtain ⟨x, n⟩ := q
              have hbx := esc_byte he HRE.out
              have hbn := esc_bd he
              rw [List.length_drop] at hbn
              rw [he] at hEs
              have hst2 : C = cStr f' (b.drop (k + (m + n))) (acc ++ [x]) (m + n) := by
                rw [HST.out]
                rw [beq_iff_eq] at h92
                subst h92
                simp only [cStr, he]
                rw [if_neg (by decide), if_neg (by decide), if_pos trivial, ← HR.out, List.drop_drop]
                congr 1
                congr 1; omega
              have HS2 := hid hst2
              clear hst2 he
              go_wp2_with (first
                | (go_at_call 68; refine (hEs.out).mono ?_; rintro e w' ⟨rfl, hw'⟩; subst w'; unfold escT)
                | (at_builtin; refine wpList_append_own _ rfl _ _ 34 rfl (w.heap.size + 1) 5 i1 (.int .u8 0) 1 1 under22 I1.out.1 I1.out.2.1 I1.out.2.2.1 I1.out.2.2.2 rfl (by decide) (.slice ax acc.length cax) acc.length (acc.map (Value.int .u8)) rfl (HO.out.alloc _) ⟨wr.heap.size, 0, none⟩ 1 1 [.int .u8 x] rfl rfl ?c1 ?c2 ?c3 ?c4 ?c5 ?_)
                | go_in)
              case c1 =>
                intro j u hj
                match j, hj with
                | 0, hj => simp at hj; subst hj; simp [Addr.add, go_sem]
              case c2 => intro u hu; simp at hu; subst hu; rfl
              case c3 => unfold maxLen; omega
              case c4 => omega
              case c5 => simp only [World.size_alloc]; omega
              intro v' w1 hown hgr _
              obtain ⟨av', cv', e⟩ := own_form hown
              subst e
              have HW1 := hid (bw_grown (Bw.alloc HW.out _) (by simp) (HO.out.alloc _) hgr)
              rw [map_snoc8] at hown
              have HO1 := hid hown
              clear hgr hown
              go_wp2
              go_roundw
              case rel => exact ⟨f', m + n, acc ++ [x], by go_num, by omega, by omega, by rw [List.length_drop]; have := HF.out; omega, HS2.out, by simp; omega, by simpa using HO1.out, HW1.out⟩
              case measure => simp [intOf]; omega
        · have hv : cutV k C = .tuple #[.agg #[.int .i64 0, .string ⟨#[]⟩, .int .i64 0, .int .i64 0], .int .i64 6, .int .i64 ((k : Int) + m)] := by
            rw [HST.out]
            rw [beq_iff_eq] at h10
            subst h10
            simp [cStr, cutV]
          have HV := hid hv
          clear hv
          go_wp2
          all_goals
            have bf := (((HBK.out.set 0 (.int .i64 0)).set 1 (.string ⟨#[]⟩)).set 2 (.int .i64 0)).set 3 (.int .i64 0)
            have bfc := bf.cell
            refine bodyPost_ret (v := cutV k C) (by rw [HV.out]; simp [results, Tryd.results51, go_sem, bfc]) rfl ?_
            exact ⟨rfl, (Bw.alloc (Bw.refl w) tk0).trans HW.out |>.setCell (by simp) _ |>.setCell (by simp) _ |>.setCell (by simp) _ |>.setCell (by simp) _⟩
      · have hconv := own_conv HO.out
        have hv : cutV k C = .tuple #[.agg #[.int .i64 4, .string (strOfNums acc), .int .i64 0, .int .i64 (k : Nat)], .int .i64 0, .int .i64 ((k : Int) + m + 1)] := by
          rw [HST.out]
          rw [beq_iff_eq] at h34
          subst h34
          simp [cStr, cutV]; omega
        have HV := hid hv
        clear hv
        go_wp2
        all_goals
          have bf := (((HBK.out.set 0 (.int .i64 4)).set 1 (.string (strOfNums acc))).set 2 (.int .i64 0)).set 3 (.int .i64 (k : Nat))
          have bfc := bf.cell
          refine bodyPost_ret (v := cutV k C) (by rw [HV.out]; simp [results, Tryd.results51, go_sem, bfc]) rfl ?_
          exact ⟨rfl, (Bw.alloc (Bw.refl w) tk0).trans HW.out |>.setCell (by simp) _ |>.setCell (by simp) _ |>.setCell (by simp) _ |>.setCell (by simp) _⟩
    · have hv : cutV k C = .tuple #[.agg #[.int .i64 0, .string ⟨#[]⟩, .int .i64 0, .int .i64 0], .int .i64 6, .int .i64 ((k : Int) + m)] := by
        obtain ⟨f', rfl⟩ : ∃ f', f = f' + 1 := ⟨f - 1, by have := HF.out; omega⟩
        rw [HCE.out, List.drop_eq_nil_of_le (by omega)]
        simp [cStr, cutV]
      have HV := hid hv
      clear hv
      go_wp2
      all_goals
        have bf := (((HBK.out.set 0 (.int .i64 0)).set 1 (.string ⟨#[]⟩)).set 2 (.int .i64 0)).set 3 (.int .i64 0)
        have bfc := bf.cell
        refine bodyPost_ret (v := cutV k C) (by rw [HV.out]; simp [results, Tryd.results51, go_sem, bfc]) rfl ?_
        exact ⟨rfl, (Bw.alloc (Bw.refl w) tk0).trans HW.out |>.setCell (by simp) _ |>.setCell (by simp) _ |>.setCell (by simp) _ |>.setCell (by simp) _⟩

end Go.Proofs.YtlcieebneclmpaaDoor

set_option linter.unusedSimpArgs false
set_option linter.unusedVariables false
namespace Go.Proofs.YtlcieebneclmpaaDoor
open Go Go.RowKit

set_option maxRecDepth 100000 in
set_option maxHeartbeats 8000000 in
theorem xcut_any (v : Value) (b : List Int) (k : Nat) (w : World) (h : By w v b) (hs : Sg w) (hk : k < b.length) (hm : b.length ≤ 1000000) :
    Calls Tryd.prog 41 #[v, .int .i64 (k : Nat)] w fun e w' => e = .returned (cutV k (cut (b.drop k))) ∧ Bw w w' := by
  have HB := hid (h.bw (Bw.alloc (Bw.refl w) tk0))
  have HS := hid (hs.bw (Bw.alloc (Bw.refl w) tk0))
  obtain ⟨g, o, cap, rfl, hcap, hg, hcs⟩ := h.parts hk
  have hc := hcs k hk
  have hr : b.drop k = b[k] :: b.drop (k + 1) := List.drop_eq_getElem_cons hk
  have e : cut (b.drop k) = if isLt b[k] then cName (b.drop k) else if isDg b[k] then cNum (b.drop k) else if b[k] = 34 then cStr ((b.drop (k + 1)).length + 1) (b.drop (k + 1)) [] 1 else cSign (b.drop k) := by
    conv => lhs; rw [hr]
    simp only [cut]
    rw [← hr]
  have hkl : (k : Int) < (b.length : Int) := by omega
  rw [e]
  clear h hs hcs e hr
  generalize b[k] = c at hc
  cases h1 : isLt c
  · cases h2 : isDg c
    · cases h3 : (c == 34)
      · rw [if_neg (by simp), if_neg (by simp), if_neg (by simpa using h3)]
        have HX := hid (xcutSign_any _ b k _ HB.out HS.out hk hm)
        cases hC : cSign (b.drop k) with
        | tok kd x n len =>
          rw [hC] at HX
          clear hC
          go_enter Tryd.func41, Tryd.ntmps41
          go_wp2_with (first
            | (go_at_call 46; refine (xisDigit_any _ _).mono ?_; rintro e w' ⟨rfl, hw'⟩; subst w')
            | (go_at_call 47; refine (xisLetter_any _ _).mono ?_; rintro e w' ⟨rfl, hw'⟩; subst w')
            | (go_at_call 52; refine (HX.out).mono ?_; rintro e w1 ⟨rfl, hw1⟩; have HW1 := hid hw1; have B := (Blk.new w #[.int .i64 0, .string ByteArray.empty, .int .i64 0, .int .i64 0] 72).bw hw1; have HBK := hid B; have k0 := B.cell 0; have k1 := B.cell 1; have k2 := B.cell 2; have k3 := B.cell 3; have kf := B.free; simp at k0 k1 k2 k3; clear hw1 B; unfold cutV))
          all_goals
            have bf := (((HBK.out.set 0 (.int .i64 kd)).set 1 (.string (strOfNums x))).set 2 (.int .i64 n)).set 3 (.int .i64 (k : Nat))
            have bfc := bf.cell
            refine bodyPost_ret (v := cutV k (.tok kd x n len)) (by unfold cutV; simp [results, Tryd.results41, go_sem, bfc]) rfl ?_
            exact ⟨rfl, (Bw.alloc (Bw.refl w) tk0).trans HW1.out |>.setCell (by simp) _ |>.setCell (by simp) _ |>.setCell (by simp) _ |>.setCell (by simp) _⟩
        | bad er off =>
          rw [hC] at HX
          clear hC
          go_enter Tryd.func41, Tryd.ntmps41
          go_wp2_with (first
            | (go_at_call 46; refine (xisDigit_any _ _).mono ?_; rintro e w' ⟨rfl, hw'⟩; subst w')
            | (go_at_call 47; refine (xisLetter_any _ _).mono ?_; rintro e w' ⟨rfl, hw'⟩; subst w')
            | (go_at_call 52; refine (HX.out).mono ?_; rintro e w1 ⟨rfl, hw1⟩; have HW1 := hid hw1; have B := (Blk.new w #[.int .i64 0, .string ByteArray.empty, .int .i64 0, .int .i64 0] 72).bw hw1; have HBK := hid B; have k0 := B.cell 0; have k1 := B.cell 1; have k2 := B.cell 2; have k3 := B.cell 3; have kf := B.free; simp at k0 k1 k2 k3; clear hw1 B; unfold cutV))
          all_goals
            have bf := (((HBK.out.set 0 (.int .i64 0)).set 1 (.string ⟨#[]⟩)).set 2 (.int .i64 0)).set 3 (.int .i64 0)
            have bfc := bf.cell
            refine bodyPost_ret (v := cutV k (.bad er off)) (by unfold cutV; simp [results, Tryd.results41, go_sem, bfc]) rfl ?_
            exact ⟨rfl, (Bw.alloc (Bw.refl w) tk0).trans HW1.out |>.setCell (by simp) _ |>.setCell (by simp) _ |>.setCell (by simp) _ |>.setCell (by simp) _⟩
      · rw [if_neg (by simp), if_neg (by simp), if_pos (by simpa using h3)]
        have HX := hid (xcutString_any _ b k _ HB.out hk hm _ rfl)
        cases hC : cStr ((b.drop (k + 1)).length + 1) (b.drop (k + 1)) [] 1 with
        | tok kd x n len =>
          rw [hC] at HX
          clear hC
          go_enter Tryd.func41, Tryd.ntmps41
          go_wp2_with (first
            | (go_at_call 46; refine (xisDigit_any _ _).mono ?_; rintro e w' ⟨rfl, hw'⟩; subst w')
            | (go_at_call 47; refine (xisLetter_any _ _).mono ?_; rintro e w' ⟨rfl, hw'⟩; subst w')
            | (go_at_call 51; refine (HX.out).mono ?_; rintro e w1 ⟨rfl, hw1⟩; have HW1 := hid hw1; have B := (Blk.new w #[.int .i64 0, .string ByteArray.empty, .int .i64 0, .int .i64 0] 72).bw hw1; have HBK := hid B; have k0 := B.cell 0; have k1 := B.cell 1; have k2 := B.cell 2; have k3 := B.cell 3; have kf := B.free; simp at k0 k1 k2 k3; clear hw1 B; unfold cutV))
          all_goals
            have bf := (((HBK.out.set 0 (.int .i64 kd)).set 1 (.string (strOfNums x))).set 2 (.int .i64 n)).set 3 (.int .i64 (k : Nat))
            have bfc := bf.cell
            refine bodyPost_ret (v := cutV k (.tok kd x n len)) (by unfold cutV; simp [results, Tryd.results41, go_sem, bfc]) rfl ?_
            exact ⟨rfl, (Bw.alloc (Bw.refl w) tk0).trans HW1.out |>.setCell (by simp) _ |>.setCell (by simp) _ |>.setCell (by simp) _ |>.setCell (by simp) _⟩
        | bad er off =>
          rw [hC] at HX
          clear hC
          go_enter Tryd.func41, Tryd.ntmps41
          go_wp2_with (first
            | (go_at_call 46; refine (xisDigit_any _ _).mono ?_; rintro e w' ⟨rfl, hw'⟩; subst w')
            | (go_at_call 47; refine (xisLetter_any _ _).mono ?_; rintro e w' ⟨rfl, hw'⟩; subst w')
            | (go_at_call 51; refine (HX.out).mono ?_; rintro e w1 ⟨rfl, hw1⟩; have HW1 := hid hw1; have B := (Blk.new w #[.int .i64 0, .string ByteArray.empty, .int .i64 0, .int .i64 0] 72).bw hw1; have HBK := hid B; have k0 := B.cell 0; have k1 := B.cell 1; have k2 := B.cell 2; have k3 := B.cell 3; have kf := B.free; simp at k0 k1 k2 k3; clear hw1 B; unfold cutV))
          all_goals
            have bf := (((HBK.out.set 0 (.int .i64 0)).set 1 (.string ⟨#[]⟩)).set 2 (.int .i64 0)).set 3 (.int .i64 0)
            have bfc := bf.cell
            refine bodyPost_ret (v := cutV k (.bad er off)) (by unfold cutV; simp [results, Tryd.results41, go_sem, bfc]) rfl ?_
            exact ⟨rfl, (Bw.alloc (Bw.refl w) tk0).trans HW1.out |>.setCell (by simp) _ |>.setCell (by simp) _ |>.setCell (by simp) _ |>.setCell (by simp) _⟩
    · rw [if_neg (by simp), if_pos rfl]
      have HX := hid (xcutNumber_any _ b k _ HB.out hk hm)
      cases hC : cNum (b.drop k) with
      | tok kd x n len =>
        rw [hC] at HX
        clear hC
        go_enter Tryd.func41, Tryd.ntmps41
        go_wp2_with (first
          | (go_at_call 46; refine (xisDigit_any _ _).mono ?_; rintro e w' ⟨rfl, hw'⟩; subst w')
          | (go_at_call 47; refine (xisLetter_any _ _).mono ?_; rintro e w' ⟨rfl, hw'⟩; subst w')
          | (go_at_call 50; refine (HX.out).mono ?_; rintro e w1 ⟨rfl, hw1⟩; have HW1 := hid hw1; have B := (Blk.new w #[.int .i64 0, .string ByteArray.empty, .int .i64 0, .int .i64 0] 72).bw hw1; have HBK := hid B; have k0 := B.cell 0; have k1 := B.cell 1; have k2 := B.cell 2; have k3 := B.cell 3; have kf := B.free; simp at k0 k1 k2 k3; clear hw1 B; unfold cutV))
        all_goals
          have bf := (((HBK.out.set 0 (.int .i64 kd)).set 1 (.string (strOfNums x))).set 2 (.int .i64 n)).set 3 (.int .i64 (k : Nat))
          have bfc := bf.cell
          refine bodyPost_ret (v := cutV k (.tok kd x n len)) (by unfold cutV; simp [results, Tryd.results41, go_sem, bfc]) rfl ?_
          exact ⟨rfl, (Bw.alloc (Bw.refl w) tk0).trans HW1.out |>.setCell (by simp) _ |>.setCell (by simp) _ |>.setCell (by simp) _ |>.setCell (by simp) _⟩
      | bad er off =>
        rw [hC] at HX
        clear hC
        go_enter Tryd.func41, Tryd.ntmps41
        go_wp2_with (first
          | (go_at_call 46; refine (xisDigit_any _ _).mono ?_; rintro e w' ⟨rfl, hw'⟩; subst w')
          | (go_at_call 47; refine (xisLetter_any _ _).mono ?_; rintro e w' ⟨rfl, hw'⟩; subst w')
          | (go_at_call 50; refine (HX.out).mono ?_; rintro e w1 ⟨rfl, hw1⟩; have HW1 := hid hw1; have B := (Blk.new w #[.int .i64 0, .string ByteArray.empty, .int .i64 0, .int .i64 0] 72).bw hw1; have HBK := hid B; have k0 := B.cell 0; have k1 := B.cell 1; have k2 := B.cell 2; have k3 := B.cell 3; have kf := B.free; simp at k0 k1 k2 k3; clear hw1 B; unfold cutV))
        all_goals
          have bf := (((HBK.out.set 0 (.int .i64 0)).set 1 (.string ⟨#[]⟩)).set 2 (.int .i64 0)).set 3 (.int .i64 0)
          have bfc := bf.cell
          refine bodyPost_ret (v := cutV k (.bad er off)) (by unfold cutV; simp [results, Tryd.results41, go_sem, bfc]) rfl ?_
          exact ⟨rfl, (Bw.alloc (Bw.refl w) tk0).trans HW1.out |>.setCell (by simp) _ |>.setCell (by simp) _ |>.setCell (by simp) _ |>.setCell (by simp) _⟩
  · rw [if_pos rfl]
    have HX := hid (xcutName_any _ b k _ HB.out hk hm)
    cases hC : cName (b.drop k) with
    | tok kd x n len =>
      rw [hC] at HX
      clear hC
      go_enter Tryd.func41, Tryd.ntmps41
      go_wp2_with (first
        | (go_at_call 46; refine (xisDigit_any _ _).mono ?_; rintro e w' ⟨rfl, hw'⟩; subst w')
        | (go_at_call 47; refine (xisLetter_any _ _).mono ?_; rintro e w' ⟨rfl, hw'⟩; subst w')
        | (go_at_call 49; refine (HX.out).mono ?_; rintro e w1 ⟨rfl, hw1⟩; have HW1 := hid hw1; have B := (Blk.new w #[.int .i64 0, .string ByteArray.empty, .int .i64 0, .int .i64 0] 72).bw hw1; have HBK := hid B; have k0 := B.cell 0; have k1 := B.cell 1; have k2 := B.cell 2; have k3 := B.cell 3; have kf := B.free; simp at k0 k1 k2 k3; clear hw1 B; unfold cutV))
      all_goals
        have bf := (((HBK.out.set 0 (.int .i64 kd)).set 1 (.string (strOfNums x))).set 2 (.int .i64 n)).set 3 (.int .i64 (k : Nat))
        have bfc := bf.cell
        refine bodyPost_ret (v := cutV k (.tok kd x n len)) (by unfold cutV; simp [results, Tryd.results41, go_sem, bfc]) rfl ?_
        exact ⟨rfl, (Bw.alloc (Bw.refl w) tk0).trans HW1.out |>.setCell (by simp) _ |>.setCell (by simp) _ |>.setCell (by simp) _ |>.setCell (by simp) _⟩
    | bad er off =>
      rw [hC] at HX
      clear hC
      go_enter Tryd.func41, Tryd.ntmps41
      go_wp2_with (first
        | (go_at_call 46; refine (xisDigit_any _ _).mono ?_; rintro e w' ⟨rfl, hw'⟩; subst w')
        | (go_at_call 47; refine (xisLetter_any _ _).mono ?_; rintro e w' ⟨rfl, hw'⟩; subst w')
        | (go_at_call 49; refine (HX.out).mono ?_; rintro e w1 ⟨rfl, hw1⟩; have HW1 := hid hw1; have B := (Blk.new w #[.int .i64 0, .string ByteArray.empty, .int .i64 0, .int .i64 0] 72).bw hw1; have HBK := hid B; have k0 := B.cell 0; have k1 := B.cell 1; have k2 := B.cell 2; have k3 := B.cell 3; have kf := B.free; simp at k0 k1 k2 k3; clear hw1 B; unfold cutV))
      all_goals
        have bf := (((HBK.out.set 0 (.int .i64 0)).set 1 (.string ⟨#[]⟩)).set 2 (.int .i64 0)).set 3 (.int .i64 0)
        have bfc := bf.cell
        refine bodyPost_ret (v := cutV k (.bad er off)) (by unfold cutV; simp [results, Tryd.results41, go_sem, bfc]) rfl ?_
        exact ⟨rfl, (Bw.alloc (Bw.refl w) tk0).trans HW1.out |>.setCell (by simp) _ |>.setCell (by simp) _ |>.setCell (by simp) _ |>.setCell (by simp) _⟩

end Go.Proofs.YtlcieebneclmpaaDoor

