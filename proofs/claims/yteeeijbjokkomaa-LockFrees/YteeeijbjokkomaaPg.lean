/- without, Drop: contracts. -/
import Derived.Test.YteeeijbjokkomaaPf
set_option linter.unusedSimpArgs false
set_option linter.unusedVariables false
namespace Go.Proofs.Yteeeijbjokkomaa
open Go Go.RowKit

set_option maxRecDepth 100000 in
set_option maxHeartbeats 1000000 in
theorem wioW_any {G : Nat → Prop} {w : World} (v : Value) (l : List WW) (t : Int) (hs : Sl w G v l.length 4 (l.flatMap wC)) (hm : l.length ≤ 1000) (n : Nat) (ok : ∀ x ∈ l, okW n x) :
    Calls Try.prog 48 #[v, .int .i64 t] w fun e w' => ∃ b, e = .returned b ∧ w'.ownsRow w.heap.size 89 4 b (l.filter (fun x => !(x.t == t))).length ((l.filter (fun x => !(x.t == t))).flatMap wC) ∧ Bw w w' := by
  obtain ⟨a, c, rfl⟩ := hs.form
  have HC := hid (splW_any (w := w.alloc (.cells #[.int .i64 t] 3)) 63 #[.pointer (some ⟨w.heap.size, 0, none⟩)] (fun x : WW => ofR x.t x.n t) (fun _ _ => by kernel_rfl) (.slice a l.length c) l l.length (hs.below (Bw.alloc (Bw.refl _) _)) hm
    (fun x _ W hb => wio1W_any W w.heap.size t (by rw [Below.cell hb (p := ⟨w.heap.size, 0, none⟩) (by simp)]; exact (Blk.new w _ _).cell 0) x))
  rw [spl_all] at HC
  have hcg : l.filter (fun x => !(ofR x.t x.n t)) = l.filter (fun x => !(x.t == t)) := List.filter_congr (fun x hx => by rw [ofR_ok (ok x hx) t])
  simp only [hcg] at HC
  have hmf : ∀ (fn : Fn) (first cap : Array Value) (w : World), (Instr.makeFunc fn first cap).run Try.prog w = .ok (.func fn first cap) w := fun _ _ _ _ => rfl
  clear hs ok hcg
  go_enter Try.func48, Try.ntmps48
  go_wp2_with (first
    | (go_at_call 39; refine HC.out.mono ?_; rintro e w1 ⟨r1, r2, rfl, ho1, ho2, _, hb⟩; obtain ⟨a1, c1, e⟩ := own_form ho1; subst e; obtain ⟨a2, c2, e⟩ := own_form ho2; subst e; have HB := hid hb; have HO := hid ho2; clear hb ho1 ho2)
    | fail)
  all_goals go_ret
  all_goals exact ⟨_, rfl, own_base HO.out (by simp), Bw.trans (Bw.alloc (Bw.refl _) _) HB.out⟩

set_option maxRecDepth 100000 in
set_option maxHeartbeats 1000000 in
theorem wioK_any {G : Nat → Prop} {w : World} (v : Value) (l : List KK) (t : Int) (hs : Sl w G v l.length 5 (l.flatMap kC)) (hm : l.length ≤ 1000) (n : Nat) (ok : ∀ x ∈ l, okW n x.1) :
    Calls Try.prog 49 #[v, .int .i64 t] w fun e w' => ∃ b, e = .returned b ∧ w'.ownsRow w.heap.size 94 5 b (l.filter (fun x => !(x.1.t == t))).length ((l.filter (fun x => !(x.1.t == t))).flatMap kC) ∧ Bw w w' := by
  obtain ⟨a, c, rfl⟩ := hs.form
  have HC := hid (splK_any (w := w.alloc (.cells #[.int .i64 t] 3)) 65 #[.pointer (some ⟨w.heap.size, 0, none⟩)] (fun x : KK => ofR x.1.t x.1.n t) (fun _ _ => by kernel_rfl) (.slice a l.length c) l l.length (hs.below (Bw.alloc (Bw.refl _) _)) hm
    (fun x _ W hb => wio1K_any W w.heap.size t (by rw [Below.cell hb (p := ⟨w.heap.size, 0, none⟩) (by simp)]; exact (Blk.new w _ _).cell 0) x))
  rw [spl_all] at HC
  have hcg : l.filter (fun x => !(ofR x.1.t x.1.n t)) = l.filter (fun x => !(x.1.t == t)) := List.filter_congr (fun x hx => by rw [ofR_ok (ok x hx) t])
  simp only [hcg] at HC
  have hmf : ∀ (fn : Fn) (first cap : Array Value) (w : World), (Instr.makeFunc fn first cap).run Try.prog w = .ok (.func fn first cap) w := fun _ _ _ _ => rfl
  clear hs ok hcg
  go_enter Try.func49, Try.ntmps49
  go_wp2_with (first
    | (go_at_call 64; refine HC.out.mono ?_; rintro e w1 ⟨r1, r2, rfl, ho1, ho2, _, hb⟩; obtain ⟨a1, c1, e⟩ := own_form ho1; subst e; obtain ⟨a2, c2, e⟩ := own_form ho2; subst e; have HB := hid hb; have HO := hid ho2; clear hb ho1 ho2)
    | fail)
  all_goals go_ret
  all_goals exact ⟨_, rfl, own_base HO.out (by simp), Bw.trans (Bw.alloc (Bw.refl _) _) HB.out⟩

/-- The first k are nobody's, if they were t's. -/
def dk (t : Int) (M : List MM) (k : Nat) : List MM := (M.take k).map (dropM t) ++ M.drop k
theorem dk_len (t : Int) (M : List MM) (k : Nat) : (dk t M k).length = M.length := by simp [dk]; omega
theorem dk_at (t : Int) (M : List MM) (k : Nat) (h : k < M.length) : (dk t M k)[k]? = some M[k] := by
  unfold dk
  rw [List.getElem?_append_right (by simp; omega)]
  simp [Nat.min_eq_left (Nat.le_of_lt h), h]
theorem dk_succ (t : Int) (M : List MM) (k : Nat) (h : k < M.length) : dk t M (k + 1) = (dk t M k).set k (dropM t M[k]) := by
  apply List.ext_getElem?
  intro i
  unfold dk
  rw [List.getElem?_set]
  by_cases e : k = i
  · subst e
    rw [if_pos rfl, if_pos (by simp; omega), List.getElem?_append_left (by simp; omega)]
    simp [List.getElem?_take, h]
  · rw [if_neg e]
    by_cases h1 : i < k
    · rw [List.getElem?_append_left (by simp; omega), List.getElem?_append_left (by simp; omega)]
      simp [List.getElem?_take, h1, show i < k + 1 by omega]
    · rw [List.getElem?_append_right (by simp; omega), List.getElem?_append_right (by simp; omega)]
      simp only [List.length_map, List.length_take, List.getElem?_drop]
      rw [Nat.min_eq_left (by omega), Nat.min_eq_left (by omega)]
      congr 1
      omega
theorem dk_all (t : Int) (M : List MM) : dk t M M.length = M.map (dropM t) := by simp [dk]

theorem drop_yes {x : MM} (h : RawOk x) {t : Int} (ho : ofR x.1 x.2 t = true) : dropM t (nrm x) = (-1, 0) := by
  unfold ofR at ho
  unfold dropM nrm
  by_cases h0 : x.2 = 0
  · simp [h0] at ho
  · rw [if_neg h0]
    simp [h0] at ho
    simp [ho]
theorem drop_no {x : MM} (h : RawOk x) {t : Int} (ho : ofR x.1 x.2 t = false) : dropM t (nrm x) = nrm x := by
  unfold ofR at ho
  unfold dropM nrm
  by_cases h0 : x.2 = 0
  · simp [h0]
  · rw [if_neg h0]
    simp [h0] at ho
    simp [ho]
theorem set_same {α : Type} (l : List α) (k : Nat) (x : α) (h : l[k]? = some x) : l.set k x = l := by
  apply List.ext_getElem?
  intro i
  rw [List.getElem?_set]
  by_cases e : k = i
  · subst e
    rw [if_pos rfl, if_pos (List.getElem?_eq_some_iff.1 h).1, h]
  · simp [e]

section
variable {w : World} {p : Nat} {bs : List Nat} {mv wv kv : Value} {R : List MM} {A : LL}

theorem PS.at' (h : PS w p bs mv wv kv R A) {n : Nat} (hn : n < R.length) : A.M[n]? = some (nrm R[n]) := by rw [h.eq]; simp [hn]

set_option maxRecDepth 100000 in
set_option maxHeartbeats 2000000 in
theorem Drop_ps (h : PS w p bs mv wv kv R A) (t : Int) : Calls Try.prog 18 #[.pointer (some ⟨p, 0, none⟩), .int .i64 t] w fun e w' => ∃ bs', e = .returned (.tuple #[]) ∧ PX w' p bs' (dropA A t) ∧ Nx bs w w' bs' := by
  obtain ⟨hlp, c0, c1, c2, hfz⟩ := h.cells
  obtain ⟨am, cm, rfl⟩ := own_form h.rm
  obtain ⟨aw, cw, rfl⟩ := own_form h.rw
  obtain ⟨ak, ck, rfl⟩ := own_form h.rk
  have hRl := h.ok.big
  have hLM := hid h.len
  rw [h.len] at hRl
  obtain ⟨N, hN⟩ : ∃ N, R.length = N := ⟨_, rfl⟩
  rw [hN] at h c0 hRl hLM
  have HP := hid h
  have HR0 := hid hN
  clear h hN
  go_enter Try.func18, Try.ntmps18
  go_wp2
  go_loopw [4, 12] (fun q j wr => ∃ (k : Nat) (R' : List MM), k ≤ N ∧ j = .int .i64 k ∧ R'.length = N ∧ PS wr p bs (.slice am N cm) (.slice aw A.W.length cw) (.slice ak A.K.length ck) R' { A with M := dk t A.M k } ∧ Nx bs w wr bs) (fun q j _ => N - (intOf j).toNat)
  case atStart => exact ⟨0, R, by omega, rfl, HR0.out, HP.out, Nx.refl _ _⟩
  case round =>
    obtain ⟨k, R', hk, rfl, hR', hps, hnx⟩ := hrel
    have HN := hid hnx
    have HP1 := hid hps
    have HRL := hid hR'
    obtain ⟨hlp1, d0, d1, d2, hfz1⟩ := hps.cells
    by_cases h4 : k < N
    · have h4' : (k : Int) < (N : Int) := by omega
      have h5 : k < R'.length := by omega
      have hps2 := hps
      rw [← hR'] at hps2
      obtain ⟨g, e, hlg, x0, x1, hfg⟩ := hps2.mon h5
      subst e
      have HR := hid (hps.raw _ (List.getElem_mem h5))
      have hat := hps.at' h5
      simp only at hat
      rw [dk_at t A.M k (by rw [hLM.out]; exact h4)] at hat
      have HAT := hid (Option.some.inj hat)
      have HDS := hid (dk_succ t A.M k (by rw [hLM.out]; exact h4))
      rw [HAT.out] at HDS
      have HKP := hid (show (dk t A.M k)[k]? = some (nrm R'[k]) from by rw [dk_at t A.M k (by rw [hLM.out]; exact h4), HAT.out])
      have HS := hps2.setM h5 (0, 0) ⟨⟨by decide, by decide⟩, ⟨by decide, by decide⟩, fun k => absurd rfl k⟩
      rw [hR'] at HS
      have HSS := hid HS
      clear HS hat HAT hps2 hps hnx hR'
      obtain ⟨x, hx⟩ : ∃ x, R'[k] = x := ⟨_, rfl⟩
      rw [hx] at x0 x1 HR HDS HKP
      clear hx
      obtain ⟨a, b⟩ := x
      simp only at x0 x1
      have hf := fun w => isOf_any a b t w
      cases ho : ofR a b t
      · have HD := hid (drop_no HR.out ho)
        simp only [ho] at hf
        clear ho
        go_wp2_with (first
          | (go_at_call 38; refine (hf _).mono ?_; rintro e w1 ⟨rfl, os, q, rfl⟩)
          | fail)
        go_roundw
        case rel => exact ⟨k + 1, R', by omega, by go_num, HRL.out, by rw [HDS.out, HD.out, set_same _ _ _ HKP.out]; exact HP1.out.bw (Bw.lay (Bw.refl _) _ _), HN.out.bw (Bw.lay (Bw.refl _) _ _)⟩
        case measure => simp [intOf]; omega
      · have HD := hid (drop_yes HR.out ho)
        simp only [ho] at hf
        clear ho
        go_wp2_with (first
          | (go_at_call 38; refine (hf _).mono ?_; rintro e w1 ⟨rfl, os, q, rfl⟩; have HBW := hid (Bw.lay (Bw.refl wr) os q); have HSX := HP1.out.bw HBW.out)
          | fail)
        rw [← HRL.out] at HSX
        have HSX := HSX.setM h5 (0, 0) ⟨⟨by decide, by decide⟩, ⟨by decide, by decide⟩, fun k => absurd rfl k⟩
        rw [HRL.out, lay_setCell (h := hlg), lay_setCell (h := by simpa using hlg)] at HSX
        have HSX := hid HSX
        go_roundw
        case rel => exact ⟨k + 1, R'.set k (0, 0), by omega, by go_num, by rw [List.length_set]; exact HRL.out, by rw [HDS.out, HD.out]; have := HSX.out.1; rw [putA_M] at this; exact this, HN.out.trans ((Nx.of_bw HBW.out).trans HSX.out.2)⟩
        case measure => simp [intOf]; omega
    · have h4' : ¬ (k : Int) < (N : Int) := by omega
      obtain rfl : k = N := by omega
      have HEQ := hid (show dk t A.M k = A.M.map (dropM t) by rw [← hLM.out]; exact dk_all t A.M)
      have hWW := hps.big
      simp only at hWW
      clear hps hnx hR'
      have hf1 := List.length_filter_le (fun x : WW => !(x.t == t)) A.W
      have hf2 := List.length_filter_le (fun x : KK => !(x.1.t == t)) A.K
      have HFB := hid (And.intro hf1 hf2)
      clear hf1 hf2
      go_wp2_with (first
        | (go_at_call 48; refine (wioW_any (.slice aw A.W.length cw) A.W t HP1.out.sw (by omega) _ HP1.out.ok.W).mono ?_; rintro e w2 ⟨r2, rfl, ho2, hb2⟩; obtain ⟨a2, c2, e⟩ := own_form ho2; subst e; have HP2 := hid (HP1.out.bw hb2); have HX2 := hid (PS.turnW HP1.out (A.W.filter (fun x => !(x.t == t))) HP2.out.blk HP2.out.rm HP2.out.rk (own_base ho2 (Nat.zero_le _)) (Ex.of_bw hb2) (fun b e => .inr (ho2.lt b e).1) (fun x hx => HP1.out.ok.W x (List.mem_filter.1 hx).1) (by have := HFB.out.1; simp only; omega)); obtain ⟨hlp2, f0, f1, f2, hfz2⟩ := HP2.out.cells; clear ho2 hb2)
        | (go_at_call 49; refine (wioK_any (.slice ak A.K.length ck) A.K t HX2.out.1.sk (by omega) _ HX2.out.1.ok.K).mono ?_; rintro e w3 ⟨r3, rfl, ho3, hb3⟩; obtain ⟨a3, c3, e⟩ := own_form ho3; subst e; have HP3 := hid (HX2.out.1.bw hb3); have HX3 := hid (PS.turnK HX2.out.1 (A.K.filter (fun x => !(x.1.t == t))) HP3.out.blk HP3.out.rm HP3.out.rw (own_base ho3 (Nat.zero_le _)) (Ex.of_bw hb3) (fun b e => .inr (ho3.lt b e).1) (fun x hx => HX2.out.1.ok.K x (List.mem_filter.1 hx).1) (by have := HFB.out.1; have := HFB.out.2; simp only; omega)); obtain ⟨hlp3, g0, g1, g2, hfz3⟩ := HP3.out.cells; clear ho3 hb3)
        | fail)
      all_goals go_end0
      all_goals exact ⟨_, rfl, ⟨_, _, _, _, HEQ.out ▸ HX3.out.1⟩, HN.out.trans (HX2.out.2.trans HX3.out.2)⟩

theorem Drop_any (h : PX w p bs A) (t : Int) : Calls Try.prog 18 #[.pointer (some ⟨p, 0, none⟩), .int .i64 t] w fun e w' => ∃ bs', e = .returned (.tuple #[]) ∧ PX w' p bs' (dropA A t) ∧ Nx bs w w' bs' := by
  obtain ⟨mv, wv, kv, R, h⟩ := h
  exact Drop_ps h t
end

end Go.Proofs.Yteeeijbjokkomaa
