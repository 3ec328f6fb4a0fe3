/- Delete (the library's), Relock: contracts. -/
import Derived.Test.YteeeijbjokkomaaPi
import Derived.Shelf.RegionOpenPlain
import Derived.Lib.SliceRun
import Derived.Deep.RegionLaw
set_option linter.unusedSimpArgs false
set_option linter.unusedVariables false
namespace Go.Proofs.Yteeeijbjokkomaa
open Go Go.RowKit

/-- A row's first ones. -/
theorem own_prefix {w : World} {base : Nat} {e : TypeId} {size g n cap i : Nat} {xs : List Value} (h : w.ownsRow base e size (.slice (some ⟨g, 0, none⟩) n cap) n xs) (hi : i ≤ n) : w.ownsRow base e size (.slice (some ⟨g, 0, none⟩) i cap) i (xs.take (i * size)) := by
  have hl := h.1
  have hm : i * size ≤ n * size := Nat.mul_le_mul_right _ hi
  refine ⟨by rw [List.length_take]; omega, .inr ?_⟩
  rcases h.2 with ⟨h1, _⟩ | ⟨g', cap', cur, e1, hbb, hg, h1, h2, h3, h4⟩
  · cases h1
  · cases e1
    exact ⟨g, cap, cur, rfl, hbb, hg, by omega, h2, h3, by rw [← h4, List.take_take, Nat.min_eq_left hm]⟩
/-- A cell behind them may change. -/
theorem own_behind {w : World} {base : Nat} {e : TypeId} {size g n cap : Nat} {xs : List Value} (h : w.ownsRow base e size (.slice (some ⟨g, 0, none⟩) n cap) n xs) {j : Nat} (hj : n * size ≤ j) (u : Value) :
    (w.setCell ⟨g, j, none⟩ u).ownsRow base e size (.slice (some ⟨g, 0, none⟩) n cap) n xs := by
  refine ⟨h.1, .inr ?_⟩
  rcases h.2 with ⟨h1, _⟩ | ⟨g', cap', cur, e1, hbb, hg, h1, h2, h3, h4⟩
  · cases h1
  · cases e1
    refine ⟨g, cap, cur.setIfInBounds j u, rfl, hbb, Blk.set (w := w) (show Blk w g cur e from hg) j u, h1, h2, by simpa using h3, ?_⟩
    rw [Array.toList_setIfInBounds, List.take_set_of_le hj, h4]

theorem step_append_fits {P : Program} {ops : Array Oper} {o : Oper} {a : Act} {w : World} {K : Act → World → Prop} {Q : Exit → Act → World → Prop} {E : Prop}
    (hgd : o.guard = none) (s x : Operand) (t : TypeId) (ho : o.op = Op.call { callee := Callee.builtin Builtin.append, args := #[s, x], argTypes := #[t, t] })
    (e : TypeId) (i : TypeInfo) (size : Nat) (ht : P.underlying t = some (.slice e)) (hi : P.info? e = some i) (hsize : i.size = size)
    (g n cap : Nat) (xs : List Value) (hs : a.eval s = .slice (some ⟨g, 0, none⟩) n cap) (hown : w.ownsRow 0 e size (.slice (some ⟨g, 0, none⟩) n cap) n xs)
    (ad : Addr) (m c : Nat) (news : List Value) (hx : a.eval x = .slice (some ad) m c) (hl : news.length = m * size) (hnews : ∀ j u, news[j]? = some u → w.cell? (ad.add j) = some u) (h1 : ∀ u ∈ news, u.oneCell' = true)
    (hroom : n + m ≤ cap)
    (h : ∀ w', w'.ownsRow 0 e size (.slice (some ⟨g, 0, none⟩) (n + m) cap) (n + m) (xs ++ news) → w.grownBy w' (some g) → K (a.put o.dst (.slice (some ⟨g, 0, none⟩) (n + m) cap)) w') :
    if Region.wanted o (yielded ops a.tmps) = true then Oper.wp P o a w K Q else E := by
  have hw : Region.wanted o (yielded ops a.tmps) = true := by simp [Region.wanted, hgd]
  rw [if_pos hw]
  obtain ⟨w', hr, h2, h3⟩ := run_append_fits (P := P) w 0 t o.type e i size ht hi hsize g n cap xs hown ad m c news hl hnews h1 hroom
  unfold Oper.wp execOp
  simp only [ho, resolve, invoke, builtin, Sem.run_bind, Sem.run_pure, Result.andThen_ok, List.map_toArray, List.map_cons, List.map_nil, hs, hx, hr]
  exact h w' h2 h3

theorem zeroWk : ∀ w, (zeroValue 94).run Try.prog w = .ok (.agg #[.int .i64 0, .int .i64 0, .int .i64 0, .int .i64 0, .bool false]) w := fun _ => by kernel_rfl
/-- clear of one of those that were woken. -/
theorem clear_one (W : World) (ty : TypeId) (g o c : Nat) (hc : ∀ j, j < 5 → (W.cell? ⟨g, o + j, none⟩).isSome = true) (hf : ∀ j, j < 5 → W.frozen? ⟨g, o + j, none⟩ = false) :
    (Builtin.clear_ #[63] ty #[.slice (some ⟨g, o, none⟩) 1 c]).run Try.prog W = .ok (.tuple #[]) (W.setCells g o [.int .i64 0, .int .i64 0, .int .i64 0, .int .i64 0, .bool false]) := by
  have hst := run_storeCells_cells (P := Try.prog) g o [.int .i64 0, .int .i64 0, .int .i64 0, .int .i64 0, .bool false] 0 W (by simpa using hc) (by simpa using hf) (by intro v hv; simp at hv; rcases hv with rfl | rfl <;> rfl)
  have hzc : (Builtin.zeroCells (Value.agg #[.int .i64 0, .int .i64 0, .int .i64 0, .int .i64 0, .bool false]).cells 1).toList = [.int .i64 0, .int .i64 0, .int .i64 0, .int .i64 0, .bool false] := by
    apply List.ext_getElem?
    intro j
    match j with
    | 0 => simp [Builtin.zeroCells, Value.cells]
    | 1 => simp [Builtin.zeroCells, Value.cells]
    | 2 => simp [Builtin.zeroCells, Value.cells]
    | 3 => simp [Builtin.zeroCells, Value.cells]
    | 4 => simp [Builtin.zeroCells, Value.cells]
    | k + 5 => simp [Builtin.zeroCells, Value.cells]
  simp only [Nat.add_zero] at hst
  simp [Builtin.clear_, run_underlying Try.underlying63, zeroWk, hzc, hst]

set_option maxRecDepth 100000 in
set_option maxHeartbeats 2000000 in
theorem delK_any {w : World} {g cap i j : Nat} (l : List KK) (h : w.ownsRow 0 94 5 (.slice (some ⟨g, 0, none⟩) l.length cap) l.length (l.flatMap kC)) (hi : i < l.length) (hj : j = i + 1) (hm : l.length ≤ 1000) :
    Calls Try.prog 54 #[.slice (some ⟨g, 0, none⟩) l.length cap, .int .i64 i, .int .i64 j] w fun e w' => e = .returned (.slice (some ⟨g, 0, none⟩) (l.eraseIdx i).length cap) ∧ w'.ownsRow 0 94 5 (.slice (some ⟨g, 0, none⟩) (l.eraseIdx i).length cap) (l.eraseIdx i).length ((l.eraseIdx i).flatMap kC) ∧ Ex [g] w w' := by
  obtain ⟨N, hN⟩ : ∃ N, l.length = N := ⟨_, rfl⟩
  have he : (l.eraseIdx i).length = N - 1 := by rw [List.length_eraseIdx_of_lt hi, hN]
  have hcap : N ≤ cap ∧ cap ≤ 9223372036854775807 := by
    rcases h.2 with ⟨h1, _⟩ | ⟨g', cap', cur, e1, hbb, hg, h1, h2, h3, h4⟩
    · cases h1
    · cases e1; unfold maxLen at h2; omega
  have hgl : g < w.heap.size := (h.lt g rfl).2
  have HO := hid h
  have hpre := own_prefix h (i := i) (by omega)
  rw [fm_take kC_len] at hpre
  have HPR := hid hpre
  have hnl : ((l.drop j).flatMap kC).length = (N - j) * 5 := by rw [fm_len kC_len, List.length_drop, hN]
  have HNL := hid hnl
  have HEQ := hid (show (l.take i).flatMap kC ++ (l.drop j).flatMap kC = (l.eraseIdx i).flatMap kC by rw [← List.flatMap_append, hj, List.eraseIdx_eq_take_drop_succ])
  have HCE := hid (show ∀ q, q < (l.flatMap kC).length → w.cell? ⟨g, q, none⟩ = (l.flatMap kC)[q]? from fun q hq => by
    obtain ⟨_, o, e, _, _, hc⟩ := (own_sl (G := fun _ => True) h (fun _ _ => trivial)).cellAt (by omega)
    cases e
    have := hc q (by rw [← fm_len kC_len l]; exact hq)
    rw [Nat.zero_add] at this
    exact this)
  rw [he]
  rw [hN] at HO hi hm ⊢
  have HLN := hid hN
  clear h hpre hnl he hN
  obtain ⟨i0, hi0, hz0, hs0, hb0⟩ := info_parts infoWk
  have I0 := hid (And.intro hi0 hs0)
  clear hi0 hz0 hs0 hb0
  have h1 : (j : Int) ≤ N := by omega
  have h2 : ((i : Int) == (j : Int)) = false := by simp; omega
  have h3 : ¬ ((j : Int) < (i : Int)) := by omega
  have hic : i ≤ cap := by omega
  have mixed : Try.prog.follows .mixedOrders = true := by kernel_rfl
  have hic1 : j ≤ cap := by omega
  obtain ⟨AD, hA, hsrc⟩ : ∃ AD : Addr, (if cap = j then some (⟨g, 0, none⟩ : Addr) else some ⟨g, j * 5, none⟩) = some AD ∧ Hid (∀ q u, ((l.drop j).flatMap kC)[q]? = some u → w.drew.cell? (AD.add q) = some u) := by
    by_cases h : cap = j
    · refine ⟨⟨g, 0, none⟩, by simp [h], fun t u hu => ?_⟩
      have h0 : ((l.drop j).flatMap kC).length = 0 := by rw [HNL.out]; have h9 : N - j = 0 := (by omega); rw [h9, Nat.zero_mul]
      rw [List.length_eq_zero_iff.1 h0] at hu
      simp at hu
    · refine ⟨⟨g, j * 5, none⟩, by simp [h], fun t u hu => ?_⟩
      have e1 : (⟨g, j * 5, none⟩ : Addr).add t = ⟨g, j * 5 + t, none⟩ := by
        unfold Addr.add
        split
        · rename_i h0; subst h0; rfl
        · rfl
      rw [← fm_drop kC_len, List.getElem?_drop] at hu
      rw [e1]
      show w.cell? _ = _
      rw [HCE.out _ (List.getElem?_eq_some_iff.1 hu).1]
      exact hu
  have HW1 := hid (fun (w1 : World) (h1 : w1.ownsRow 0 94 5 (.slice (some ⟨g, 0, none⟩) (i + (N - j)) cap) (i + (N - j)) ((l.take i).flatMap kC ++ (l.drop j).flatMap kC)) ty c => show (Builtin.clear_ #[63] ty #[.slice (some ⟨g, (i + (N - j)) * 5, none⟩) (N - (i + (N - j))) c]).run Try.prog w1 = .ok (.tuple #[]) (w1.setCells g ((N - 1) * 5) [.int .i64 0, .int .i64 0, .int .i64 0, .int .i64 0, .bool false]) from (by
    obtain ⟨g', cap', cur, e, _, hbk, hc1, hc2, hsz, ht⟩ : ∃ g cap' cur, (Value.slice (some ⟨_, 0, none⟩) (i + (N - j)) cap) = .slice (some ⟨g, 0, none⟩) (i + (N - j)) cap' ∧ 0 ≤ g ∧ Blk w1 g cur 94 ∧ (i + (N - j)) ≤ cap' ∧ cap' ≤ maxLen ∧ cur.size = cap' * 5 ∧ cur.toList.take ((i + (N - j)) * 5) = _ := by
      rcases h1.2 with ⟨h0, _⟩ | h0
      · cases h0
      · exact h0
    cases e
    have hz5 : N - (i + (N - j)) = 1 := by omega
    have hz6 : (i + (N - j)) * 5 = (N - 1) * 5 := by omega
    rw [hz5, hz6]
    exact clear_one w1 ty g ((N - 1) * 5) c (fun q hq => by rw [hbk.cell, Array.getElem?_eq_getElem (by rw [hsz]; omega)]; rfl) (fun q hq => hbk.free _)))
  have HE1 := hid (show i + (N - j) = N - 1 by omega)
  have hij : i ≤ j := by omega
  have hij2 : i < j := by omega
  have hjN : j ≤ N := by omega
  have hroom : i + (N - j) ≤ cap := by omega
  have hne : ¬ cap = i + (N - j) := by omega
  have hle : i + (N - j) ≤ N := by omega
  have hle2 : (i : Int) + ((N - j : Nat) : Int) ≤ (N : Int) := by omega
  clear hj
  go_enter Try.func54, Try.ntmps54
  go_wp2_with fail
  go_region_law_o (refine step_append_fits rfl (.tmp 22) (.tmp 25) 63 rfl 94 i0 5 Try.underlying63 I0.out.1 I0.out.2 g i cap ((l.take i).flatMap kC) (by simp [Act.eval, Act.put]) (HPR.out) AD (N - j) (cap - j) ((l.drop j).flatMap kC) (by simp [Act.eval, Act.put]) HNL.out hsrc.out (fm_one kC_one _) hroom ?_; intro w1 ho1 hg1; have HO1 := hid ho1; have HG1 := hid hg1; have hcl := HW1.out w1 ho1; clear ho1 hg1)
  go_wp2
  all_goals go_ret
  have hOW := HO1.out
  rw [HE1.out, HEQ.out] at hOW
  refine ⟨by rw [HE1.out]; rfl, ?_, ?_⟩
  · simp only [World.setCells]
    exact own_behind (own_behind (own_behind (own_behind (own_behind hOW (by omega) _) (by omega) _) (by omega) _) (by omega) _) (by omega) _
  · simp only [World.setCells]
    exact Ex.set (Ex.set (Ex.set (Ex.set (Ex.set (Ex.grown (Ex.of_bw (Bw.drew (Bw.refl _))) HG1.out (fun b e => .inl (by cases e; simp))) (.inl (by simp)) _ _) (.inl (by simp)) _ _) (.inl (by simp)) _ _) (.inl (by simp)) _ _) (.inl (by simp)) _ _

section
variable {w : World} {p : Nat} {bs : List Nat} {mv wv kv : Value} {R : List MM} {A : LL}

theorem putA_K (A : LL) (m : Int) (x : MM) : (putA A m x).K = A.K := rfl
theorem relock_fin {w w4 : World} {g ck n : Nat} (h : PS w p bs mv wv (.slice (some ⟨g, 0, none⟩) A.K.length ck) R A) (ho : w4.ownsRow 0 94 5 (.slice (some ⟨g, 0, none⟩) (A.K.eraseIdx n).length ck) (A.K.eraseIdx n).length ((A.K.eraseIdx n).flatMap kC)) (hx : Ex [g] w w4) :
    p < w4.heap.size ∧ w4.cell? ⟨p, 0, none⟩ = some mv ∧ w4.cell? ⟨p, 2, none⟩ = some (.slice (some ⟨g, 0, none⟩) A.K.length ck) ∧ (∀ j, w4.frozen? ⟨p, j, none⟩ = false) ∧
    PS (w4.setCell ⟨p, 2, none⟩ (.slice (some ⟨g, 0, none⟩) (A.K.eraseIdx n).length ck)) p (bs ++ [g]) mv wv (.slice (some ⟨g, 0, none⟩) (A.K.eraseIdx n).length ck) R { A with K := A.K.eraseIdx n } ∧ Nx bs w (w4.setCell ⟨p, 2, none⟩ (.slice (some ⟨g, 0, none⟩) (A.K.eraseIdx n).length ck)) (bs ++ [g]) := by
  have hg := h.mkk g rfl
  have hpg : p ≠ g := fun e => row_box h.rk h.blk (by decide) (by rw [e]; rfl)
  have hb : Blk w4 p #[mv, wv, .slice (some ⟨g, 0, none⟩) A.K.length ck] 65 := h.blk.ex hx (by simpa using hpg)
  have hm : w4.ownsRow 0 85 2 mv R.length (R.flatMap mC) := own_keep h.rm (fun b e => hx.block b (h.rm.lt b e).2 (fun k => row_row h.rm h.rk (by decide) b e (by simp at k; rw [k]; rfl)))
  have hw : w4.ownsRow 0 89 4 wv A.W.length (A.W.flatMap wC) := own_keep h.rw (fun b e => hx.block b (h.rw.lt b e).2 (fun k => row_row h.rw h.rk (by decide) b e (by simp at k; rw [k]; rfl)))
  have hlen := List.length_eraseIdx_le A.K n
  have hbg := h.big
  have HT := PS.turnK h (A.K.eraseIdx n) hb hm hw ho (hx.mono (fun x hx => by simp at hx; rw [hx]; exact hg)) (fun b e => .inl (by cases e; exact hg)) (fun x hx => h.ok.K x (List.mem_of_mem_eraseIdx hx)) (by omega)
  have c0 := hb.cell 0
  have c2 := hb.cell 2
  simp only [List.getElem?_toArray, List.getElem?_cons_zero, List.getElem?_cons_succ] at c0 c2
  exact ⟨hb.lt, c0, c2, hb.free, HT.1, HT.2⟩

set_option maxRecDepth 100000 in
set_option maxHeartbeats 1000000 in
theorem Relock_ar (h : PS w p bs mv wv kv R A) (t : Int) (ht : oneOf t 256 = false) : Calls Try.prog 24 #[.pointer (some ⟨p, 0, none⟩), .int .i64 t] w fun e w' => e = .returned (.int .i64 1) ∧ Bw w w' := by
  have h1 := fun w => ht ▸ one_any t 256 w
  clear h
  go_enter Try.func24, Try.ntmps24
  go_wp2_with (first
    | (go_at_call 43; refine (h1 _).mono ?_; rintro e w1 ⟨rfl, hw⟩; subst w1)
    | fail)
  all_goals go_ret
  all_goals exact ⟨rfl, Bw.refl _⟩

set_option maxRecDepth 100000 in
set_option maxHeartbeats 1000000 in
theorem Relock_nw (h : PS w p bs mv wv kv R A) (t : Int) (ht : oneOf t 256 = true) (hwk : wokeA A t < 0) : Calls Try.prog 24 #[.pointer (some ⟨p, 0, none⟩), .int .i64 t] w fun e w' => e = .returned (.int .i64 7) ∧ Bw w w' := by
  have h1 := fun w => ht ▸ one_any t 256 w
  have HF := hid (firstWoken_any h t)
  clear h
  go_enter Try.func24, Try.ntmps24
  go_wp2_with (first
    | (go_at_call 43; refine (h1 _).mono ?_; rintro e w1 ⟨rfl, hw⟩; subst w1)
    | (go_at_call 42; refine HF.out.mono ?_; rintro e w1 ⟨rfl, hb⟩; have HB := hid hb; clear hb)
    | fail)
  all_goals go_ret
  all_goals exact ⟨rfl, HB.out⟩


set_option maxRecDepth 100000 in
set_option maxHeartbeats 2000000 in
theorem Relock_nf (h : PS w p bs mv wv kv R A) (t : Int) (ht : oneOf t 256 = true) {n : Nat} (hn : n < A.K.length) (hwk : wokeA A t = (n : Int)) (hfr : freeM (monA A A.K[n].1.m) t = false) : Calls Try.prog 24 #[.pointer (some ⟨p, 0, none⟩), .int .i64 t] w fun e w' => e = .returned (.int .i64 7) ∧ Bw w w' := by
  have h1 := fun w => ht ▸ one_any t 256 w
  have HF := hid (firstWoken_any h t)
  rw [hwk] at HF
  have HP := hid h
  obtain ⟨am, cm, rfl⟩ := own_form h.rm
  obtain ⟨ak, ck, rfl⟩ := own_form h.rk
  have hwk1 : ¬ (n : Int) < 0 := by omega
  have hwk2 : (n : Int) < A.K.length := by omega
  have hnb : n < 1000 := by have := h.big; omega
  have hokk := h.ok.K _ (List.getElem_mem hn)
  have hml := h.len
  obtain ⟨q, hq⟩ : ∃ q : Nat, A.K[n].1.m = (q : Int) := ⟨A.K[n].1.m.toNat, by have := hokk.m; omega⟩
  have hqR : q < R.length := by have := hokk.m; omega
  have hqR2 : (q : Int) < R.length := by omega
  have HQ := hid hq
  have HRQ := hid (h.raw _ (List.getElem_mem hqR))
  have HAQ := hid (h.at hqR)
  rw [hq] at hfr
  have HKN := hid (rfl : A.K[n] = A.K[n])
  obtain ⟨y, hy⟩ : ∃ y, A.K[n] = y := ⟨_, rfl⟩
  have HY := hid hy
  rw [hy] at hokk
  rw [hy] at HQ
  obtain ⟨x, hx⟩ : ∃ x, R[q] = x := ⟨_, rfl⟩
  have HX := hid hx
  rw [hx] at HRQ HAQ
  obtain ⟨a, b⟩ := x
  obtain ⟨⟨y1, y2, y3, y4⟩, y5⟩ := y
  have HYQ := hid (show y3 = (q : Int) from HQ.out)
  have HOK := hid hokk
  have hf := fun w => isFree_any a b t w
  have e1 : freeR a b t = false := by rw [freeR_nrm HRQ.out t, ← HAQ.out]; exact hfr
  simp only [e1] at hf
  clear h hx hy hq hokk hwk hfr HKN HQ
  go_enter Try.func24, Try.ntmps24
  go_wp2_with (first
    | (go_at_call 43; refine (h1 _).mono ?_; rintro e w1 ⟨rfl, hw⟩; subst w1)
    | (go_at_call 42; refine HF.out.mono ?_; rintro e w1 ⟨rfl, hb⟩; have HB1 := hid hb; have HP1 := hid (HP.out.bw hb); clear hb; obtain ⟨hlp1, d0, d1, d2, hfz1⟩ := HP1.out.cells; obtain ⟨g, e, _, hlg, hc, hfg⟩ := own_elem kC_len HP1.out.rk hn; cases e; have x0 := hc 0 (by decide); have x1 := hc 1 (by decide); have x2 := hc 2 (by decide); have x3 := hc 3 (by decide); have x4 := hc 4 (by decide); rw [HY.out, HYQ.out] at x0 x1 x2 x3 x4; simp only [kC, List.getElem?_cons_zero, List.getElem?_cons_succ, Nat.add_zero] at x0 x1 x2 x3 x4; clear hc; obtain ⟨gm, e, hlm, z0, z1, hfm⟩ := HP1.out.mon hqR; cases e; rw [HX.out] at z0 z1; simp only at z0 z1)
    | fail)
  go_region_with (go_at_call 52; refine (hf _).mono ?_; rintro e w2 ⟨rfl, hl⟩; have hb2 := hl.bw; have HB2 := hid (Bw.trans (show Bw w1 _ from (by repeat (first | exact Bw.refl _ | apply Bw.lay | apply Bw.alloc | apply Bw.drewN | apply Bw.drew))) hb2); have HP2 := hid (HP1.out.bw HB2.out); have HBX2 : Hid (Blk w2 w1.heap.size (kC (⟨y1, y2, (q : Int), y4⟩, y5)).toArray 94) := hid (Blk.bw (by first | exact Blk.new w1 _ _ | exact (Blk.new w1 _ _).drewN _) hb2); clear hl hb2)
  all_goals go_wp2
  all_goals go_ret
  all_goals exact ⟨rfl, HB1.out.trans HB2.out⟩

set_option maxRecDepth 100000 in
set_option maxHeartbeats 2000000 in
theorem Relock_ok (h : PS w p bs mv wv kv R A) (t : Int) (ht : oneOf t 256 = true) {n : Nat} (hn : n < A.K.length) (hwk : wokeA A t = (n : Int)) (hfr : freeM (monA A A.K[n].1.m) t = true) (hty : A.K[n].1.t = t) : Calls Try.prog 24 #[.pointer (some ⟨p, 0, none⟩), .int .i64 t] w fun e w' => ∃ bs', e = .returned (.int .i64 0) ∧ PX w' p bs' { putA A A.K[n].1.m (t, A.K[n].1.n) with K := A.K.eraseIdx n } ∧ Nx bs w w' bs' := by
  have h1 := fun w => ht ▸ one_any t 256 w
  have HF := hid (firstWoken_any h t)
  rw [hwk] at HF
  have HP := hid h
  obtain ⟨am, cm, rfl⟩ := own_form h.rm
  obtain ⟨ak, ck, rfl⟩ := own_form h.rk
  have hwk1 : ¬ (n : Int) < 0 := by omega
  have hwk2 : (n : Int) < A.K.length := by omega
  have hnb : n < 1000 := by have := h.big; omega
  have hokk := h.ok.K _ (List.getElem_mem hn)
  have hml := h.len
  obtain ⟨q, hq⟩ : ∃ q : Nat, A.K[n].1.m = (q : Int) := ⟨A.K[n].1.m.toNat, by have := hokk.m; omega⟩
  have hqR : q < R.length := by have := hokk.m; omega
  have hqR2 : (q : Int) < R.length := by omega
  have HQ := hid hq
  have HRQ := hid (h.raw _ (List.getElem_mem hqR))
  have HAQ := hid (h.at hqR)
  rw [hq] at hfr ⊢
  have HKN := hid (rfl : A.K[n] = A.K[n])
  obtain ⟨y, hy⟩ : ∃ y, A.K[n] = y := ⟨_, rfl⟩
  have HY := hid hy
  rw [hy] at hokk hty ⊢
  rw [hy] at HQ
  obtain ⟨x, hx⟩ : ∃ x, R[q] = x := ⟨_, rfl⟩
  have HX := hid hx
  rw [hx] at HRQ HAQ
  obtain ⟨a, b⟩ := x
  obtain ⟨⟨y1, y2, y3, y4⟩, y5⟩ := y
  have HYQ := hid (show y3 = (q : Int) from HQ.out)
  have HOK := hid hokk
  have hf := fun w => isFree_any a b t w
  have e1 : freeR a b t = true := by rw [freeR_nrm HRQ.out t, ← HAQ.out]; exact hfr
  simp only [e1] at hf
  simp only at hty
  subst hty
  clear h hx hy hq hokk hwk hfr HKN HQ
  have n1 := HOK.out.n
  have n2 := HOK.out.t
  have n3 := HOK.out.u
  simp only at n1 n2 n3
  have q1 : -9223372036854775808 ≤ y1 := by omega
  have q2 : y1 ≤ 9223372036854775807 := by omega
  have q3 : 0 ≤ y2 := by omega
  have q4 : ¬ y2 = 0 := by omega
  have HRT := hid (show RawOk (y1, y2) from ⟨⟨q1, q2⟩, ⟨q3, n1.2⟩, fun _ => n2⟩)
  have HNR := hid (show nrm (y1, y2) = (y1, y2) by unfold nrm; rw [if_neg q4])
  clear n1 n2 n3 q1 q2 q3 q4
  have E9 := hid (show ((n + 1 : Nat) : Int) = (n : Int) + 1 by omega)
  go_enter Try.func24, Try.ntmps24
  go_wp2_with (first
    | (go_at_call 43; refine (h1 _).mono ?_; rintro e w1 ⟨rfl, hw⟩; subst w1)
    | (go_at_call 42; refine HF.out.mono ?_; rintro e w1 ⟨rfl, hb⟩; have HB1 := hid hb; have HP1 := hid (HP.out.bw hb); clear hb; obtain ⟨hlp1, d0, d1, d2, hfz1⟩ := HP1.out.cells; obtain ⟨g, e, _, hlg, hc, hfg⟩ := own_elem kC_len HP1.out.rk hn; cases e; have x0 := hc 0 (by decide); have x1 := hc 1 (by decide); have x2 := hc 2 (by decide); have x3 := hc 3 (by decide); have x4 := hc 4 (by decide); rw [HY.out, HYQ.out] at x0 x1 x2 x3 x4; simp only [kC, List.getElem?_cons_zero, List.getElem?_cons_succ, Nat.add_zero] at x0 x1 x2 x3 x4; clear hc; obtain ⟨gm, e, hlm, z0, z1, hfm⟩ := HP1.out.mon hqR; cases e; rw [HX.out] at z0 z1; simp only at z0 z1)
    | fail)
  go_region_with (go_at_call 52; refine (hf _).mono ?_; rintro e w2 ⟨rfl, hl⟩; have hb2 := hl.bw; have HB2 := hid (Bw.trans (show Bw w1 _ from (by repeat (first | exact Bw.refl _ | apply Bw.lay | apply Bw.alloc | apply Bw.drewN | apply Bw.drew))) hb2); have HP2 := hid (HP1.out.bw HB2.out); have HBX2 : Hid (Blk w2 w1.heap.size (kC (⟨y1, y2, (q : Int), y4⟩, y5)).toArray 94) := hid (Blk.bw (by first | exact Blk.new w1 _ _ | exact (Blk.new w1 _ _).drewN _) hb2); clear hl hb2)
  all_goals (
    have b0 := HBX2.out.cell 0
    have b1 := HBX2.out.cell 1
    have b2 := HBX2.out.cell 2
    simp only [kC, List.getElem?_toArray, List.getElem?_cons_zero, List.getElem?_cons_succ] at b0 b1 b2
    have bl := HBX2.out.lt
    obtain ⟨hlp2, f0, f1, f2, hfz2⟩ := HP2.out.cells
    obtain ⟨gm2, e, hlm2, z20, z21, hfm2⟩ := HP2.out.mon hqR
    cases e
    have HS := hid (HP2.out.setM hqR (y1, y2) HRT.out)
    go_wp2
    go_region
    have HPD := hid (HS.out.1.bw (Bw.drew (Bw.refl _)))
    have HND := hid (HS.out.2.bw (Bw.drew (Bw.refl _)))
    generalize hW3 : ((w2.setCell ⟨gm, q * 2, none⟩ (.int .i64 y1)).setCell ⟨gm, q * 2 + 1, none⟩ (.int .i64 y2)).drew = W3 at HPD HND
    have HDL := hid (delK_any A.K HPD.out.rk hn (j := n + 1) rfl (by have := HPD.out.big; simp only [putA] at this; omega))
    rw [E9.out] at HDL
    obtain ⟨hlp3, k0, k1, k2, hfz3⟩ := HPD.out.cells
    clear HS hW3
    go_wp2_with (first
      | (go_at_call 54; refine HDL.out.mono ?_; rintro e w4 ⟨rfl, ho4, hx4⟩; have HF4 := relock_fin (A := putA A (q : Int) (nrm (y1, y2))) HPD.out ho4 hx4; simp only [putA_K] at HF4; obtain ⟨hlp4, l0, l2, hfz4, hp4, hn4⟩ := HF4; have HP4 := hid hp4; have HN4 := hid hn4; clear ho4 hx4 hp4 hn4)
      | fail)
    all_goals go_ret
    all_goals exact ⟨_, rfl, ⟨_, _, _, _, HNR.out ▸ HP4.out⟩, (Nx.of_bw (HB1.out.trans HB2.out)).trans (HND.out.trans HN4.out)⟩)

theorem Relock_any (h : PX w p bs A) (t : Int) : Calls Try.prog 24 #[.pointer (some ⟨p, 0, none⟩), .int .i64 t] w fun e w' => ∃ bs', e = .returned (.int .i64 (relE A t)) ∧ PX w' p bs' (relockA A t) ∧ Nx bs w w' bs' := by
  obtain ⟨mv, wv, kv, R, h⟩ := h
  have key : ∀ k : Int, k ≠ 0 → relE A t = k → (Calls Try.prog 24 #[.pointer (some ⟨p, 0, none⟩), .int .i64 t] w fun e w' => e = .returned (.int .i64 k) ∧ Bw w w') → Calls Try.prog 24 #[.pointer (some ⟨p, 0, none⟩), .int .i64 t] w fun e w' => ∃ bs', e = .returned (.int .i64 (relE A t)) ∧ PX w' p bs' (relockA A t) ∧ Nx bs w w' bs' := by
    intro k hk he hc
    unfold relockA
    rw [he, if_neg hk]
    exact hc.mono fun e w' ⟨he, hb⟩ => ⟨bs, he, ⟨_, _, _, _, h.bw hb⟩, Nx.of_bw hb⟩
  cases h1 : oneOf t 256
  · exact key 1 (by decide) (by simp [relE, h1]) (Relock_ar h t h1)
  · rcases woke_cases A t with ⟨e1, _⟩ | ⟨n, hn, e1, _, e3⟩
    · refine key 7 (by decide) ?_ (Relock_nw h t h1 (by omega))
      unfold relE
      rw [h1, if_pos rfl, e1]
      split <;> simp
    · cases h2 : freeM (monA A A.K[n].1.m) t
      · refine key 7 (by decide) ?_ (Relock_nf h t h1 hn e1 h2)
        unfold relE
        rw [h1, if_pos rfl, e1]
        simp only [Int.toNat_natCast, List.getElem?_eq_getElem hn]
        rw [if_neg (by omega), h2]
        rfl
      · have e : relE A t = 0 := by
          unfold relE
          rw [h1, if_pos rfl, e1]
          simp only [Int.toNat_natCast, List.getElem?_eq_getElem hn]
          rw [if_neg (by omega), h2]
          rfl
        have e' : relockA A t = { putA A A.K[n].1.m (t, A.K[n].1.n) with K := A.K.eraseIdx n } := by
          unfold relockA
          rw [e, if_pos rfl, e1]
          simp only [Int.toNat_natCast, List.getElem?_eq_getElem hn]
        rw [e, e']
        exact Relock_ok h t h1 hn e1 h2 e3
end

end Go.Proofs.Yteeeijbjokkomaa
