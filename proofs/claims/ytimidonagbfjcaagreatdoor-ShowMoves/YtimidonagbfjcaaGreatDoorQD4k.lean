/- The program's Quote: the contract. -/
import Derived.Test.YtimidonagbfjcaaGreatDoorK1
set_option linter.unusedSimpArgs false
set_option linter.unusedVariables false
namespace Go.Proofs.YtimidonagbfjcaaGreatDoor
open Go Go.RowKit

theorem hex_at (w : World) (n : Int) (h0 : 0 ≤ n) (h1 : n < 16) :
    (Instr.index 9 (.string ⟨#[48, 49, 50, 51, 52, 53, 54, 55, 56, 57, 97, 98, 99, 100, 101, 102]⟩) (.int .u8 n)).run Tryz.prog w = .ok (.int .u8 (hexD n)) w := by
  have hn : n = 0 ∨ n = 1 ∨ n = 2 ∨ n = 3 ∨ n = 4 ∨ n = 5 ∨ n = 6 ∨ n = 7 ∨ n = 8 ∨ n = 9 ∨ n = 10 ∨ n = 11 ∨ n = 12 ∨ n = 13 ∨ n = 14 ∨ n = 15 := by omega
  rw [run_index_string w 9 _ .u8 n under9]
  rcases hn with rfl | rfl | rfl | rfl | rfl | rfl | rfl | rfl | rfl | rfl | rfl | rfl | rfl | rfl | rfl | rfl <;> rfl

theorem and15 (c : Int) (h0 : 0 ≤ c) (h1 : c ≤ 255) : bits .and .u8 c 15 = c % 16 := by
  rw [u8_and c 15 h0 (by omega) (by omega) (by omega)]
  have e := Nat.and_two_pow_sub_one_eq_mod c.toNat 4
  have e2 : c.toNat &&& 15 = c.toNat % 16 := e
  rw [show (15 : Int).toNat = 15 from rfl, e2]
  omega

theorem step_append_at {P : Program} {ops : Array Oper} {o : Oper} {a : Act} {w : World} {K : Act → World → Prop} {Q : Exit → Act → World → Prop} {E : Prop}
    (hgd : o.guard = none) (s x : Operand) (t : TypeId) (ho : o.op = Op.call { callee := Callee.builtin Builtin.append, args := #[s, x], argTypes := #[t, t] }) (base : Nat)
    (e : TypeId) (i : TypeInfo) (z : Value) (size bytes : Nat) (ht : P.underlying t = some (.slice e)) (hi : P.info? e = some i) (hz : i.zero = some z)
    (hsize : i.size = size) (hby : i.bytes = bytes) (hzs : z.cells.size = size) (hsz : 0 < size)
    (v : Value) (n : Nat) (xs : List Value) (hs : a.eval s = v) (hown : w.ownsRow base e size v n xs)
    (ad : Addr) (m c : Nat) (news : List Value) (hx : a.eval x = .slice (some ad) m c) (hl : news.length = m * size) (hnews : ∀ j u, news[j]? = some u → w.cell? (ad.add j) = some u) (h1 : ∀ u ∈ news, u.oneCell' = true)
    (h63 : n + m ≤ maxLen) (hbytes : (n + m) * bytes ≤ 140737488355328) (hb : base ≤ w.heap.size)
    (h : ∀ v' w', w'.ownsRow base e size v' (n + m) (xs ++ news) → w.grownBy w' v.ownBlock → K (a.put o.dst v') w') :
    if Region.wanted o (yielded ops a.tmps) = true then Oper.wp P o a w K Q else E := by
  have hw : Region.wanted o (yielded ops a.tmps) = true := by simp [Region.wanted, hgd]
  rw [if_pos hw]
  obtain ⟨v', w', hr, h2, h3, _⟩ := run_append_own (P := P) w base t o.type e i z size bytes ht hi hz hsize hby hzs hsz v n xs hown ad m c news hl hnews h1 h63 hbytes hb
  unfold Oper.wp execOp
  simp only [ho, resolve, invoke, builtin, Sem.run_bind, Sem.run_pure, Result.andThen_ok, List.map_toArray, List.map_cons, List.map_nil, hs, hx, hr]
  exact h v' w' h2 h3

set_option maxHeartbeats 8000000 in
theorem wQuote_any (v : Value) (b : List Int) (w : World) (h : By w v b) (hm : b.length ≤ 1000000) :
    Calls Tryz.prog 17 #[v] w fun e w' => ∃ r, e = .returned r ∧ w'.ownsRow w.heap.size 5 1 r (qStr b).length ((qStr b).map (Value.int .u8)) ∧ Bw w w' := by
  have HB := hid h
  obtain ⟨a, cap, rfl⟩ := h.form
  obtain ⟨i1, hi1, hz1, hs1, hy1⟩ := info_parts infoU8
  have I1 := hid (And.intro hi1 (And.intro hz1 (And.intro hs1 hy1)))
  clear h hi1 hz1 hs1 hy1
  go_enter Tryz.func17, Tryz.ntmps17
  go_wp2
  go_loopw [3, 9] (fun s j wr => ∃ k, k ≤ b.length ∧ j = .int .i64 (k : Nat) ∧ wr.ownsRow w.heap.size 5 1 s (34 :: qAll (b.take k)).length ((34 :: qAll (b.take k)).map (Value.int .u8)) ∧ Bw w wr) (fun _ j _ => b.length - (intOf j).toNat)
  case atStart => exact ⟨0, Nat.zero_le _, rfl, own_new w [34] (by decide), Bw.alloc (Bw.refl _) _⟩
  case round =>
    obtain ⟨k, hk, rfl, hown, hbw⟩ := hrel
    have hsz : w.heap.size ≤ wr.heap.size := hbw.size
    have hql : (34 :: qAll (b.take k)).length ≤ 4 * b.length + 1 := by have := qAll_take_len b k; simp; omega
    by_cases hlt : k < b.length
    · obtain ⟨g, o, cap', e, hcap, hg, hcs⟩ := (HB.out.bw hbw).parts hlt
      cases e
      have hc := hcs k hlt
      have hkl : (k : Int) < (b.length : Int) := by omega
      have hqs : ∀ l, qOne b[k] = l → 34 :: qAll (b.take (k + 1)) = (34 :: qAll (b.take k)) ++ l := by
        intro l hl
        rw [qAll_take_succ hlt, hl]; rfl
      have hbd := HB.out.2.1 _ (List.getElem_mem hlt)
      generalize (34 :: qAll (b.take k)) = Q at hown hqs hql
      have HQS := hid hqs
      generalize b[k] = c at hc HQS hbd
      obtain ⟨ax, cax, e⟩ := own_form hown
      subst e
      have HO := hid hown
      have HW := hid hbw
      have HQL := hid hql
      clear hown hbw hcs hqs hql
      by_cases h34 : c = 34
      · have t34 : (c == 34) = true := by simpa using h34
        have HQ1 := hid (show qOne c = [92, c] by simp [qOne, h34])
        clear h34
        go_wp2_with (first
          | (at_builtin; refine wpList_append_own _ rfl _ _ 30 rfl w.heap.size 5 i1 (.int .u8 0) 1 1 under22 I1.out.1 I1.out.2.1 I1.out.2.2.1 I1.out.2.2.2 rfl (by decide) (.slice ax Q.length cax) Q.length (Q.map (Value.int .u8)) rfl (HO.out.alloc _) ⟨wr.heap.size, 0, none⟩ 2 2 [.int .u8 92, .int .u8 c] rfl rfl ?c1 ?c2 ?c3 ?c4 ?c5 ?_)
          | go_in)
        case c1 =>
          intro j u hj
          match j, hj with
            | 0, hj => simp at hj; subst hj; simp [Addr.add, go_sem]
            | 1, hj => simp at hj; subst hj; simp [Addr.add, go_sem]
        case c2 => intro u hu; simp at hu; rcases hu with rfl | rfl <;> rfl
        case c3 => have := HQL.out; unfold maxLen; omega
        case c4 => have := HQL.out; omega
        case c5 => simp only [World.size_alloc]; omega
        intro v' w1 hown hgr _
        obtain ⟨av', cv', e⟩ := own_form hown
        subst e
        have HW1 := hid (bw_grown (Bw.alloc HW.out _) (Nat.le_refl _) (HO.out.alloc _) hgr)
        have hown2 : w1.ownsRow w.heap.size 5 1 (.slice av' (Q.length + 2) cv') (Q ++ [92, c]).length ((Q ++ [92, c]).map (Value.int .u8)) := by simpa using hown
        have HO1 := hid hown2
        clear hgr hown hown2
        go_wp2
        go_roundw
        case rel => exact ⟨k + 1, by omega, by go_num, by rw [HQS.out _ HQ1.out]; exact HO1.out, HW1.out⟩
        case measure => simp [intOf]; omega
      have t34 : (c == 34) = false := by simpa using h34
      by_cases h92 : c = 92
      · have t92 : (c == 92) = true := by simpa using h92
        have HQ1 := hid (show qOne c = [92, c] by simp [qOne, h92])
        clear h92 h34
        go_wp2_with (first
          | (at_builtin; refine wpList_append_own _ rfl _ _ 30 rfl w.heap.size 5 i1 (.int .u8 0) 1 1 under22 I1.out.1 I1.out.2.1 I1.out.2.2.1 I1.out.2.2.2 rfl (by decide) (.slice ax Q.length cax) Q.length (Q.map (Value.int .u8)) rfl (HO.out.alloc _) ⟨wr.heap.size, 0, none⟩ 2 2 [.int .u8 92, .int .u8 c] rfl rfl ?c1 ?c2 ?c3 ?c4 ?c5 ?_)
          | go_in)
        case c1 =>
          intro j u hj
          match j, hj with
            | 0, hj => simp at hj; subst hj; simp [Addr.add, go_sem]
            | 1, hj => simp at hj; subst hj; simp [Addr.add, go_sem]
        case c2 => intro u hu; simp at hu; rcases hu with rfl | rfl <;> rfl
        case c3 => have := HQL.out; unfold maxLen; omega
        case c4 => have := HQL.out; omega
        case c5 => simp only [World.size_alloc]; omega
        intro v' w1 hown hgr _
        obtain ⟨av', cv', e⟩ := own_form hown
        subst e
        have HW1 := hid (bw_grown (Bw.alloc HW.out _) (Nat.le_refl _) (HO.out.alloc _) hgr)
        have hown2 : w1.ownsRow w.heap.size 5 1 (.slice av' (Q.length + 2) cv') (Q ++ [92, c]).length ((Q ++ [92, c]).map (Value.int .u8)) := by simpa using hown
        have HO1 := hid hown2
        clear hgr hown hown2
        go_wp2
        go_roundw
        case rel => exact ⟨k + 1, by omega, by go_num, by rw [HQS.out _ HQ1.out]; exact HO1.out, HW1.out⟩
        case measure => simp [intOf]; omega
      have t92 : (c == 92) = false := by simpa using h92
      by_cases h10 : c = 10
      · have t10 : (c == 10) = true := by simpa using h10
        have HQ1 := hid (show qOne c = [92, 110] by simp [qOne, h10])
        clear h10 h92 h34
        go_wp2_with (first
          | (at_builtin; refine wpList_append_own _ rfl _ _ 30 rfl w.heap.size 5 i1 (.int .u8 0) 1 1 under22 I1.out.1 I1.out.2.1 I1.out.2.2.1 I1.out.2.2.2 rfl (by decide) (.slice ax Q.length cax) Q.length (Q.map (Value.int .u8)) rfl (HO.out.alloc _) ⟨wr.heap.size, 0, none⟩ 2 2 [.int .u8 92, .int .u8 110] rfl rfl ?c1 ?c2 ?c3 ?c4 ?c5 ?_)
          | go_in)
        case c1 =>
          intro j u hj
          match j, hj with
            | 0, hj => simp at hj; subst hj; simp [Addr.add, go_sem]
            | 1, hj => simp at hj; subst hj; simp [Addr.add, go_sem]
        case c2 => intro u hu; simp at hu; rcases hu with rfl | rfl <;> rfl
        case c3 => have := HQL.out; unfold maxLen; omega
        case c4 => have := HQL.out; omega
        case c5 => simp only [World.size_alloc]; omega
        intro v' w1 hown hgr _
        obtain ⟨av', cv', e⟩ := own_form hown
        subst e
        have HW1 := hid (bw_grown (Bw.alloc HW.out _) (Nat.le_refl _) (HO.out.alloc _) hgr)
        have hown2 : w1.ownsRow w.heap.size 5 1 (.slice av' (Q.length + 2) cv') (Q ++ [92, 110]).length ((Q ++ [92, 110]).map (Value.int .u8)) := by simpa using hown
        have HO1 := hid hown2
        clear hgr hown hown2
        go_wp2
        go_roundw
        case rel => exact ⟨k + 1, by omega, by go_num, by rw [HQS.out _ HQ1.out]; exact HO1.out, HW1.out⟩
        case measure => simp [intOf]; omega
      have t10 : (c == 10) = false := by simpa using h10
      by_cases h9 : c = 9
      · have t9 : (c == 9) = true := by simpa using h9
        have HQ1 := hid (show qOne c = [92, 116] by simp [qOne, h9])
        clear h9 h10 h92 h34
        go_wp2_with (first
          | (at_builtin; refine wpList_append_own _ rfl _ _ 30 rfl w.heap.size 5 i1 (.int .u8 0) 1 1 under22 I1.out.1 I1.out.2.1 I1.out.2.2.1 I1.out.2.2.2 rfl (by decide) (.slice ax Q.length cax) Q.length (Q.map (Value.int .u8)) rfl (HO.out.alloc _) ⟨wr.heap.size, 0, none⟩ 2 2 [.int .u8 92, .int .u8 116] rfl rfl ?c1 ?c2 ?c3 ?c4 ?c5 ?_)
          | go_in)
        case c1 =>
          intro j u hj
          match j, hj with
            | 0, hj => simp at hj; subst hj; simp [Addr.add, go_sem]
            | 1, hj => simp at hj; subst hj; simp [Addr.add, go_sem]
        case c2 => intro u hu; simp at hu; rcases hu with rfl | rfl <;> rfl
        case c3 => have := HQL.out; unfold maxLen; omega
        case c4 => have := HQL.out; omega
        case c5 => simp only [World.size_alloc]; omega
        intro v' w1 hown hgr _
        obtain ⟨av', cv', e⟩ := own_form hown
        subst e
        have HW1 := hid (bw_grown (Bw.alloc HW.out _) (Nat.le_refl _) (HO.out.alloc _) hgr)
        have hown2 : w1.ownsRow w.heap.size 5 1 (.slice av' (Q.length + 2) cv') (Q ++ [92, 116]).length ((Q ++ [92, 116]).map (Value.int .u8)) := by simpa using hown
        have HO1 := hid hown2
        clear hgr hown hown2
        go_wp2
        go_roundw
        case rel => exact ⟨k + 1, by omega, by go_num, by rw [HQS.out _ HQ1.out]; exact HO1.out, HW1.out⟩
        case measure => simp [intOf]; omega
      have t9 : (c == 9) = false := by simpa using h9
      by_cases hx : c < 32 ∨ c > 126
      · have HQ1 := hid (show qOne c = [92, 120, hexD (c / 16), hexD (c % 16)] by simp only [qOne, if_neg h10, if_neg h9, if_neg (show ¬ (c = 34 ∨ c = 92) by omega), if_pos hx])
        clear h92 h34 h9 h10
        have t32 : (decide (32 ≤ c) = true ∧ decide (c ≤ 126) = false) ∨ decide (32 ≤ c) = false := by
          by_cases h : 32 ≤ c
          · exact .inl ⟨decide_eq_true h, decide_eq_false (by omega)⟩
          · exact .inr (decide_eq_false h)
        rcases t32 with ⟨t32, t126⟩ | t32
        · go_upto_region 5 with fail
          have hi1 : ∀ w, (Instr.index 9 (.string ⟨#[48, 49, 50, 51, 52, 53, 54, 55, 56, 57, 97, 98, 99, 100, 101, 102]⟩) (.int .u8 (c / 16))).run Tryz.prog w = .ok (.int .u8 (hexD (c / 16))) w := fun w => hex_at w _ (by omega) (by omega)
          have hi2 : ∀ w, (Instr.index 9 (.string ⟨#[48, 49, 50, 51, 52, 53, 54, 55, 56, 57, 97, 98, 99, 100, 101, 102]⟩) (.int .u8 (c % 16))).run Tryz.prog w = .ok (.int .u8 (hexD (c % 16))) w := fun w => hex_at w _ (by omega) (by omega)
          have hc0 : ((wr.alloc (.cells #[.int .u8 92, .int .u8 120, .int .u8 (hexD (c / 16)), .int .u8 (hexD (c % 16))] 5)).drew).ownsRow w.heap.size 5 1 (.slice ax Q.length cax) Q.length (Q.map (Value.int .u8)) := HO.out.alloc _
          have hc1 : ∀ (j : Nat) (u : Value), (([.int .u8 92, .int .u8 120, .int .u8 (hexD (c / 16)), .int .u8 (hexD (c % 16))] : List Value)[j]? = some u) → ((wr.alloc (.cells #[.int .u8 92, .int .u8 120, .int .u8 (hexD (c / 16)), .int .u8 (hexD (c % 16))] 5)).drew).cell? (Addr.add ⟨wr.heap.size, 0, none⟩ j) = some u := by
            intro j u hj
            match j, hj with
              | 0, hj => simp at hj; subst hj; simp [Addr.add, go_sem]
              | 1, hj => simp at hj; subst hj; simp [Addr.add, go_sem]
              | 2, hj => simp at hj; subst hj; simp [Addr.add, go_sem]
              | 3, hj => simp at hj; subst hj; simp [Addr.add, go_sem]
          have hc2 : ∀ u ∈ ([.int .u8 92, .int .u8 120, .int .u8 (hexD (c / 16)), .int .u8 (hexD (c % 16))] : List Value), u.oneCell' = true := by intro u hu; simp at hu; rcases hu with rfl | rfl | rfl | rfl <;> rfl
          have hc3 : Q.length + 4 ≤ maxLen := by have := HQL.out; unfold maxLen; omega
          have hc4 : (Q.length + 4) * 1 ≤ 140737488355328 := by have := HQL.out; omega
          have hc5 : w.heap.size ≤ ((wr.alloc (.cells #[.int .u8 92, .int .u8 120, .int .u8 (hexD (c / 16)), .int .u8 (hexD (c % 16))] 5)).drew).heap.size := by show _ ≤ (wr.alloc (.cells #[.int .u8 92, .int .u8 120, .int .u8 (hexD (c / 16)), .int .u8 (hexD (c % 16))] 5)).heap.size; simp only [World.size_alloc]; omega
          have ha := and15 c hbd.1 hbd.2
          go_region_law (refine step_append_at rfl (.tmp 13) (.tmp 20) 30 rfl w.heap.size 5 i1 (.int .u8 0) 1 1 under22 I1.out.1 I1.out.2.1 I1.out.2.2.1 I1.out.2.2.2 rfl (by decide) (.slice ax Q.length cax) Q.length (Q.map (Value.int .u8)) (by simp [Act.eval, Act.put]) hc0 ⟨wr.heap.size, 0, none⟩ 4 4 [.int .u8 92, .int .u8 120, .int .u8 (hexD (c / 16)), .int .u8 (hexD (c % 16))] (by simp [Act.eval, Act.put]) rfl hc1 hc2 hc3 hc4 hc5 ?_; intro v' w1 hown hgr; obtain ⟨av', cv', e⟩ := own_form hown; subst e; have HW1 := hid (bw_grown (Bw.drew (Bw.alloc HW.out (.cells #[.int .u8 92, .int .u8 120, .int .u8 (hexD (c / 16)), .int .u8 (hexD (c % 16))] 5))) (Nat.le_refl _) hc0 hgr); have hown2 : w1.ownsRow w.heap.size 5 1 (.slice av' (Q.length + 4) cv') (Q ++ [92, 120, (hexD (c / 16)), (hexD (c % 16))]).length ((Q ++ [92, 120, (hexD (c / 16)), (hexD (c % 16))]).map (Value.int .u8)) := (by simpa using hown); have HO1 := hid hown2; clear hgr hown hown2)
          all_goals go_wp2
          all_goals go_roundw
          all_goals first | exact ⟨k + 1, by omega, by go_num, by rw [HQS.out _ HQ1.out]; exact HO1.out, HW1.out⟩ | (simp [intOf]; omega)
        · go_upto_region 5 with fail
          have hi1 : ∀ w, (Instr.index 9 (.string ⟨#[48, 49, 50, 51, 52, 53, 54, 55, 56, 57, 97, 98, 99, 100, 101, 102]⟩) (.int .u8 (c / 16))).run Tryz.prog w = .ok (.int .u8 (hexD (c / 16))) w := fun w => hex_at w _ (by omega) (by omega)
          have hi2 : ∀ w, (Instr.index 9 (.string ⟨#[48, 49, 50, 51, 52, 53, 54, 55, 56, 57, 97, 98, 99, 100, 101, 102]⟩) (.int .u8 (c % 16))).run Tryz.prog w = .ok (.int .u8 (hexD (c % 16))) w := fun w => hex_at w _ (by omega) (by omega)
          have hc0 : ((wr.alloc (.cells #[.int .u8 92, .int .u8 120, .int .u8 (hexD (c / 16)), .int .u8 (hexD (c % 16))] 5)).drew).ownsRow w.heap.size 5 1 (.slice ax Q.length cax) Q.length (Q.map (Value.int .u8)) := HO.out.alloc _
          have hc1 : ∀ (j : Nat) (u : Value), (([.int .u8 92, .int .u8 120, .int .u8 (hexD (c / 16)), .int .u8 (hexD (c % 16))] : List Value)[j]? = some u) → ((wr.alloc (.cells #[.int .u8 92, .int .u8 120, .int .u8 (hexD (c / 16)), .int .u8 (hexD (c % 16))] 5)).drew).cell? (Addr.add ⟨wr.heap.size, 0, none⟩ j) = some u := by
            intro j u hj
            match j, hj with
              | 0, hj => simp at hj; subst hj; simp [Addr.add, go_sem]
              | 1, hj => simp at hj; subst hj; simp [Addr.add, go_sem]
              | 2, hj => simp at hj; subst hj; simp [Addr.add, go_sem]
              | 3, hj => simp at hj; subst hj; simp [Addr.add, go_sem]
          have hc2 : ∀ u ∈ ([.int .u8 92, .int .u8 120, .int .u8 (hexD (c / 16)), .int .u8 (hexD (c % 16))] : List Value), u.oneCell' = true := by intro u hu; simp at hu; rcases hu with rfl | rfl | rfl | rfl <;> rfl
          have hc3 : Q.length + 4 ≤ maxLen := by have := HQL.out; unfold maxLen; omega
          have hc4 : (Q.length + 4) * 1 ≤ 140737488355328 := by have := HQL.out; omega
          have hc5 : w.heap.size ≤ ((wr.alloc (.cells #[.int .u8 92, .int .u8 120, .int .u8 (hexD (c / 16)), .int .u8 (hexD (c % 16))] 5)).drew).heap.size := by show _ ≤ (wr.alloc (.cells #[.int .u8 92, .int .u8 120, .int .u8 (hexD (c / 16)), .int .u8 (hexD (c % 16))] 5)).heap.size; simp only [World.size_alloc]; omega
          have ha := and15 c hbd.1 hbd.2
          go_region_law (refine step_append_at rfl (.tmp 13) (.tmp 20) 30 rfl w.heap.size 5 i1 (.int .u8 0) 1 1 under22 I1.out.1 I1.out.2.1 I1.out.2.2.1 I1.out.2.2.2 rfl (by decide) (.slice ax Q.length cax) Q.length (Q.map (Value.int .u8)) (by simp [Act.eval, Act.put]) hc0 ⟨wr.heap.size, 0, none⟩ 4 4 [.int .u8 92, .int .u8 120, .int .u8 (hexD (c / 16)), .int .u8 (hexD (c % 16))] (by simp [Act.eval, Act.put]) rfl hc1 hc2 hc3 hc4 hc5 ?_; intro v' w1 hown hgr; obtain ⟨av', cv', e⟩ := own_form hown; subst e; have HW1 := hid (bw_grown (Bw.drew (Bw.alloc HW.out (.cells #[.int .u8 92, .int .u8 120, .int .u8 (hexD (c / 16)), .int .u8 (hexD (c % 16))] 5))) (Nat.le_refl _) hc0 hgr); have hown2 : w1.ownsRow w.heap.size 5 1 (.slice av' (Q.length + 4) cv') (Q ++ [92, 120, (hexD (c / 16)), (hexD (c % 16))]).length ((Q ++ [92, 120, (hexD (c / 16)), (hexD (c % 16))]).map (Value.int .u8)) := (by simpa using hown); have HO1 := hid hown2; clear hgr hown hown2)
          all_goals go_wp2
          all_goals go_roundw
          all_goals first | exact ⟨k + 1, by omega, by go_num, by rw [HQS.out _ HQ1.out]; exact HO1.out, HW1.out⟩ | (simp [intOf]; omega)
      · have HQ1 := hid (show qOne c = [c] by simp only [qOne, if_neg h10, if_neg h9, if_neg (show ¬ (c = 34 ∨ c = 92) by omega), if_neg hx])
        have t32 : decide (32 ≤ c) = true := decide_eq_true (by omega)
        have t126 : decide (c ≤ 126) = true := decide_eq_true (by omega)
        clear h92 h34 h9 h10 hx
        go_wp2_with (first
          | (at_builtin; refine wpList_append_own _ rfl _ _ 30 rfl w.heap.size 5 i1 (.int .u8 0) 1 1 under22 I1.out.1 I1.out.2.1 I1.out.2.2.1 I1.out.2.2.2 rfl (by decide) (.slice ax Q.length cax) Q.length (Q.map (Value.int .u8)) rfl (HO.out.alloc _) ⟨wr.heap.size, 0, none⟩ 1 1 [.int .u8 c] rfl rfl ?c1 ?c2 ?c3 ?c4 ?c5 ?_)
          | go_in)
        case c1 =>
          intro j u hj
          match j, hj with
            | 0, hj => simp at hj; subst hj; simp [Addr.add, go_sem]
        case c2 => intro u hu; simp at hu; subst hu; rfl
        case c3 => have := HQL.out; unfold maxLen; omega
        case c4 => have := HQL.out; omega
        case c5 => simp only [World.size_alloc]; omega
        intro v' w1 hown hgr _
        obtain ⟨av', cv', e⟩ := own_form hown
        subst e
        have HW1 := hid (bw_grown (Bw.alloc HW.out _) (Nat.le_refl _) (HO.out.alloc _) hgr)
        have hown2 : w1.ownsRow w.heap.size 5 1 (.slice av' (Q.length + 1) cv') (Q ++ [c]).length ((Q ++ [c]).map (Value.int .u8)) := by simpa using hown
        have HO1 := hid hown2
        clear hgr hown hown2
        go_wp2
        go_roundw
        case rel => exact ⟨k + 1, by omega, by go_num, by rw [HQS.out _ HQ1.out]; exact HO1.out, HW1.out⟩
        case measure => simp [intOf]; omega
    · have hkb : b.take k = b := List.take_of_length_le (by omega)
      rw [hkb] at hown hql
      have heq : qStr b = (34 :: qAll b) ++ [34] := rfl
      have HEQ := hid heq
      clear heq hkb
      generalize (34 :: qAll b) = Q at hown hql HEQ
      obtain ⟨ax, cax, e⟩ := own_form hown
      subst e
      have HO := hid hown
      have HW := hid hbw
      have HQL := hid hql
      clear hown hbw hql
      go_wp2_with (first
        | (at_builtin; refine wpList_append_own _ rfl _ _ 30 rfl w.heap.size 5 i1 (.int .u8 0) 1 1 under22 I1.out.1 I1.out.2.1 I1.out.2.2.1 I1.out.2.2.2 rfl (by decide) (.slice ax Q.length cax) Q.length (Q.map (Value.int .u8)) rfl (HO.out.alloc _) ⟨wr.heap.size, 0, none⟩ 1 1 [.int .u8 34] rfl rfl ?c1 ?c2 ?c3 ?c4 ?c5 ?_)
        | go_in)
      case c1 =>
        intro j u hj
        match j, hj with
          | 0, hj => simp at hj; subst hj; simp [Addr.add, go_sem]
      case c2 => intro u hu; simp at hu; subst hu; rfl
      case c3 => have := HQL.out; unfold maxLen; omega
      case c4 => have := HQL.out; omega
      case c5 => simp only [World.size_alloc]; omega
      intro v' w1 hown hgr _
      obtain ⟨av', cv', e⟩ := own_form hown
      subst e
      have HW1 := hid (bw_grown (Bw.alloc HW.out _) (Nat.le_refl _) (HO.out.alloc _) hgr)
      have hown2 : w1.ownsRow w.heap.size 5 1 (.slice av' (Q.length + 1) cv') (Q ++ [34]).length ((Q ++ [34]).map (Value.int .u8)) := by simpa using hown
      have HO1 := hid hown2
      clear hgr hown hown2
      go_wp2
      all_goals go_ret
      all_goals exact ⟨_, rfl, by rw [HEQ.out]; exact HO1.out, HW1.out⟩

end Go.Proofs.YtimidonagbfjcaaGreatDoor

