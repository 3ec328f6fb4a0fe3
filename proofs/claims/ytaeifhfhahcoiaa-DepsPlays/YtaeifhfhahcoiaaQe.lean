/- The document's Wrote: the contract. -/
import Derived.Test.YtaeifhfhahcoiaaQd
set_option linter.unusedSimpArgs false
set_option linter.unusedVariables false
namespace Go.Proofs.Ytaeifhfhahcoiaa
open Go Go.RowKit

def offqs : List Nat → List (VV × Value) → List (VV × Value)
  | [], L => L
  | i :: is, L => offqs is (L.modify i offq)
theorem offqs_len : ∀ (is : List Nat) (L : List (VV × Value)), (offqs is L).length = L.length
  | [], L => rfl
  | i :: is, L => by rw [offqs, offqs_len]; simp
theorem offqs_snoc : ∀ (is : List Nat) (i : Nat) (L : List (VV × Value)), offqs (is ++ [i]) L = (offqs is L).modify i offq
  | [], i, L => rfl
  | j :: is, i, L => by simp only [List.cons_append, offqs]; exact offqs_snoc is i _
theorem offqs_map : ∀ (is : List Nat) (L : List (VV × Value)), (offqs is L).map Prod.fst = offs is (L.map Prod.fst)
  | [], L => rfl
  | i :: is, L => by rw [offqs, offqs_map, map_offq]; rfl
theorem offqs_at : ∀ (is : List Nat) (L : List (VV × Value)) (n : Nat), n ∉ is → (offqs is L)[n]? = L[n]?
  | [], L, n, _ => rfl
  | i :: is, L, n, h => by
    simp only [List.mem_cons, not_or] at h
    rw [offqs, offqs_at is _ n h.2, List.getElem?_modify]
    cases L[n]? with
    | none => rfl
    | some x => simp [Ne.symm h.1]
theorem mem_offqs : ∀ (is : List Nat) (L : List (VV × Value)), ∀ q ∈ offqs is L, ∃ q0 ∈ L, q.2 = q0.2 ∧ q.1.on = q0.1.on
  | [], L, q, hq => ⟨q, hq, rfl, rfl⟩
  | i :: is, L, q, hq => by
    obtain ⟨q1, h1, e1, e2⟩ := mem_offqs is _ q hq
    obtain ⟨q0, h0, e3, e4⟩ := mem_modq q1 h1
    exact ⟨q0, h0, e1.trans e3, e2.trans e4⟩

/-- Is there one among the first k that the write ends? -/
def hitK (g v : Int) (l : List (Int × Int)) (k : Nat) : Bool := (l.take k).any (fun y => y.1 == g && y.2 != v)
theorem hitK_succ {g v : Int} {l : List (Int × Int)} {k : Nat} (h : k < l.length) : hitK g v l (k + 1) = (hitK g v l k || (l[k].1 == g && l[k].2 != v)) := by
  unfold hitK
  rw [List.take_add_one, List.getElem?_eq_getElem h, List.any_append]
  simp
theorem hitK_all (g v : Int) (x : VV) : (x.ok && hitK g v x.on x.on.length) = hit g v x := by unfold hitK hit; rw [List.take_length]

structure WR (w wr : World) (F G : Nat) (v0 : Value) (L : List (VV × Value)) (J : List Nat) (v3 o : Value) : Prop where
  bw : Bw w wr
  bp : Blk wr w.heap.size #[.int .i64 F, .int .i64 G, v0] 31
  br : Blk wr (w.heap.size + 1) #[.int .i64 0, .int .i64 0, .slice none 0 0] 31
  row : wr.ownsRow (w.heap.size + 2) 45 3 v3 L.length (rowC (offqs J L))
  out : wr.ownsRow (w.heap.size + 2) 3 1 o J.length (ints J)

theorem WR.at {w wr : World} {F G : Nat} {v0 o : Value} {L : List (VV × Value)} {J : List Nat} {ga : Option Addr} {cap n : Nat} (h : WR w wr F G v0 L J (.slice ga L.length cap) o) (hn : n < L.length) (hj : n ∉ J) :
    ∃ g, ga = some ⟨g, 0, none⟩ ∧ g < wr.heap.size ∧ w.heap.size + 2 ≤ g ∧ wr.cell? ⟨g, n * 3 + 1, none⟩ = some L[n].2 ∧ wr.cell? ⟨g, n * 3 + 2, none⟩ = some (.bool L[n].1.ok) ∧ (∀ j, wr.frozen? ⟨g, j, none⟩ = false) ∧
      (wr.setCell ⟨g, n * 3 + 2, none⟩ (.bool false)).ownsRow (w.heap.size + 2) 45 3 (.slice ga L.length cap) L.length (rowC (offqs (J ++ [n]) L)) := by
  obtain ⟨g, c2, cur, e, hgb, hbk, hc1, hc2, hsz, ht⟩ := own_parts h.row (by omega)
  cases e
  have hl := offqs_len J L
  have hn2 : n < (offqs J L).length := by omega
  obtain ⟨q0, q1, q2⟩ := rowC_get (offqs J L) n hn2
  have hat : (offqs J L)[n] = L[n] := by
    have := offqs_at J L n hj
    rw [List.getElem?_eq_getElem hn2, List.getElem?_eq_getElem hn] at this
    exact Option.some.inj this
  rw [hat] at q1 q2
  have key : ∀ j, j < 3 → wr.cell? ⟨g, n * 3 + j, none⟩ = (rowC (offqs J L))[n * 3 + j]? := by
    intro j hj
    rw [hbk.cell, ← ht, List.getElem?_take, if_pos (by omega)]
    simp
  refine ⟨g, rfl, hbk.lt, hgb, (key 1 (by omega)).trans q1, (key 2 (by omega)).trans q2, hbk.free, ?_⟩
  rw [offqs_snoc, rowC_off _ n hn2]
  exact own_set h.row (by omega) _

theorem WR.drewN {w wr : World} {F G : Nat} {v0 v3 o : Value} {L : List (VV × Value)} {J : List Nat} (h : WR w wr F G v0 L J v3 o) (n : Nat) : WR w (wr.drewN n) F G v0 L J v3 o :=
  ⟨Bw.drewN h.bw n, h.bp.drewN n, h.br.drewN n, own_bw h.row (bw_drewN _ _), own_bw h.out (bw_drewN _ _)⟩

set_option maxRecDepth 100000 in
set_option maxHeartbeats 2000000 in
theorem rWrote_noa {w : World} {GG : Nat → Prop} {F G : Nat} {av : Option Addr} {cv : Nat} {L : List (VV × Value)} (h : RS w GG (.slice av L.length cv) L) (g v : Int) (y : g < 0) : Calls Try.prog 25 #[.agg #[.int .i64 F, .int .i64 G, .slice av L.length cv], .int .i64 g, .int .u64 v] w fun e w' => e = .returned (.tuple #[.agg #[.int .i64 F, .int .i64 G, .slice av L.length cv], .slice none 0 0, .int .i64 1]) ∧ Bw w w' := by
  clear h
  go_enter Try.func25, Try.ntmps25
  go_wp2
  all_goals exact bodyPost_ret (v := .tuple #[.agg #[.int .i64 F, .int .i64 G, .slice av L.length cv], .slice none 0 0, .int .i64 1]) (by simp [results, Try.results25, go_sem, *]) rfl ⟨rfl, (by repeat (first | exact Bw.refl _ | apply Bw.alloc | apply Bw.drewN | apply Bw.drew))⟩

set_option maxRecDepth 100000 in
set_option maxHeartbeats 2000000 in
theorem rWrote_nob {w : World} {GG : Nat → Prop} {F G : Nat} {av : Option Addr} {cv : Nat} {L : List (VV × Value)} (h : RS w GG (.slice av L.length cv) L) (g v : Int) (n : ¬ g < 0) (y : (G : Int) ≤ g) : Calls Try.prog 25 #[.agg #[.int .i64 F, .int .i64 G, .slice av L.length cv], .int .i64 g, .int .u64 v] w fun e w' => e = .returned (.tuple #[.agg #[.int .i64 F, .int .i64 G, .slice av L.length cv], .slice none 0 0, .int .i64 1]) ∧ Bw w w' := by
  have d0 : decide (g < 0) = false := decide_eq_false n
  clear h
  go_enter Try.func25, Try.ntmps25
  go_wp2
  all_goals exact bodyPost_ret (v := .tuple #[.agg #[.int .i64 F, .int .i64 G, .slice av L.length cv], .slice none 0 0, .int .i64 1]) (by simp [results, Try.results25, go_sem, *]) rfl ⟨rfl, (by repeat (first | exact Bw.refl _ | apply Bw.alloc | apply Bw.drewN | apply Bw.drew))⟩

set_option maxRecDepth 100000 in
set_option maxHeartbeats 2000000 in
theorem rWrote_yes {w : World} {GG : Nat → Prop} {F G : Nat} {av : Option Addr} {cv : Nat} {L : List (VV × Value)} (h : RS w GG (.slice av L.length cv) L) (g v : Int) (h1 : 0 ≤ g ∧ g < G) : Calls Try.prog 25 #[.agg #[.int .i64 F, .int .i64 G, .slice av L.length cv], .int .i64 g, .int .u64 v] w fun e w' => ∃ v' o L', e = .returned (.tuple #[rV F G v', o, .int .i64 0]) ∧ Bw w w' ∧ RS w' (fun b => GG b ∨ w.heap.size ≤ b) v' L' ∧ L'.map Prod.fst = wroteL g v (L.map Prod.fst) ∧ w'.ownsRow w.heap.size 3 1 o (all (hit g v) (L.map Prod.fst)).length (ints (all (hit g v) (L.map Prod.fst))) := by
  have HR := hid h
  have HO1 := hid h.ons
  have hll := h.big.1
  have HBG := hid h.big.2
  obtain ⟨i3, hi3, hz3, hs3, hy3⟩ := info_parts infoRv
  have I3 := hid (And.intro hi3 (And.intro hz3 (And.intro hs3 hy3)))
  obtain ⟨i2, hi2, hz2, hs2, hy2⟩ := info_parts infoI
  have I2 := hid (And.intro hi2 (And.intro hz2 (And.intro hs2 hy2)))
  clear h hi3 hz3 hs3 hy3 hi2 hz2 hs2 hy2
  have d0 : decide (g < 0) = false := decide_eq_false (by omega)
  have d1 : decide ((G : Int) ≤ g) = false := decide_eq_false (by omega)
  have HLM := hid (show (L.map Prod.fst).length = L.length by simp)
  go_enter Try.func25, Try.ntmps25
  go_wp2_with (first
    | (at_builtin; refine wpList_append_sl _ rfl _ _ 29 rfl (w.heap.size + 2) 45 i3 _ 3 40 Try.underlying29 I3.out.1 I3.out.2.1 I3.out.2.2.1 I3.out.2.2.2 rfl (by decide) (.slice (some ⟨w.heap.size + 1 + 1, 0, none⟩) 0 0) 0 [] rfl (own_empty _ _ _ _ _ (by simp) (by omega)) (.slice av L.length cv) L.length (rowC L) rfl (HR.out.row.below (by repeat (first | exact Bw.refl _ | apply Bw.alloc | apply Bw.drewN | apply Bw.drew))) (rowC_one HO1.out) ?c3 ?c4 ?c5 ?_)
    | fail)
  case c3 => unfold maxLen; omega
  case c4 => omega
  case c5 => simp only [World.size_alloc]; omega
  intro v3 w3 hown hgr
  have hb0 : Bw w ((w.alloc (.cells #[.int .i64 F, .int .i64 G, .slice av L.length cv] 31)).alloc (.cells #[.int .i64 0, .int .i64 0, .slice none 0 0] 31)) := Bw.alloc (Bw.alloc (Bw.refl _) _) _
  have hb3 : Bw ((w.alloc (.cells #[.int .i64 F, .int .i64 G, .slice av L.length cv] 31)).alloc (.cells #[.int .i64 0, .int .i64 0, .slice none 0 0] 31)) w3 := bw_grownAt (Bw.alloc (Bw.refl _) (.cells #[] 45)) hgr (by simp)
  have hown2 : w3.ownsRow (w.heap.size + 2) 45 3 v3 L.length (rowC L) := by simpa using hown
  have BP := (Blk.alloc (Blk.new w #[.int .i64 F, .int .i64 G, .slice av L.length cv] 31) (.cells #[.int .i64 0, .int .i64 0, .slice none 0 0] 31)).bw hb3
  have BR := (Blk.newAt (w.alloc (.cells #[.int .i64 F, .int .i64 G, .slice av L.length cv] 31)) #[.int .i64 0, .int .i64 0, .slice none 0 0] 31 (w.heap.size + 1) (by simp only [World.size_alloc])).bw hb3
  have HB3 := hid (hb0.trans hb3)
  obtain ⟨a3, c3, e3⟩ := own_form hown2
  subst e3
  have HW0 := hid (show WR w w3 F G (.slice av L.length cv) L [] (.slice a3 L.length c3) (.slice none 0 0) from ⟨HB3.out, BP, BR, hown2, World.ownsRow_nil _ _ _ _⟩)
  clear hown hgr hb0 hb3 hown2 BP BR HB3
  go_wp2
  go_loopw [9, 11] (fun o j wr => ∃ (i : Nat), i ≤ L.length ∧ j = .int .i64 i ∧ WR w wr F G (.slice av L.length cv) L (idx (hit g v) (L.map Prod.fst) i) (.slice a3 L.length c3) o) (fun o j _ => L.length - (intOf j).toNat)
  case atStart => exact ⟨0, by omega, rfl, HW0.out⟩
  case round =>
    obtain ⟨i, hi, rfl, hw⟩ := hrel
    have HW := hid hw
    by_cases h4 : i < L.length
    · have h4' : (i : Int) < (L.length : Int) := by omega
      obtain ⟨gg, e, hlg, hgg, x1, x2, xf, hset⟩ := hw.at h4 (fun hm => by have := (mem_idx.1 hm).1; omega)
      subst e
      have HSET := hid hset
      have hL : (L.map Prod.fst)[i]? = some L[i].1 := by simp [h4]
      have HY := hid (fun h => idx_yes (P := hit g v) hL h)
      have HN := hid (fun h => idx_no (P := hit g v) hL h)
      have hjl := idx_len (hit g v) (L.map Prod.fst) i
      have HON := hid (HO1.out _ (List.getElem_mem h4))
      have hbg := HBG.out _ (List.getElem_mem h4)
      obtain ⟨q, hq⟩ : ∃ q, L[i] = q := ⟨_, rfl⟩
      rw [hq] at x1 x2 HY HN HON hbg
      obtain ⟨⟨qf, ql, qo⟩, qv⟩ := q
      obtain ⟨a1, c1, e1⟩ := HON.out.form
      simp only at e1 hbg
      subst e1
      simp only at x1 x2
      obtain ⟨ao, co, eo⟩ := own_form hw.out
      subst eo
      have hgp : gg ≠ w.heap.size := by omega
      have hgr' : gg ≠ w.heap.size + 1 := by omega
      clear hw hset hq hL
      go_wp2
      go_loopw [12, 13] (fun t j ws => ∃ (k : Nat), k ≤ ql.length ∧ t = .bool (hitK g v ql k) ∧ j = .int .i64 k ∧ ws = wr) (fun t j _ => ql.length - (intOf j).toNat)
      case atStart => exact ⟨0, by omega, rfl, rfl, rfl⟩
      case round =>
        obtain ⟨k, hk, rfl, rfl, rfl⟩ := hrel
        by_cases h5 : k < ql.length
        · have h5' : (k : Int) < (ql.length : Int) := by omega
          obtain ⟨b2, o2, e2, hlb2, t0, t1⟩ := (HON.out.below HW.out.bw).two h5
          subst e2
          obtain ⟨s0, s1⟩ := depC_get ql k h5
          rw [s0] at t0
          rw [s1] at t1
          have HSU := hid (hitK_succ (g := g) (v := v) h5)
          obtain ⟨y1, hy1⟩ : ∃ y1, ql[k].1 = y1 := ⟨_, rfl⟩
          obtain ⟨y2, hy2⟩ : ∃ y2, ql[k].2 = y2 := ⟨_, rfl⟩
          rw [hy1] at t0 HSU
          rw [hy2] at t1 HSU
          clear s0 s1 hy1 hy2
          cases hh : hitK g v ql k
          · rw [hh] at HSU
            cases g1 : (y1 == g)
            · rw [g1] at HSU
              clear hh
              go_wp2
              go_roundw
              case rel => exact ⟨k + 1, by omega, by rw [HSU.out]; rfl, by go_num, (by first | rfl | trivial)⟩
              case measure => simp [intOf]; omega
            · rw [g1] at HSU
              cases g2 : (y2 != v)
              · rw [g2] at HSU
                clear hh
                go_wp2
                go_roundw
                case rel => exact ⟨k + 1, by omega, by rw [HSU.out]; rfl, by go_num, (by first | rfl | trivial)⟩
                case measure => simp [intOf]; omega
              · rw [g2] at HSU
                clear hh
                go_wp2
                go_roundw
                case rel => exact ⟨k + 1, by omega, by rw [HSU.out]; rfl, by go_num, (by first | rfl | trivial)⟩
                case measure => simp [intOf]; omega
          · rw [hh] at HSU
            clear hh
            go_wp2
            go_roundw
            case rel => exact ⟨k + 1, by omega, by rw [HSU.out]; rfl, by go_num, (by first | rfl | trivial)⟩
            case measure => simp [intOf]; omega
        · have h5' : ¬ (k : Int) < (ql.length : Int) := by omega
          obtain rfl : k = ql.length := by omega
          have HH := hid (hitK_all g v ⟨qf, ql, qo⟩)
          cases qo
          · have HI := hid (HN.out (by rw [← HH.out]; rfl))
            go_wp2
            go_roundw
            all_goals first
              | exact ⟨i + 1, by omega, by go_num, by rw [HI.out]; exact HW.out⟩
              | (simp [intOf]; omega)
          · cases hh : hitK g v ql ql.length
            · have HI := hid (HN.out (by rw [← HH.out]; simp only; rw [hh]; rfl))
              clear hh
              go_wp2
              go_roundw
              all_goals first
                | exact ⟨i + 1, by omega, by go_num, by rw [HI.out]; exact HW.out⟩
                | (simp [intOf]; omega)
            · have HI := hid (HY.out (by rw [← HH.out]; simp only; rw [hh]; rfl))
              clear hh
              have HOS := hid (ownsRow_setCell_other (a := ⟨gg, i * 3 + 2, none⟩) HW.out.out (fun e => by
                rcases own_apart HW.out.row HW.out.out (by decide) with h | h
                · rw [h] at e; cases e
                · exact h e) (.bool false))
              go_wp2_with (first
                | (at_builtin; refine wpList_append_own _ rfl _ _ 49 rfl (w.heap.size + 2) 3 i2 _ 1 8 Try.underlying49 I2.out.1 I2.out.2.1 I2.out.2.2.1 I2.out.2.2.2 rfl (by decide) (.slice ao (idx (hit g v) (L.map Prod.fst) i).length co) (idx (hit g v) (L.map Prod.fst) i).length (ints (idx (hit g v) (L.map Prod.fst) i)) rfl (HOS.out.alloc _) ⟨wr.heap.size, 0, none⟩ 1 1 [.int .i64 (i : Nat)] rfl rfl ?k1 ?k2 ?k3 ?k4 ?k5 ?_)
                | fail)
              case k2 => rfl
              case k3 => unfold maxLen; omega
              case k4 => omega
              case k5 => have := HW.out.br.lt; simp; omega
              intro v5 w5 ho5 hg5 _
              obtain ⟨a5, c5, e5⟩ := own_form ho5
              subst e5
              have hgout : ∀ b, (Value.slice ao (idx (hit g v) (L.map Prod.fst) i).length co).ownBlock = some b → w.heap.size + 2 ≤ b ∧ b ≠ gg := fun b hb => ⟨(HW.out.out.lt b hb).1, fun e => by
                rcases own_apart HW.out.row HW.out.out (by decide) with h | h
                · rw [h] at hb; cases hb
                · exact h (hb.trans (by rw [e]; rfl))⟩
              have HWN := hid (show WR w w5 F G (.slice av L.length cv) L (idx (hit g v) (L.map Prod.fst) (i + 1)) (.slice (some ⟨gg, 0, none⟩) L.length c3) (.slice a5 ((idx (hit g v) (L.map Prod.fst) i).length + 1) c5) from by
                have hbS : Bw w ((wr.setCell ⟨gg, i * 3 + 2, none⟩ (.bool false)).alloc (.cells #[.int .i64 (i : Nat)] 3)) := Bw.alloc (Bw.setCell HW.out.bw (by simp only; omega) _) _
                refine ⟨Below.grown hbS hg5 hbS.size (fun b hb => by have := (hgout b hb).1; omega), ?_, ?_, ?_, ?_⟩
                · exact ((HW.out.bp.other (p := ⟨gg, i * 3 + 2, none⟩) hgp _).alloc _).keep (hg5.block _ (by have := HW.out.bp.lt; simp; omega) (fun e => by have := (hgout _ e.symm).1; omega))
                · exact ((HW.out.br.other (p := ⟨gg, i * 3 + 2, none⟩) hgr' _).alloc _).keep (hg5.block _ (by have := HW.out.br.lt; simp; omega) (fun e => by have := (hgout _ e.symm).1; omega))
                · rw [HI.out]
                  exact own_keep (HSET.out.alloc _) (fun b hb => hg5.block b ((HSET.out.alloc _).lt b hb).2 (fun e => by
                    simp only [Value.ownBlock, Option.some.injEq] at hb
                    exact (hgout b e.symm).2 hb.symm))
                · rw [HI.out, ints_snoc, List.length_append]
                  exact ho5)
              clear ho5 hg5
              go_wp2
              go_roundw
              all_goals first
                | exact ⟨i + 1, by omega, by go_num, HWN.out⟩
                | (simp [intOf]; omega)
    · have h4' : ¬ (i : Int) < (L.length : Int) := by omega
      obtain rfl : i = L.length := by omega
      have HJA := hid (show idx (hit g v) (L.map Prod.fst) L.length = all (hit g v) (L.map Prod.fst) by unfold all; rw [HLM.out])
      obtain ⟨ao, co, eo⟩ := own_form hw.out
      subst eo
      obtain ⟨p0, p1, p2, pl⟩ := box3 hw.bp
      obtain ⟨r0, r1, r2, rl⟩ := box3 hw.br
      have pf := hw.bp.free
      have rf := hw.br.free
      clear hw
      go_wp2
      all_goals (
        refine bodyPost_ret (v := .tuple #[.agg #[.int .i64 F, .int .i64 G, .slice a3 L.length c3], .slice ao (idx (hit g v) (L.map Prod.fst) L.length).length co, .int .i64 0]) (by simp [results, Try.results25, go_sem, *]) rfl ?_
        have heb : Eb w.heap.size (w.heap.size + 1) wr (((((wr.setCell ⟨w.heap.size, 2, none⟩ (.slice a3 L.length c3)).setCell ⟨w.heap.size + 1, 0, none⟩ (.int .i64 F)).setCell ⟨w.heap.size + 1, 1, none⟩ (.int .i64 G)).setCell ⟨w.heap.size + 1, 2, none⟩ (.slice a3 L.length c3))) := ((((Eb.refl _ _ wr).box (.inl rfl) _ _).box (.inr rfl) _ _).box (.inr rfl) _ _).box (.inr rfl) _ _
        refine ⟨_, _, rfl, ?_, offqs (idx (hit g v) (L.map Prod.fst) L.length) L, ?_, ?_, ?_⟩
        · exact Bw.setCell (Bw.setCell (Bw.setCell (Bw.setCell HW.out.bw (Nat.le_refl _) _) (by simp only; omega) _) (by simp only; omega) _) (by simp only; omega) _
        · have := rs_of (v1 := .slice a3 L.length c3) HR.out HW.out.bw (L1 := offqs (idx (hit g v) (L.map Prod.fst) L.length) L) (by rw [offqs_len]; exact HW.out.row) heb (offqs_len _ _) (mem_offqs _ _)
          exact this
        · rw [offqs_map, HJA.out, offs_all]
        · rw [HJA.out]
          have ho := HW.out.out
          rw [HJA.out] at ho
          exact own_base (own_keep ho (fun b hb => heb.block b (by have := (ho.lt b hb).1; omega) (by have := (ho.lt b hb).1; omega))) (by omega))

theorem rWrote_any {w : World} {GG : Nat → Prop} {F G : Nat} {v0 : Value} {L : List (VV × Value)} (h : RS w GG v0 L) (g v : Int) : Calls Try.prog 25 #[rV F G v0, .int .i64 g, .int .u64 v] w fun e w' => ∃ v' o L', e = .returned (.tuple #[rV F G v', o, .int .i64 (wrE G g)]) ∧ Bw w w' ∧ RS w' (fun b => GG b ∨ w.heap.size ≤ b) v' L' ∧ L'.map Prod.fst = wrL G g v (L.map Prod.fst) ∧ w'.ownsRow w.heap.size 3 1 o (wrI G g v (L.map Prod.fst)).length (ints (wrI G g v (L.map Prod.fst))) := by
  obtain ⟨av, cv, rfl⟩ := h.form
  unfold wrE wrL wrI
  by_cases h0 : g < 0
  · rw [oneOf_no (by omega)]
    simp only [if_neg Bool.false_ne_true]
    exact (rWrote_noa h g v h0).mono fun e w' ⟨he, hb⟩ => ⟨_, _, L, he, hb, (h.bw hb).imp (fun b _ hG => .inl hG), rfl, World.ownsRow_nil _ _ _ _⟩
  · by_cases h2 : (G : Int) ≤ g
    · rw [oneOf_no (by omega)]
      simp only [if_neg Bool.false_ne_true]
      exact (rWrote_nob h g v h0 h2).mono fun e w' ⟨he, hb⟩ => ⟨_, _, L, he, hb, (h.bw hb).imp (fun b _ hG => .inl hG), rfl, World.ownsRow_nil _ _ _ _⟩
    · rw [oneOf_yes (by omega) (by omega)]
      simp only [if_true]
      exact rWrote_yes h g v (by omega)



end Go.Proofs.Ytaeifhfhahcoiaa
