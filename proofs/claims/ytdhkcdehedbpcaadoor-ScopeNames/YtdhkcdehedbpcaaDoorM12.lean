/- The place behind a node: the program's and the document's calls. · The globals looked ahead for: globalsOf. · The place behind a node: the document's own recursion. · Lists of nodes that were handed in: for the statements' frames. -/
import Derived.Test.YtdhkcdehedbpcaaDoorM2
import Derived.Test.YtdhkcdehedbpcaaDoorM9
import Derived.Test.YtdhkcdehedbpcaaDoorM5
import Derived.Test.YtdhkcdehedbpcaaDoorM11
import Derived.Carry
import Derived.Test.YtdhkcdehedbpcaaDoorM7
set_option linter.unusedSimpArgs false
set_option linter.unusedVariables false
namespace Go.Proofs.YtdhkcdehedbpcaaDoor
open Go Go.RowKit

structure NM (w : World) (g off : Nat) (L : List ANode) : Prop where
 lt : g < w.heap.size
 c : ∀ i (hi : i < L.length), w.cell? ⟨g, off + i * 5 + 1, none⟩ = some (.int .i64 L[i].2.1)
 b : ∀ i (hi : i < L.length), -9223372036854775808 ≤ L[i].2.1 ∧ L[i].2.1 ≤ 9223372036854775807

def bhV (L : List ANode) (at_ : Int) : Int × Int :=
 if at_ < 0 ∨ (L.length : Int) ≤ at_ then (0, 1) else match bhP L at_.toNat with | some k => ((k : Int), 0) | none => (0, 6)

theorem kids_drop {L : List ANode} {a : Nat} (h : a < L.length) : (kidsN L).drop a = L[a].2.1.toNat :: (kidsN L).drop (a + 1) := by
 unfold kidsN
 rw [List.drop_eq_getElem_cons (by simpa using h)]
 simp

set_option maxRecDepth 100000 in
set_option maxHeartbeats 4000000 in
theorem behind_any (g off cap : Nat) (L : List ANode) (hl : L.length ≤ 1000) (at_ : Int) (ha : -9223372036854775808 ≤ at_ ∧ at_ ≤ 9223372036854775807) (w : World) (h : L.length = 0 ∨ NM w g off L) :
  Calls Tryd.prog 75 #[.slice (some ⟨g, off, none⟩) L.length cap, .int .i64 at_] w fun e w' => e = .returned (.tuple #[.int .i64 (bhV L at_).1, .int .i64 (bhV L at_).2]) ∧ w' = w := by
 by_cases h0 : at_ < 0 ∨ (L.length : Int) ≤ at_
 ·rw [show bhV L at_ = (0, 1) from if_pos h0]
  by_cases h1 : at_ < 0
  ·clear h h0 ha hl
   go_enter Tryd.func75, Tryd.ntmps75
   go_wp2
   all_goals go_ret2
   all_goals exact ⟨rfl, rfl⟩
  ·have h2 : (L.length : Int) ≤ at_ := by omega
   clear h h0 ha hl
   go_enter Tryd.func75, Tryd.ntmps75
   go_wp2
   all_goals go_ret2
   all_goals exact ⟨rfl, rfl⟩
 ·obtain ⟨a0, rfl⟩ : ∃ a : Nat, at_ = (a : Int) := ⟨at_.toNat, by omega⟩
  have hv : bhV L (a0 : Int) = match (cns ((kidsN L).drop a0) 1).map (a0 + ·) with | some k => ((k : Int), 0) | none => (0, 6) := by
   unfold bhV
   rw [if_neg h0]
   simp [bhP]
  rw [hv]
  generalize hR : (cns ((kidsN L).drop a0) 1).map (a0 + ·) = R
  have HR := hid hR
  have hlt0 : a0 < L.length := by omega
  have HN := hid (h.resolve_left (by omega))
  have ha1 : (0 : Int) ≤ (a0 : Int) := by omega
  have ha2 : (a0 : Int) < (L.length : Int) := by omega
  clear hv h h0 ha hR
  go_enter Tryd.func75, Tryd.ntmps75
  go_wp2
  go_loopw [1, 6] (fun u v wr => ∃ a d : Nat, u = .int .i64 (a : Int) ∧ v = .int .i64 (d : Int) ∧ a + d ≤ L.length ∧ (cns ((kidsN L).drop a) d).map (a + ·) = R ∧ wr = w) (fun u _ _ => L.length - (intOf u).toNat)
  case atStart => exact ⟨a0, 1, rfl, rfl, by omega, HR.out, rfl⟩
  case round =>
   clear HR ha1 ha2 hlt0
   obtain ⟨a, d, rfl, rfl, hle, hr, hwr⟩ := hrel
   subst hwr
   have HR := hid hr
   clear hr
   cases d with
   | zero =>
    have e : R = some a := by rw [← HR.out]; cases (kidsN L).drop a <;> simp [cns]
    subst e
    go_wp2
    all_goals go_ret2
    all_goals exact ⟨rfl, rfl⟩
   | succ d =>
    have hlt : a < L.length := by omega
    have b1 : (0 : Int) ≤ (a : Int) := by omega
    have b2 : (a : Int) < (L.length : Int) := by omega
    have c1 := HN.out.c a hlt
    have c2 := HN.out.lt
    have c3 := HN.out.b a hlt
    have hk := kids_drop hlt
    have HRk := HR.out
    rw [hk, cns] at HRk
    have HB := hid (cns_le ((kidsN L).drop (a + 1)) (d + L[a].2.1.toNat))
    have hdl : ((kidsN L).drop (a + 1)).length = L.length - (a + 1) := by simp [kidsN]
    have HDL := hid hdl
    have HRK := hid HRk
    clear hk HRk hdl
    generalize hN : L[a].2.1 = N at c1 c3 HB HRK
    clear hN
    by_cases hgt : (L.length : Int) - (a : Int) - ((d : Int) + 1) < N
    ·have e : R = none := by
      rw [← HRK.out]
      cases hc : cns ((kidsN L).drop (a + 1)) (d + N.toNat) with
      | none => rfl
      | some m =>
       have q := HB.out m hc
       have q2 := HDL.out
       omega
     subst e
     clear HRK HB HDL HR
     go_wp2
     all_goals go_ret2
     all_goals exact ⟨rfl, rfl⟩
    ·have hle2 : N ≤ (L.length : Int) - (a : Int) - ((d : Int) + 1) := by omega
     clear hgt HB HDL HR
     go_wp2
     case roundEnd =>
      refine ⟨⟨a + 1, d + N.toNat, by rw [Int.natCast_add]; rfl, ?_, by omega, ?_, trivial⟩, ?_⟩
      ·congr 1
       split <;> omega
      ·rw [← HRK.out]
       cases cns ((kidsN L).drop (a + 1)) (d + N.toNat) <;> simp <;> omega
      ·simp only [intOf]
       omega

end Go.Proofs.YtdhkcdehedbpcaaDoor

namespace Go.Proofs.YtdhkcdehedbpcaaDoor
open Go Go.RowKit

theorem underMs : Tryd.prog.underlying 77 = some (.map 9 3) := by kernel_rfl
theorem zero3 (w : World) : (zeroValue 3).run Tryd.prog w = .ok (.int .i64 0) w := by kernel_rfl

def globA (L : List ANode) : Nat → Int → (ByteArray → Option Int) → Int → Option (ByteArray → Option Int)
  | 0, _, M, _ => some M
  | n + 1, a, M, c => if 0 ≤ a ∧ a < L.length then
      (if (L.getD a.toNat (0, 0, [], 0, 0)).1 = 3 ∨ (L.getD a.toNat (0, 0, [], 0, 0)).1 = 12 then
        globA L n (bhV L a).1 (if (M (strOfNums (L.getD a.toNat (0, 0, [], 0, 0)).2.2.1)).isSome then M else mput M (strOfNums (L.getD a.toNat (0, 0, [], 0, 0)).2.2.1) c) (c + 1)
       else globA L n (bhV L a).1 M c) else none

theorem NC.bw {w w' : World} {g o : Nat} {L : List ANode} (h : NC w g o L) (hb : Bw w w') : NC w' g o L := by
  refine ⟨Nat.lt_of_lt_of_le h.lt hb.size, fun i hi j hj => ?_, h.b⟩
  rw [← h.c i hi j hj]
  exact World.cell?_of_block (w := w) (w' := w') (a := ⟨g, o + i * 5 + j, none⟩) (hb.block g h.lt)
theorem NC.nm {w : World} {g o : Nat} {L : List ANode} (h : NC w g o L) : NM w g o L :=
  ⟨h.lt, fun i hi => by rw [h.c i hi 1 (by omega)]; rfl, fun i hi => (h.b i hi).1⟩

set_option maxRecDepth 100000 in
set_option maxHeartbeats 4000000 in
theorem globals_any {w : World} (g o cap : Nat) (L : List ANode) (h0 : 0 < L.length) (hl : L.length ≤ 1000) (n : Nat) (hn : L[0].2.1 = (n : Int)) (hn5 : n ≤ 1000) (h : NC w g o L) {M : ByteArray → Option Int} (hg : globA L n 1 (fun _ => none) 0 = some M) :
    Calls Tryd.prog 57 #[.slice (some ⟨g, o, none⟩) L.length cap] w fun e w' => ∃ b, e = .returned (.map (some b)) ∧ w.heap.size ≤ b ∧ MS w' b M n ∧ Bw w w' := by
  have H := hid h
  have HG := hid hg
  have HL := hid hl
  have c1 : w.cell? ⟨g, o + 1, none⟩ = some (.int .i64 (n : Int)) := by
    have := h.c 0 h0 1 (by omega)
    rw [show o + 0 * 5 + 1 = o + 1 by omega] at this
    rw [this]; simp [ndV, hn]
  have gl := h.lt
  have hi0 : (0 : Int) < (L.length : Int) := by omega
  have M0 := hid (MS.new w)
  have hmm := @run_makeMap Tryd.prog
  clear h hg hn
  go_enter Tryd.func57, Tryd.ntmps57
  go_wp2
  clear hmm
  go_loopw [4, 5, 13] (fun v4 v5 v13 wr => ∃ (k : Nat) (a c : Int) (M' : ByteArray → Option Int), v13 = .int .i64 (k : Int) ∧ k ≤ n ∧ v4 = .int .i64 c ∧ 0 ≤ c ∧ c ≤ k ∧ v5 = .int .i64 a ∧ globA L (n - k) a M' c = some M ∧ MS wr w.heap.size M' k ∧ Bw w wr) (fun _ _ v13 _ => n - (intOf v13).toNat)
  case atStart => exact ⟨0, 1, 0, fun _ => none, rfl, Nat.zero_le _, rfl, Int.le_refl _, Int.le_refl _, rfl, HG.out, M0.out, bq⟩
  case round =>
    obtain ⟨k, a, c, M', rfl, hk, rfl, hc0, hck, rfl, hgo, hms, hbw⟩ := hrel
    have HM := hid hms
    have HB := hid hbw
    by_cases hkn : k < n
    · have hkn' : (k : Int) < (n : Int) := by omega
      obtain ⟨r, hr⟩ : ∃ r, n - k = r + 1 := ⟨n - k - 1, by omega⟩
      rw [hr] at hgo
      unfold globA at hgo
      by_cases hac : 0 ≤ a ∧ a < L.length
      case neg => rw [if_neg hac] at hgo; cases hgo
      rw [if_pos hac] at hgo
      obtain ⟨ha0, ha1⟩ := hac
      obtain ⟨i, rfl⟩ : ∃ i : Nat, a = i := ⟨a.toNat, by omega⟩
      have hil : i < L.length := by omega
      have hget : L.getD (i : Int).toNat (0, 0, [], 0, 0) = L[i] := by rw [Int.toNat_natCast, List.getD_eq_getElem?_getD, List.getElem?_eq_getElem hil]; rfl
      rw [hget] at hgo
      have hN := H.out.bw hbw
      have z0 : wr.cell? ⟨g, o + i * 5, none⟩ = some (.int .i64 L[i].1) := hN.c i hil 0 (by omega)
      have z2 : wr.cell? ⟨g, o + i * 5 + 2, none⟩ = some (.string (strOfNums L[i].2.2.1)) := hN.c i hil 2 (by omega)
      have zl : g < wr.heap.size := hN.lt
      have hsz : (strOfNums L[i].2.2.1).size ≤ maxLen := by rw [strOfNums_size]; have := (hN.b i hil).2.2; unfold maxLen; omega
      have HK := hid (key_lit hsz)
      have HBH := hid (fun w1 (hw : NC w1 g o L) => behind_any g o cap L HL.out (i : Int) (by omega) w1 (.inr hw.nm))
      have hRR : ∃ b' e', bhV L i = (b', e') := ⟨_, _, rfl⟩
      obtain ⟨b', e', hRR⟩ := hRR
      rw [hRR] at hgo HBH
      simp only at hgo HBH
      generalize strOfNums L[i].2.2.1 = u at z2 hgo HK
      generalize L[i].1 = d0 at z0 hgo
      have hr2 : r = n - (k + 1) := by omega
      have HR2 := hid hr2
      have HI := hid hil
      clear hms hbw hN hget hsz hr hRR hr2
      by_cases hd : d0 = 3 ∨ d0 = 12
      · rw [if_pos hd] at hgo
        have HGO := hid hgo
        obtain ⟨D, hown, hD⟩ := HM.out
        have HO := hid hown
        have HD := hid hD
        clear hown hD hgo
        cases hu : M' u with
        | none =>
          have hhas : Maps.has D (.string u.data.toList) = false := by rw [HD.out.has, hu]; rfl
          have HGN := hid (show globA L (n - (k + 1)) b' (mput M' u c) (c + 1) = some M by rw [← HR2.out]; have h := HGO.out; rw [hu] at h; exact h)
          clear hu
          have hdd : (d0 == 3) = true ∨ ((d0 == 3) = false ∧ (d0 == 12) = true) := by
            rcases hd with e | e
            · exact .inl (by simpa using e)
            · exact .inr ⟨by rw [e]; rfl, by simpa using e⟩
          clear hd HGO
          rcases hdd with e3 | ⟨e3, e12⟩
          all_goals
            go_upto_region 7 with go_quiet (fail)
            go_wp2_with (first
              | (at_lookup; refine wpList_lookup_own_ok_int _ rfl _ _ 77 rfl 9 3 .i64 key9 underMs int3 (zero3 _) w.heap.size k D rfl HO.out _ _ rfl HK.out ?_; intro c1 hat hwc; rw [hhas]; clear hat hwc)
              | (at_mapUpdate; refine wpList_mapUpdate_in _ rfl _ _ _ 77 rfl 9 3 key9 underMs _ w.heap.size k D rfl HO.out (by unfold maxLen; omega) _ _ _ rfl rfl HK.out _ [] (plainElem_int int3 (WalkArith.wf_i64 (by omega))) ?_; intro w1 hown1 hturn1; have M1 := hid (show MS w1 w.heap.size (mput M' u c) (k + 1) from ⟨_, hown1, HD.out.put u c⟩); have B1 := hid (bw_grownAt (HB.out.trans bq) hturn1.grown (Nat.le_refl _)); have z3 := H.out.bw B1.out; have z4 := z3.lt; clear z3 hown1 hturn1)
              | (go_at_call 75; refine (HBH.out _ (H.out.bw (B1.out.trans bq))).mono ?_; rintro e w2 ⟨rfl, rfl⟩)
              | fail)
            case roundEnd =>
              exact ⟨⟨k + 1, b', c + 1, mput M' u c, by go_num, by omega, by go_num, by omega, by omega, rfl, HGN.out, M1.out, B1.out.trans bq⟩, by simp [intOf]; omega⟩
        | some x =>
          have hhas : Maps.has D (.string u.data.toList) = true := by rw [HD.out.has, hu]; rfl
          have HGN := hid (show globA L (n - (k + 1)) b' M' (c + 1) = some M by rw [← HR2.out]; have h := HGO.out; rw [hu] at h; exact h)
          clear hu
          have hdd : (d0 == 3) = true ∨ ((d0 == 3) = false ∧ (d0 == 12) = true) := by
            rcases hd with e | e
            · exact .inl (by simpa using e)
            · exact .inr ⟨by rw [e]; rfl, by simpa using e⟩
          clear hd HGO
          rcases hdd with e3 | ⟨e3, e12⟩
          all_goals
            go_upto_region 7 with go_quiet (fail)
            go_wp2_with (first
              | (at_lookup; refine wpList_lookup_own_ok_int _ rfl _ _ 77 rfl 9 3 .i64 key9 underMs int3 (zero3 _) w.heap.size k D rfl HO.out _ _ rfl HK.out ?_; intro c1 hat hwc; rw [hhas]; clear hat hwc)
              | (go_at_call 75; refine (HBH.out _ (H.out.bw (HB.out.trans bq))).mono ?_; rintro e w2 ⟨rfl, rfl⟩)
              | fail)
            case roundEnd =>
              exact ⟨⟨k + 1, b', c + 1, M', by go_num, by omega, by go_num, by omega, by omega, rfl, HGN.out, (HM.out.mono (Nat.le_succ k)).keep rfl, HB.out.trans bq⟩, by simp [intOf]; omega⟩
      · rw [if_neg hd] at hgo
        have HGN := hid (show globA L (n - (k + 1)) b' M' c = some M by rw [← HR2.out]; exact hgo)
        have e3 : (d0 == 3) = false := by simpa using fun e => hd (.inl e)
        have e12 : (d0 == 12) = false := by simpa using fun e => hd (.inr e)
        clear hd hgo
        go_upto_region 11 with go_quiet (fail)
        go_wp2_with (first
          | (go_at_call 75; refine (HBH.out _ (H.out.bw (HB.out.trans bq))).mono ?_; rintro e w2 ⟨rfl, rfl⟩)
          | fail)
        case roundEnd =>
          exact ⟨⟨k + 1, b', c, M', by go_num, by omega, rfl, by omega, by omega, rfl, HGN.out, (HM.out.mono (Nat.le_succ k)).keep rfl, HB.out.trans bq⟩, by simp [intOf]; omega⟩
    · obtain rfl : k = n := by omega
      rw [Nat.sub_self] at hgo
      have hM : M' = M := by unfold globA at hgo; exact Option.some.inj hgo
      subst hM
      clear hms hbw hgo
      go_wp2
      all_goals go_ret
      all_goals exact ⟨_, rfl, Nat.le_refl _, HM.out.keep rfl, HB.out.trans bq⟩

end Go.Proofs.YtdhkcdehedbpcaaDoor

namespace Go.Proofs.YtdhkcdehedbpcaaDoor
open Go Go.RowKit

end Go.Proofs.YtdhkcdehedbpcaaDoor

namespace Go.Proofs.YtdhkcdehedbpcaaDoor
open Go.ChangeShapes Go.WideShapes Go.ChangeAt Go.RowKit

set_option maxRecDepth 100000 in
theorem cellsN : Tryd.prog.cellsOf 43 = 5 := by kernel_rfl

def NdOk (n : ANode) : Prop :=
 (-9223372036854775808 ≤ n.1 ∧ n.1 ≤ 9223372036854775807) ∧ (-9223372036854775808 ≤ n.2.1 ∧ n.2.1 ≤ 9223372036854775807) ∧ ((∀ c ∈ n.2.2.1, 0 ≤ c ∧ c ≤ 255) ∧ n.2.2.1.length ≤ maxLen) ∧ (-9223372036854775808 ≤ n.2.2.2.1 ∧ n.2.2.2.1 ≤ 9223372036854775807) ∧ (-9223372036854775808 ≤ n.2.2.2.2 ∧ n.2.2.2.2 ≤ 9223372036854775807)

def NA (w : World) (a : Option Addr) (L : List ANode) : Prop :=
 ∀ i (hi : i < L.length), ∃ b off, a = some ⟨b, off, none⟩ ∧ b < w.heap.size ∧ (∀ j, j < 5 → w.cell? ⟨b, off + (i * 5 + j), none⟩ = (ndV L[i])[j]?) ∧ NdOk L[i]

end Go.Proofs.YtdhkcdehedbpcaaDoor

