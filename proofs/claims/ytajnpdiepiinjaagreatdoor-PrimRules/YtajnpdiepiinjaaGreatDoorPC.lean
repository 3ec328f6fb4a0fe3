/- The program's lists copied, searched for words that are not good, for keys that stand twice: the contracts. -/
import Derived.Test.YtajnpdiepiinjaaGreatDoorPB
set_option linter.unusedSimpArgs false
set_option linter.unusedVariables false
namespace Go.Proofs.YtajnpdiepiinjaaGreatDoor
open Go Go.RowKit

theorem splice_all {α : Type} (L cs : List α) (h : cs.length = L.length) : splice L 0 cs = cs := by
  simp [splice, h]
theorem Sl.src {w : World} {G : Nat → Prop} {a : Option Addr} {cap n : Nat} {cs : List Value} (h : Sl w G (.slice a n cap) n 1 cs) (hp : 0 < cs.length) :
    ∃ ad, a = some ad ∧ ∀ j v, cs[j]? = some v → w.cell? (ad.add j) = some v := by
  have hl := h.1
  obtain ⟨b, o, rfl, hlt, _, hc⟩ := h.cellAt (by omega)
  refine ⟨_, rfl, fun j v hj => ?_⟩
  have hjl : j < cs.length := (List.getElem?_eq_some_iff.1 hj).1
  have e1 : (⟨b, o, none⟩ : Addr).add j = ⟨b, o + j, none⟩ := by
    unfold Addr.add
    split
    · rename_i h0; subst h0; rfl
    · rfl
  rw [e1, hc j (by omega), hj]

theorem bw_none {w w' : World} (h : w.grownBy w' none) : Bw w w' := Below.grown (Below.refl _ _) h (Nat.le_refl _) (fun k e => by cases e)
theorem made_row {w : World} {base g n : Nat} {e : TypeId} {xs : List Value} (h : w.ownsRow base e 1 (.slice (some ⟨g, 0, none⟩) n n) n xs) :
    ∃ L : List Value, w.heap[g]? = some (.cells L.toArray e (0, 0)) ∧ L.length = n := by
  rcases h.2 with ⟨h, _⟩ | ⟨g', cap, cur, hv, _, hg, _, _, hs, _⟩
  · cases h
  · cases hv
    exact ⟨cur.toList, by simpa using hg, by simpa using hs⟩

set_option maxHeartbeats 2000000 in
theorem cpB_any (G : Nat → Prop) (sv : Value) (n : Nat) (cs : List Value) (w : World) (h : Sl w G sv n 1 cs) (h1 : ∀ u ∈ cs, u.oneCell' = true) (hn : n ≤ 100000000) :
    Calls Tryz.prog 77 #[sv] w fun e w' => ∃ v', e = .returned v' ∧ w'.ownsRow w.heap.size 5 1 v' n cs ∧ Bw w w' := by
  have HS := hid h
  have H1 := hid h1
  have hcl : cs.length = n := by have := h.1; omega
  have HCL := hid hcl
  obtain ⟨a, cap, rfl⟩ := h.form
  obtain ⟨i, hi, hz, hs, hy⟩ := info_parts infoU8
  have hsz : (Tryz.prog.info? 5).map (·.size) = some 1 := by rw [hi]; simp [hs]
  have HI := hid (And.intro hi (And.intro hz (And.intro hs (And.intro hy hsz))))
  clear h h1 hcl hi hz hs hy hsz
  have hm : n ≤ 9223372036854775807 := by omega
  go_enter Tryz.func77, Tryz.ntmps77
  go_upto_region 2 with (first
    | (at_make; refine wpList_make_full _ rfl _ _ 52 rfl w.heap.size 5 i (.int .u8 0) 1 Tryz.underlying52 HI.out.1 HI.out.2.1 HI.out.2.2.1 _ _ _ _ n rfl rfl rfl rfl ?c4 ?c5 (Nat.le_refl _) ?_)
    | go_in)
  case c4 => rw [HI.out.2.2.2.1]; omega
  case c5 => unfold maxLen; omega
  intro W hrow0 hgr
  have hbel := hid (bw_none hgr)
  obtain ⟨L, hL, hLl⟩ := made_row hrow0
  have HL := hid hL
  have HLl := hid hLl
  have hsl := hid (HS.out.below hbel.out)
  clear hrow0 hgr hL hLl
  go_upto_region 2 with fail
  go_wp2_with (first
    | (refine wpList_copy_splice rfl (.tmp 7) (.tmp 8) 52 52 rfl 5 Tryz.underlying52 HI.out.2.2.2.2 (some ⟨w.heap.size, 0, none⟩) a n n n cap rfl rfl w.heap.size 0 L 5 HL.out cs ?c1 ?c2 ?c3 H1.out w.heap.size w hbel.out (Nat.le_refl _) ?_)
    | go_in)
  case c1 => rw [HCL.out]; exact (Nat.min_self n).symm
  case c2 => intro hp; first | exact ⟨rfl, hsl.out.src hp⟩ | exact hsl.out.src hp | exact hsl.out.src (by omega)
  case c3 => rw [HCL.out, HLl.out]; omega
  intro w2 HG2 hB2
  have hB3 := hid hB2
  clear hB2
  go_wp2
  go_ret
  refine ⟨_, rfl, ⟨by rw [HCL.out]; omega, .inr ⟨w.heap.size, n, (splice L 0 cs).toArray, rfl, Nat.le_refl _, HG2.out, Nat.le_refl _, by unfold maxLen; omega, ?_, ?_⟩⟩, hB3.out⟩
  · rw [splice_all _ _ (by rw [HCL.out, HLl.out])]
    simp [HCL.out]
  · rw [splice_all _ _ (by rw [HCL.out, HLl.out])]
    rw [List.take_of_length_le (by simp [HCL.out])]

set_option maxHeartbeats 2000000 in
theorem cpV_any (G : Nat → Prop) (sv : Value) (n : Nat) (cs : List Value) (w : World) (h : Sl w G sv n 1 cs) (h1 : ∀ u ∈ cs, u.oneCell' = true) (hn : n ≤ 100000000) :
    Calls Tryz.prog 138 #[sv] w fun e w' => ∃ v', e = .returned v' ∧ w'.ownsRow w.heap.size 27 1 v' n cs ∧ Bw w w' := by
  have HS := hid h
  have H1 := hid h1
  have hcl : cs.length = n := by have := h.1; omega
  have HCL := hid hcl
  obtain ⟨a, cap, rfl⟩ := h.form
  obtain ⟨i, hi, hz, hs, hy⟩ := info_parts infoV
  have hsz : (Tryz.prog.info? 27).map (·.size) = some 1 := by rw [hi]; simp [hs]
  have HI := hid (And.intro hi (And.intro hz (And.intro hs (And.intro hy hsz))))
  clear h h1 hcl hi hz hs hy hsz
  have hm : n ≤ 9223372036854775807 := by omega
  go_enter Tryz.func138, Tryz.ntmps138
  go_upto_region 2 with (first
    | (at_make; refine wpList_make_full _ rfl _ _ 61 rfl w.heap.size 27 i (.int .u64 0) 1 Tryz.underlying61 HI.out.1 HI.out.2.1 HI.out.2.2.1 _ _ _ _ n rfl rfl rfl rfl ?c4 ?c5 (Nat.le_refl _) ?_)
    | go_in)
  case c4 => rw [HI.out.2.2.2.1]; omega
  case c5 => unfold maxLen; omega
  intro W hrow0 hgr
  have hbel := hid (bw_none hgr)
  obtain ⟨L, hL, hLl⟩ := made_row hrow0
  have HL := hid hL
  have HLl := hid hLl
  have hsl := hid (HS.out.below hbel.out)
  clear hrow0 hgr hL hLl
  go_upto_region 2 with fail
  go_wp2_with (first
    | (refine wpList_copy_splice rfl (.tmp 7) (.tmp 8) 61 61 rfl 27 Tryz.underlying61 HI.out.2.2.2.2 (some ⟨w.heap.size, 0, none⟩) a n n n cap rfl rfl w.heap.size 0 L 27 HL.out cs ?c1 ?c2 ?c3 H1.out w.heap.size w hbel.out (Nat.le_refl _) ?_)
    | go_in)
  case c1 => rw [HCL.out]; exact (Nat.min_self n).symm
  case c2 => intro hp; first | exact ⟨rfl, hsl.out.src hp⟩ | exact hsl.out.src hp | exact hsl.out.src (by omega)
  case c3 => rw [HCL.out, HLl.out]; omega
  intro w2 HG2 hB2
  have hB3 := hid hB2
  clear hB2
  go_wp2
  go_ret
  refine ⟨_, rfl, ⟨by rw [HCL.out]; omega, .inr ⟨w.heap.size, n, (splice L 0 cs).toArray, rfl, Nat.le_refl _, HG2.out, Nat.le_refl _, by unfold maxLen; omega, ?_, ?_⟩⟩, hB3.out⟩
  · rw [splice_all _ _ (by rw [HCL.out, HLl.out])]
    simp [HCL.out]
  · rw [splice_all _ _ (by rw [HCL.out, HLl.out])]
    rw [List.take_of_length_le (by simp [HCL.out])]

set_option maxHeartbeats 2000000 in
theorem cpS_any (G : Nat → Prop) (sv : Value) (n : Nat) (cs : List Value) (w : World) (h : Sl w G sv n 1 cs) (h1 : ∀ u ∈ cs, u.oneCell' = true) (hn : n ≤ 100000000) :
    Calls Tryz.prog 137 #[sv] w fun e w' => ∃ v', e = .returned v' ∧ w'.ownsRow w.heap.size 9 1 v' n cs ∧ Bw w w' := by
  have HS := hid h
  have H1 := hid h1
  have hcl : cs.length = n := by have := h.1; omega
  have HCL := hid hcl
  obtain ⟨a, cap, rfl⟩ := h.form
  obtain ⟨i, hi, hz, hs, hy⟩ := info_parts infoS
  have hsz : (Tryz.prog.info? 9).map (·.size) = some 1 := by rw [hi]; simp [hs]
  have HI := hid (And.intro hi (And.intro hz (And.intro hs (And.intro hy hsz))))
  clear h h1 hcl hi hz hs hy hsz
  have hm : n ≤ 9223372036854775807 := by omega
  go_enter Tryz.func137, Tryz.ntmps137
  go_upto_region 2 with (first
    | (at_make; refine wpList_make_full _ rfl _ _ 67 rfl w.heap.size 9 i (.string ByteArray.empty) 1 Tryz.underlying67 HI.out.1 HI.out.2.1 HI.out.2.2.1 _ _ _ _ n rfl rfl rfl rfl ?c4 ?c5 (Nat.le_refl _) ?_)
    | go_in)
  case c4 => rw [HI.out.2.2.2.1]; omega
  case c5 => unfold maxLen; omega
  intro W hrow0 hgr
  have hbel := hid (bw_none hgr)
  obtain ⟨L, hL, hLl⟩ := made_row hrow0
  have HL := hid hL
  have HLl := hid hLl
  have hsl := hid (HS.out.below hbel.out)
  clear hrow0 hgr hL hLl
  go_upto_region 2 with fail
  go_wp2_with (first
    | (refine wpList_copy_splice rfl (.tmp 7) (.tmp 8) 67 67 rfl 9 Tryz.underlying67 HI.out.2.2.2.2 (some ⟨w.heap.size, 0, none⟩) a n n n cap rfl rfl w.heap.size 0 L 9 HL.out cs ?c1 ?c2 ?c3 H1.out w.heap.size w hbel.out (Nat.le_refl _) ?_)
    | go_in)
  case c1 => rw [HCL.out]; exact (Nat.min_self n).symm
  case c2 => intro hp; first | exact ⟨rfl, hsl.out.src hp⟩ | exact hsl.out.src hp | exact hsl.out.src (by omega)
  case c3 => rw [HCL.out, HLl.out]; omega
  intro w2 HG2 hB2
  have hB3 := hid hB2
  clear hB2
  go_wp2
  go_ret
  refine ⟨_, rfl, ⟨by rw [HCL.out]; omega, .inr ⟨w.heap.size, n, (splice L 0 cs).toArray, rfl, Nat.le_refl _, HG2.out, Nat.le_refl _, by unfold maxLen; omega, ?_, ?_⟩⟩, hB3.out⟩
  · rw [splice_all _ _ (by rw [HCL.out, HLl.out])]
    simp [HCL.out]
  · rw [splice_all _ _ (by rw [HCL.out, HLl.out])]
    rw [List.take_of_length_le (by simp [HCL.out])]

end Go.Proofs.YtajnpdiepiinjaaGreatDoor
