/- Add, Wrote: contracts. -/
import Derived.Test.YtaeifhfhahcoiaaPd
import Derived.Test.YtaeifhfhahcoiaaWA
import Derived.Test.YtaeifhfhahcoiaaRw
import Derived.OneCell
set_option linter.unusedSimpArgs false
set_option linter.unusedVariables false
namespace Go.Proofs.Ytaeifhfhahcoiaa
open Go Go.RowKit

theorem addE_form {F G : Nat} {K : List VV} {f : Int} {l : List (Int × Int)} (h1 : oneOf f F = true) (h2 : nms G l = true) (h3 : all (vof f) K = []) (h4 : ¬ 4 ≤ cnt f K) : addE F G K f l = 0 := by simp [addE, h1, h2, h3, h4]

/-- What Add makes of the versions. -/
noncomputable def addL (F G : Nat) (K : List VV) (f : Int) (l : List (Int × Int)) : List VV := if addE F G K f l = 0 then K ++ [⟨f, l, true⟩] else K

section
variable {w : World} {p F G : Nat} {bs : List Nat} {rv : Value} {L : List (VV × Value)}

set_option maxRecDepth 100000 in
set_option maxHeartbeats 2000000 in
theorem Add_no1 (h : DS w p bs F G rv L) (hG : G ≤ 1024) {GG : Nat → Prop} (f : Int) {a : Option Addr} {c : Nat} (l : List (Int × Int)) (hs : Sl w GG (.slice a l.length c) l.length 2 (depC l)) (hm : l.length ≤ 1000) (h1 : oneOf f F = false) : Calls Try.prog 16 #[.pointer (some ⟨p, 0, none⟩), .int .i64 f, .slice a l.length c] w fun e w' => e = .returned (.tuple #[.int .i64 0, .int .i64 1]) ∧ Bw w w' := by
  have c0 := h.blk.cell 0
  have c2 := h.blk.cell 2
  simp only [List.getElem?_toArray, List.getElem?_cons_zero, List.getElem?_cons_succ] at c0 c2
  have hlp := h.blk.lt
  have HP := hid h
  have HS := hid hs
  clear h hs
  have ho1 := fun w => h1 ▸ one_any f F w
  go_enter Try.func16, Try.ntmps16
  go_wp2_with (first
    | (go_at_call 28; refine (ho1 _).mono ?_; rintro e w1 ⟨rfl, hw⟩; subst w1)
    | fail)
  all_goals go_ret2
  all_goals exact ⟨rfl, Bw.refl _⟩

set_option maxRecDepth 100000 in
set_option maxHeartbeats 2000000 in
theorem Add_no2 (h : DS w p bs F G rv L) (hG : G ≤ 1024) {GG : Nat → Prop} (f : Int) {a : Option Addr} {c : Nat} (l : List (Int × Int)) (hs : Sl w GG (.slice a l.length c) l.length 2 (depC l)) (hm : l.length ≤ 1000) (h1 : oneOf f F = true) (h2 : nms G l = false) : Calls Try.prog 16 #[.pointer (some ⟨p, 0, none⟩), .int .i64 f, .slice a l.length c] w fun e w' => e = .returned (.tuple #[.int .i64 0, .int .i64 1]) ∧ Bw w w' := by
  have c0 := h.blk.cell 0
  have c2 := h.blk.cell 2
  simp only [List.getElem?_toArray, List.getElem?_cons_zero, List.getElem?_cons_succ] at c0 c2
  have hlp := h.blk.lt
  have HP := hid h
  have HS := hid hs
  clear h hs
  have ho1 := fun w => h1 ▸ one_any f F w
  have H2 := hid h2
  clear h2
  go_enter Try.func16, Try.ntmps16
  go_wp2_with (first
    | (go_at_call 28; refine (ho1 _).mono ?_; rintro e w1 ⟨rfl, hw⟩; subst w1)
    | (go_at_call 29; refine (once_any HP.out hG _ l HS.out (by omega)).mono ?_; rintro e w1 ⟨he, hb⟩; rw [H2.out] at he; subst he; have HP1 := hid (HP.out.bw hb); have HB1 := hid hb; clear hb)
    | fail)
  all_goals go_ret2
  all_goals exact ⟨rfl, HB1.out⟩

set_option maxRecDepth 100000 in
set_option maxHeartbeats 2000000 in
theorem Add_no3 (h : DS w p bs F G rv L) (hG : G ≤ 1024) {GG : Nat → Prop} (f : Int) {a : Option Addr} {c : Nat} (l : List (Int × Int)) (hs : Sl w GG (.slice a l.length c) l.length 2 (depC l)) (hm : l.length ≤ 1000) (h1 : oneOf f F = true) (h2 : nms G l = true) (h3 : all (vof f) (L.map Prod.fst) ≠ []) : Calls Try.prog 16 #[.pointer (some ⟨p, 0, none⟩), .int .i64 f, .slice a l.length c] w fun e w' => e = .returned (.tuple #[.int .i64 0, .int .i64 7]) ∧ Bw w w' := by
  have c0 := h.blk.cell 0
  have c2 := h.blk.cell 2
  simp only [List.getElem?_toArray, List.getElem?_cons_zero, List.getElem?_cons_succ] at c0 c2
  have hlp := h.blk.lt
  have HP := hid h
  have HS := hid hs
  clear h hs
  have ho1 := fun w => h1 ▸ one_any f F w
  have H2 := hid h2
  clear h2
  obtain ⟨N3, hN3⟩ : ∃ N, (all (vof f) (L.map Prod.fst)).length = N := ⟨_, rfl⟩
  have H3 := hid hN3
  have h5 : 0 < N3 := by
    rw [← hN3]
    exact List.length_pos_iff.2 h3
  have h6 : (0 : Int) < (N3 : Int) := by omega
  clear hN3 h3
  go_enter Try.func16, Try.ntmps16
  go_wp2_with (first
    | (go_at_call 28; refine (ho1 _).mono ?_; rintro e w1 ⟨rfl, hw⟩; subst w1)
    | (go_at_call 29; refine (once_any HP.out hG _ l HS.out (by omega)).mono ?_; rintro e w1 ⟨he, hb⟩; rw [H2.out] at he; subst he; have HP1 := hid (HP.out.bw hb); have HB1 := hid hb; clear hb)
    | (go_at_call 30; (fail_if_success (have _g := m1)); have m1 := hid trivial; refine (findV HP1.out f).mono ?_; rintro e w2 ⟨r, rfl, ho, hb⟩; obtain ⟨ar, cr, e⟩ := own_form ho; rw [show (all (vof f) (L.map Prod.fst)).length = N3 from H3.out] at e; subst e; have HP2 := hid (HP1.out.bw hb); have HB2 := hid (HB1.out.trans hb); clear ho hb)
    | fail)
  all_goals go_ret2
  all_goals exact ⟨rfl, HB2.out⟩

set_option maxRecDepth 100000 in
set_option maxHeartbeats 2000000 in
theorem Add_no4 (h : DS w p bs F G rv L) (hG : G ≤ 1024) {GG : Nat → Prop} (f : Int) {a : Option Addr} {c : Nat} (l : List (Int × Int)) (hs : Sl w GG (.slice a l.length c) l.length 2 (depC l)) (hm : l.length ≤ 1000) (h1 : oneOf f F = true) (h2 : nms G l = true) (h3 : all (vof f) (L.map Prod.fst) = []) (h4 : 4 ≤ cnt f (L.map Prod.fst)) : Calls Try.prog 16 #[.pointer (some ⟨p, 0, none⟩), .int .i64 f, .slice a l.length c] w fun e w' => e = .returned (.tuple #[.int .i64 0, .int .i64 3]) ∧ Bw w w' := by
  have c0 := h.blk.cell 0
  have c2 := h.blk.cell 2
  simp only [List.getElem?_toArray, List.getElem?_cons_zero, List.getElem?_cons_succ] at c0 c2
  have hlp := h.blk.lt
  have HP := hid h
  have HS := hid hs
  clear h hs
  have ho1 := fun w => h1 ▸ one_any f F w
  have H2 := hid h2
  clear h2
  have H3 := hid (show (all (vof f) (L.map Prod.fst)).length = 0 by rw [h3]; rfl)
  obtain ⟨N, hN⟩ : ∃ N, (all (aof f) (L.map Prod.fst)).length = N := ⟨_, rfl⟩
  have H4 := hid hN
  unfold cnt at h4
  rw [hN] at h4
  have h6 : (4 : Int) ≤ (N : Int) := by omega
  clear hN h3 h4
  go_enter Try.func16, Try.ntmps16
  go_wp2_with (first
    | (go_at_call 28; refine (ho1 _).mono ?_; rintro e w1 ⟨rfl, hw⟩; subst w1)
    | (go_at_call 29; refine (once_any HP.out hG _ l HS.out (by omega)).mono ?_; rintro e w1 ⟨he, hb⟩; rw [H2.out] at he; subst he; have HP1 := hid (HP.out.bw hb); have HB1 := hid hb; clear hb)
    | (go_at_call 30; (fail_if_success (have _g := m1)); have m1 := hid trivial; refine (findV HP1.out f).mono ?_; rintro e w2 ⟨r, rfl, ho, hb⟩; obtain ⟨ar, cr, e⟩ := own_form ho; rw [show (all (vof f) (L.map Prod.fst)).length = 0 from H3.out] at e; subst e; have HP2 := hid (HP1.out.bw hb); have HB2 := hid (HB1.out.trans hb); clear ho hb)
    | (go_at_call 30; have _g := m1; clear _g; refine (findA HP2.out f).mono ?_; rintro e w3 ⟨r, rfl, ho, hb⟩; obtain ⟨ar3, cr3, e⟩ := own_form ho; rw [show (all (aof f) (L.map Prod.fst)).length = N from H4.out] at e; subst e; have HP3 := hid (HP2.out.bw hb); have HB3 := hid (HB2.out.trans hb); clear ho hb)
    | fail)
  all_goals go_ret2
  all_goals exact ⟨rfl, HB3.out⟩

theorem verC_one (f : Int) (l : List (Int × Int)) (b : Bool) (a : Option Addr) (c : Nat) : ∀ u ∈ verC (⟨f, l, b⟩, .slice a l.length c), u.oneCell' = true := by
  intro u hu
  simp [verC] at hu
  rcases hu with rfl | rfl | rfl <;> rfl

theorem own_slb {w : World} {base : Nat} {e : TypeId} {size : Nat} {v : Value} {n : Nat} {xs : List Value} (h : w.ownsRow base e size v n xs) : Sl w (fun b => v.ownBlock = some b) v n size xs := by
  refine ⟨h.1, ?_⟩
  rcases h.2 with ⟨rfl, rfl⟩ | ⟨g, cap, cur, rfl, h1, h3, h4, h5, h6, h7⟩
  · exact ⟨none, 0, rfl, ⟨Nat.le_refl _, fun _ => rfl⟩, .inl rfl⟩
  · refine ⟨_, cap, rfl, ⟨h4, fun e => by cases e⟩, .inr ⟨g, 0, rfl, (Array.getElem?_eq_some_iff.1 h3).1, rfl, fun i hi => ?_⟩⟩
    rw [Nat.zero_add, cell_of_row w g i cur _ (0, 0) h3, ← h7, List.getElem?_take, if_pos hi]
    simp

theorem add_fin {W0 wA wB : World} {l : List (Int × Int)} {f : Int} {v5 v10 : Value} (hW : DS W0 p bs F G rv L) (h0 : Bw w W0) (hb : Bw W0 wA) (h5 : wA.ownsRow W0.heap.size 61 2 v5 l.length (depC l)) (ho : wB.ownsRow 0 78 3 v10 (L.length + 1) (rowC L ++ verC (⟨f, l, true⟩, v5))) (hg : wA.grownBy wB rv.ownBlock)
    (hvb : v10.ownBlock = rv.ownBlock ∨ ∀ k, v10.ownBlock = some k → wA.heap.size ≤ k) (hn : nmsP G l l.length) (hbg : L.length < 1000) (hm : l.length ≤ 1000) :
    wB.cell? ⟨p, 2, none⟩ = some rv ∧ p < wB.heap.size ∧ (∀ j, wB.frozen? ⟨p, j, none⟩ = false) ∧ wB.cell? ⟨p, 2, none⟩ = some rv ∧
    ∃ bs', DS (wB.setCell ⟨p, 2, none⟩ v10) p bs' F G v10 (L ++ [(⟨f, l, true⟩, v5)]) ∧ Nx bs w (wB.setCell ⟨p, 2, none⟩ v10) bs' := by
  have h := hW.bw hb
  have hsA := hb.size
  have hsB := hg.size
  have hp0 := hW.lt p hW.mp
  have hrp : rv.ownBlock ≠ some p := fun e => (hW.mr p e).2 rfl
  have hbp : Blk wB p #[.int .i64 F, .int .i64 G, rv] 68 := h.blk.keep (hg.block p h.blk.lt (fun e => hrp e.symm))
  have hvp : v10.ownBlock ≠ some p := by
    rcases hvb with e | e
    · rw [e]; exact hrp
    · intro k; have := e p k; omega
  have hkA : ∀ b, b < wA.heap.size → rv.ownBlock ≠ some b → b ≠ p → (wB.setCell ⟨p, 2, none⟩ v10).heap[b]? = wA.heap[b]? := fun b hb1 hb2 hb3 => (Below.heap_setCell wB _ _ b hb3).trans (hg.block b hb1 (fun e => hb2 e.symm))
  have hv5 : ∀ b, v5.ownBlock = some b → W0.heap.size ≤ b ∧ b < wA.heap.size := fun b e => h5.lt b e
  refine ⟨hbp.cell 2, hbp.lt, hbp.free, hbp.cell 2, bs ++ v10.ownBlock.toList ++ v5.ownBlock.toList, ⟨hbp.set 2 v10, ?_, ?_, by simp [hW.mp], ?_, ?_, ?_, ?_⟩, ⟨⟨(hg.os.trans hb.os).trans h0.os, (hg.tape.trans hb.tape).trans h0.tape, (hg.output.trans hb.output).trans h0.output, by simp; have := h0.size; omega, ?_⟩, ?_⟩⟩
  · rw [rowC_snoc, List.length_append]
    exact ownsRow_setCell_other (a := ⟨p, 2, none⟩) ho hvp v10
  · intro q hq
    rcases List.mem_append.1 hq with hq | hq
    · refine (h.ons q hq).keep (by simp; omega) (fun b hb1 hb2 => hkA b hb1 hb2.2.2 hb2.2.1) (fun b hb1 hb2 => ⟨by simp [hb2.1], hb2.2.1, fun k => ?_⟩)
      rcases hvb with e | e
      · exact hb2.2.2 (e ▸ k)
      · have := e b k; omega
    · obtain rfl := List.mem_singleton.1 hq
      refine (own_slb h5).keep (by simp; omega) (fun b hb1 hb2 => hkA b hb1 (fun e => ?_) (fun e => ?_)) (fun b hb1 hb2 => ⟨by simp [hb2], fun e => ?_, fun k => ?_⟩)
      · have := (hv5 b hb2).1; have := hW.lt b (hW.mr b e).1; omega
      · have := (hv5 b hb2).1; omega
      · have := (hv5 b hb2).1; omega
      · rcases hvb with e | e
        · have := (hv5 b hb2).1; have := hW.lt b (hW.mr b (e ▸ k)).1; omega
        · have := e b k; omega
  · intro b hb1
    exact ⟨by simp [hb1], fun e => hvp (e ▸ hb1)⟩
  · intro b hb1
    simp only [List.mem_append, Option.mem_toList] at hb1
    rw [show (wB.setCell ⟨p, 2, none⟩ v10).heap.size = wB.heap.size by simp]
    rcases hb1 with (hb1 | hb1) | hb1
    · have := hW.lt b hb1; omega
    · exact (ho.lt b hb1).2
    · have := (hv5 b hb1).2; omega
  · refine ⟨by simp; omega, fun q hq => ?_⟩
    rcases List.mem_append.1 hq with hq | hq
    · exact hW.big.2 q hq
    · obtain rfl := List.mem_singleton.1 hq
      exact hm
  · intro q hq
    rcases List.mem_append.1 hq with hq | hq
    · exact hW.once q hq
    · obtain rfl := List.mem_singleton.1 hq
      exact hn
  · intro b hb1 hb2
    have hbW : b < W0.heap.size := Nat.lt_of_lt_of_le hb1 h0.size
    rw [hkA b (by omega) (fun e => hb2 (hW.mr b e).1) (fun e => hb2 (e ▸ hW.mp)), hb.block b hbW, h0.block b hb1]
  · intro b hb1
    simp only [List.mem_append, Option.mem_toList] at hb1
    have := h0.size
    rcases hb1 with (hb1 | hb1) | hb1
    · exact .inl hb1
    · rcases hvb with e | e
      · exact .inl (hW.mr b (e ▸ hb1)).1
      · have := e b hb1; exact .inr (by omega)
    · have := (hv5 b hb1).1; exact .inr (by omega)

set_option maxRecDepth 100000 in
set_option maxHeartbeats 2000000 in
theorem Add_yes (h : DS w p bs F G rv L) (hG : G ≤ 1024) {GG : Nat → Prop} (f : Int) {a : Option Addr} {c : Nat} (l : List (Int × Int)) (hs : Sl w GG (.slice a l.length c) l.length 2 (depC l)) (hm : l.length ≤ 1000) (hbg : L.length < 1000) (h1 : oneOf f F = true) (h2 : nms G l = true) (h3 : all (vof f) (L.map Prod.fst) = []) (h4 : ¬ 4 ≤ cnt f (L.map Prod.fst)) : Calls Try.prog 16 #[.pointer (some ⟨p, 0, none⟩), .int .i64 f, .slice a l.length c] w fun e w' => ∃ bs' rv' L', e = .returned (.tuple #[.int .i64 (L.length : Nat), .int .i64 0]) ∧ DS w' p bs' F G rv' L' ∧ Nx bs w w' bs' ∧ L'.map Prod.fst = L.map Prod.fst ++ [⟨f, l, true⟩] := by
  have c0 := h.blk.cell 0
  have c2 := h.blk.cell 2
  simp only [List.getElem?_toArray, List.getElem?_cons_zero, List.getElem?_cons_succ] at c0 c2
  have hlp := h.blk.lt
  have HP := hid h
  have HS := hid hs
  clear h hs
  have ho1 := fun w => h1 ▸ one_any f F w
  have H2 := hid h2
  clear h2
  have H3 := hid (show (all (vof f) (L.map Prod.fst)).length = 0 by rw [h3]; rfl)
  obtain ⟨N, hN⟩ : ∃ N, (all (aof f) (L.map Prod.fst)).length = N := ⟨_, rfl⟩
  have H4 := hid hN
  unfold cnt at h4
  rw [hN] at h4
  have h6 : ¬ (4 : Int) ≤ (N : Int) := by omega
  clear hN h3 h4
  obtain ⟨i2, hi2, hz2, hs2, hy2⟩ := info_parts infoVe
  have I2 := hid (And.intro hi2 (And.intro hz2 (And.intro hs2 hy2)))
  clear hi2 hz2 hs2 hy2
  go_enter Try.func16, Try.ntmps16
  go_wp2_with (first
    | (go_at_call 28; refine (ho1 _).mono ?_; rintro e w1 ⟨rfl, hw⟩; subst w1)
    | (go_at_call 29; refine (once_any HP.out hG _ l HS.out (by omega)).mono ?_; rintro e w1 ⟨he, hb⟩; rw [H2.out] at he; subst he; have HP1 := hid (HP.out.bw hb); have HB1 := hid hb; clear hb)
    | (go_at_call 30; (fail_if_success (have _g := m1)); have m1 := hid trivial; refine (findV HP1.out f).mono ?_; rintro e w2 ⟨r, rfl, ho, hb⟩; obtain ⟨ar, cr, e⟩ := own_form ho; rw [show (all (vof f) (L.map Prod.fst)).length = 0 from H3.out] at e; subst e; have HP2 := hid (HP1.out.bw hb); have HB2 := hid (HB1.out.trans hb); clear ho hb)
    | (go_at_call 30; have _g := m1; clear _g; refine (findA HP2.out f).mono ?_; rintro e w3 ⟨r, rfl, ho, hb⟩; obtain ⟨ar3, cr3, e⟩ := own_form ho; rw [show (all (aof f) (L.map Prod.fst)).length = N from H4.out] at e; subst e; have HP3 := hid (HP2.out.bw hb); have HB3 := hid (HB2.out.trans hb); clear ho hb)
    | fail)
  refine wp_region_W (fun w' => w'.cell? ⟨p, 2, none⟩ = some rv) (fun j => if j == 7 || j == 9 || j == 10 then 0 else if j == 13 then 2 else 1) (by kernel_rfl) ?_
  have hB0 : Bw w w3.drew := Bw.drew HB3.out
  have HPD := hid (HP3.out.bw (Bw.drew (Bw.refl w3)))
  have HSD := hid (HS.out.below hB0)
  have HBD := hid hB0
  generalize hW0 : w3.drew = W0 at HPD HSD HBD
  clear hB0
  have hS := hid (show ∀ W', Bw W0 W' → W'.cell? ⟨p, 2, none⟩ = some rv from fun W' hb => (HPD.out.bw hb).blk.cell 2)
  refine wpAnyW_take (i := 0) (oi := { dst := some 37, op := Op.move (Operand.tmp 0), type := 25, pos := "deps.go:36", after := #[], guard := none }) (v := ?_) rfl (by kernel_rfl) (by kernel_rfl) (by kernel_rfl) (by kernel_rfl) (fun _ _ _ h => h) (Or.inl ⟨by rfl, fun w _ => ?_⟩) ?_
  rotate_left
  · (go_simp; first | done | with_reducible rfl)
  try simp only [Act.put, List.setIfInBounds_toArray, List.set_cons_zero, List.set_cons_succ]
  refine wpAnyW_take (i := 1) (oi := { dst := some 38, op := Op.move (Operand.tmp 0), type := 25, pos := "deps.go:36", after := #[], guard := none }) (v := ?_) rfl (by kernel_rfl) (by kernel_rfl) (by kernel_rfl) (by kernel_rfl) (fun _ _ _ h => h) (Or.inl ⟨by rfl, fun w _ => ?_⟩) ?_
  rotate_left
  · (go_simp; first | done | with_reducible rfl)
  try simp only [Act.put, List.setIfInBounds_toArray, List.set_cons_zero, List.set_cons_succ]
  refine wpAnyW_take (i := 2) (oi := { dst := some 39, op := Op.nilCheck (Operand.tmp 38), type := 0, pos := "deps.go:36", after := #[{ on := 1, ground := Ground.data }], guard := none }) (v := ?_) rfl (by kernel_rfl) (by kernel_rfl) (by kernel_rfl) (by kernel_rfl) (fun _ _ _ h => h) (Or.inl ⟨by rfl, fun w _ => ?_⟩) ?_
  rotate_left
  · (go_simp; first | done | with_reducible rfl)
  try simp only [Act.put, List.setIfInBounds_toArray, List.set_cons_zero, List.set_cons_succ]
  refine wpAnyW_take (i := 3) (oi := { dst := some 40, op := Op.fieldAddr 68 (Operand.tmp 39) 2, type := 0, pos := "deps.go:36", after := #[{ on := 2, ground := Ground.data }], guard := none }) (v := ?_) rfl (by kernel_rfl) (by kernel_rfl) (by kernel_rfl) (by kernel_rfl) (fun _ _ _ h => h) (Or.inl ⟨by rfl, fun w _ => ?_⟩) ?_
  rotate_left
  · (go_simp; first | done | with_reducible rfl)
  try simp only [Act.put, List.setIfInBounds_toArray, List.set_cons_zero, List.set_cons_succ]
  refine wpAnyW_load (i := 4) (oi := { dst := some 41, op := Op.load 66 (Operand.tmp 40), type := 66, pos := "deps.go:36", after := #[{ on := 3, ground := Ground.data }], guard := none }) (v := ?_) rfl (by kernel_rfl) (by kernel_rfl) (by kernel_rfl) (by kernel_rfl) (by kernel_rfl) (fun _ _ _ h => h) (Or.inl ⟨by rfl, fun w hS => ?_⟩) (hS.out W0 (Bw.refl _)) ?_
  rotate_left
  · (skip; go_simp; first | done | with_reducible rfl)
  try simp only [Act.put, List.setIfInBounds_toArray, List.set_cons_zero, List.set_cons_succ]
  refine wpAnyW_take (i := 5) (oi := { dst := some 42, op := Op.move (Operand.tmp 1), type := 3, pos := "deps.go:36", after := #[], guard := none }) (v := ?_) rfl (by kernel_rfl) (by kernel_rfl) (by kernel_rfl) (by kernel_rfl) (fun _ _ _ h => h) (Or.inl ⟨by rfl, fun w _ => ?_⟩) ?_
  rotate_left
  · (go_simp; first | done | with_reducible rfl)
  try simp only [Act.put, List.setIfInBounds_toArray, List.set_cons_zero, List.set_cons_succ]
  refine wpAnyW_take (i := 6) (oi := { dst := some 43, op := Op.move (Operand.tmp 2), type := 37, pos := "deps.go:36", after := #[], guard := none }) (v := ?_) rfl (by kernel_rfl) (by kernel_rfl) (by kernel_rfl) (by kernel_rfl) (fun _ _ _ h => h) (Or.inl ⟨by rfl, fun w _ => ?_⟩) ?_
  rotate_left
  · (go_simp; first | done | with_reducible rfl)
  try simp only [Act.put, List.setIfInBounds_toArray, List.set_cons_zero, List.set_cons_succ]
  refine wpAnyW_ready (rs := [7]) (by kernel_rfl) (by simp) ?_
  refine (AllReadyW.cons (o := { dst := some 44, op := Op.call { callee := Callee.value (Operand.func 31), args := #[Operand.tmp 43], argTypes := #[37] }, type := 37, pos := "deps.go:36", after := #[{ on := 6, ground := Ground.data }], guard := none }) rfl (fun K hK => ?_) AllReadyW.nil)
  go_simp
  refine (clone_any _ l HSD.out hm).mono ?_
  rintro e w5 ⟨r5, rfl, ho5, hb5⟩
  obtain ⟨a5, c5, e5⟩ := own_form ho5
  subst e5
  have HO5 := hid ho5
  have HB5 := hid hb5
  clear ho5 hb5
  refine hK.out _ _ (hS.out _ HB5.out) ?_
  clear hK K
  try simp only [Act.put, List.setIfInBounds_toArray, List.set_cons_zero, List.set_cons_succ]
  refine wpAnyW_take (i := 8) (oi := { dst := some 45, op := Op.build 78 #[(0, Operand.tmp 42), (1, Operand.tmp 44), (2, Operand.const (Value.bool true))], type := 78, pos := "deps.go:36", after := #[{ on := 5, ground := Ground.data }, { on := 7, ground := Ground.data }], guard := none }) (v := ?_) rfl (by kernel_rfl) (by kernel_rfl) (by kernel_rfl) (by kernel_rfl) (fun _ _ _ h => h) (Or.inl ⟨by rfl, fun w _ => ?_⟩) ?_
  rotate_left
  · (go_simp; first | done | with_reducible rfl)
  try simp only [Act.put, List.setIfInBounds_toArray, List.set_cons_zero, List.set_cons_succ]
  refine wpAnyW_ready (rs := [9]) (by kernel_rfl) (by simp) ?_
  refine (AllReadyW.cons (o := { dst := some 46, op := Op.buildSlice 66 1 #[(0, Operand.tmp 45)], type := 66, pos := "deps.go:36", after := #[{ on := 8, ground := Ground.data }], guard := none }) rfl (fun K hK => ?_) AllReadyW.nil)
  go_simp
  have N9 := hid (show Sl (w5.alloc (.cells (verC (⟨f, l, true⟩, .slice a5 l.length c5)).toArray 78)) (fun b => b = w5.heap.size) (.slice (some ⟨w5.heap.size, 0, none⟩) 1 1) 1 3 (verC (⟨f, l, true⟩, .slice a5 l.length c5)) from sl_new w5 (fun b => b = w5.heap.size) (verC (⟨f, l, true⟩, .slice a5 l.length c5)) 78 1 3 rfl rfl)
  refine hK.out _ _ (hS.out _ (Bw.alloc HB5.out _)) ?_
  clear hK K
  try simp only [Act.put, List.setIfInBounds_toArray, List.set_cons_zero, List.set_cons_succ]
  refine wpAnyW_ready (rs := [10]) (by kernel_rfl) (by simp) ?_
  refine (AllReadyW.cons (o := { dst := some 47, op := Op.call { callee := Callee.builtin Builtin.append, args := #[Operand.tmp 41, Operand.tmp 46], argTypes := #[66, 66] }, type := 66, pos := "deps.go:36", after := #[{ on := 4, ground := Ground.data }, { on := 9, ground := Ground.data }, { on := 7, ground := Ground.chain }], guard := none }) rfl (fun K hK => ?_) AllReadyW.nil)
  have HP9 := hid (HPD.out.bw (Bw.alloc HB5.out (.cells (verC (⟨f, l, true⟩, .slice a5 l.length c5)).toArray 78)))
  refine step_append_any rfl _ _ 66 rfl 78 i2 _ 3 40 Try.underlying66 I2.out.1 I2.out.2.1 I2.out.2.2.1 I2.out.2.2.2 rfl (by decide) rv L.length (rowC L) rfl HP9.out.row (.slice (some ⟨w5.heap.size, 0, none⟩) 1 1) 1 (verC (⟨f, l, true⟩, .slice a5 l.length c5)) rfl N9.out (verC_one _ _ _ _ _) (by unfold maxLen; omega) (by omega) ?_
  intro v10 w10 ho10 hg10 hvb10
  have HF := hid (add_fin HPD.out HBD.out (Bw.alloc HB5.out _) (own_bw HO5.out (Bw.alloc (Bw.refl _) _)) ho10 hg10 hvb10 (nms_iff.1 H2.out) hbg hm)
  obtain ⟨a10, c10, e10⟩ := own_form ho10
  subst e10
  have p2 := HF.out.1
  have pl := HF.out.2.1
  have pf := HF.out.2.2.1
  refine hK.out _ _ (HF.out.2.2.2.1) ?_
  clear hK K hg10 hvb10 ho10
  try simp only [Act.put, List.setIfInBounds_toArray, List.set_cons_zero, List.set_cons_succ]
  refine wpAnyW_take (i := 11) (oi := { dst := some 48, op := Op.nilCheck (Operand.tmp 37), type := 0, pos := "deps.go:36", after := #[{ on := 0, ground := Ground.data }, { on := 0, ground := Ground.phase }, { on := 1, ground := Ground.phase }, { on := 2, ground := Ground.phase }, { on := 3, ground := Ground.phase }, { on := 4, ground := Ground.phase }, { on := 5, ground := Ground.phase }, { on := 6, ground := Ground.phase }, { on := 7, ground := Ground.phase }, { on := 8, ground := Ground.phase }, { on := 9, ground := Ground.phase }, { on := 10, ground := Ground.phase }], guard := none }) (v := ?_) rfl (by kernel_rfl) (by kernel_rfl) (by kernel_rfl) (by kernel_rfl) (fun _ _ _ h => h) (Or.inl ⟨by rfl, fun w _ => ?_⟩) ?_
  rotate_left
  · (go_simp; first | done | with_reducible rfl)
  try simp only [Act.put, List.setIfInBounds_toArray, List.set_cons_zero, List.set_cons_succ]
  refine wpAnyW_take (i := 12) (oi := { dst := some 49, op := Op.fieldAddr 68 (Operand.tmp 48) 2, type := 0, pos := "deps.go:36", after := #[{ on := 11, ground := Ground.data }, { on := 0, ground := Ground.phase }, { on := 1, ground := Ground.phase }, { on := 2, ground := Ground.phase }, { on := 3, ground := Ground.phase }, { on := 4, ground := Ground.phase }, { on := 5, ground := Ground.phase }, { on := 6, ground := Ground.phase }, { on := 7, ground := Ground.phase }, { on := 8, ground := Ground.phase }, { on := 9, ground := Ground.phase }, { on := 10, ground := Ground.phase }], guard := none }) (v := ?_) rfl (by kernel_rfl) (by kernel_rfl) (by kernel_rfl) (by kernel_rfl) (fun _ _ _ h => h) (Or.inl ⟨by rfl, fun w _ => ?_⟩) ?_
  rotate_left
  · (go_simp; first | done | with_reducible rfl)
  try simp only [Act.put, List.setIfInBounds_toArray, List.set_cons_zero, List.set_cons_succ]
  refine wpAnyW_ready (rs := [13]) (by kernel_rfl) (by simp) ?_
  refine (AllReadyW.cons (o := { dst := none, op := Op.store 66 (Operand.tmp 49) (Operand.tmp 47), type := 0, pos := "deps.go:36", after := #[{ on := 12, ground := Ground.data }, { on := 10, ground := Ground.data }, { on := 10, ground := Ground.chain }, { on := 0, ground := Ground.phase }, { on := 1, ground := Ground.phase }, { on := 2, ground := Ground.phase }, { on := 3, ground := Ground.phase }, { on := 4, ground := Ground.phase }, { on := 5, ground := Ground.phase }, { on := 6, ground := Ground.phase }, { on := 7, ground := Ground.phase }, { on := 8, ground := Ground.phase }, { on := 9, ground := Ground.phase }, { on := 10, ground := Ground.phase }], guard := none }) rfl (fun K hK => ?_) AllReadyW.nil)
  go_simp
  refine hK.out _ _ trivial ?_
  clear hK K
  try simp only [Act.put, List.setIfInBounds_toArray, List.set_cons_zero, List.set_cons_succ]
  refine wpAnyW_done (by kernel_rfl) ?_ _
  all_goals go_wp2
  all_goals go_ret2
  all_goals exact ⟨_, _, _, rfl, HF.out.2.2.2.2.choose_spec.1, HF.out.2.2.2.2.choose_spec.2, by simp⟩

/-- Add, whatever is added. -/
theorem Add_any (h : DS w p bs F G rv L) (hG : G ≤ 1024) {GG : Nat → Prop} (f : Int) {a : Option Addr} {c : Nat} (l : List (Int × Int)) (hs : Sl w GG (.slice a l.length c) l.length 2 (depC l)) (hm : l.length ≤ 1000) (hbg : L.length < 1000) : Calls Try.prog 16 #[.pointer (some ⟨p, 0, none⟩), .int .i64 f, .slice a l.length c] w fun e w' => ∃ bs' rv' L', e = .returned (.tuple #[.int .i64 ((if addE F G (L.map Prod.fst) f l = 0 then L.length else 0 : Nat) : Int), .int .i64 (addE F G (L.map Prod.fst) f l)]) ∧ DS w' p bs' F G rv' L' ∧ Nx bs w w' bs' ∧ L'.map Prod.fst = addL F G (L.map Prod.fst) f l := by
  have key : ∀ (k : Int) (hk : addE F G (L.map Prod.fst) f l = k) (hk0 : k ≠ 0) (hc : Calls Try.prog 16 #[.pointer (some ⟨p, 0, none⟩), .int .i64 f, .slice a l.length c] w fun e w' => e = .returned (.tuple #[.int .i64 0, .int .i64 k]) ∧ Bw w w'), Calls Try.prog 16 #[.pointer (some ⟨p, 0, none⟩), .int .i64 f, .slice a l.length c] w fun e w' => ∃ bs' rv' L', e = .returned (.tuple #[.int .i64 ((if addE F G (L.map Prod.fst) f l = 0 then L.length else 0 : Nat) : Int), .int .i64 (addE F G (L.map Prod.fst) f l)]) ∧ DS w' p bs' F G rv' L' ∧ Nx bs w w' bs' ∧ L'.map Prod.fst = addL F G (L.map Prod.fst) f l := by
    intro k hk hk0 hc
    refine hc.mono fun e w' ⟨he, hb⟩ => ⟨bs, rv, L, ?_, h.bw hb, Nx.of_bw hb, ?_⟩
    · rw [hk, if_neg hk0]; exact he
    · unfold addL; rw [hk, if_neg hk0]
  by_cases h1 : oneOf f F = true
  · by_cases h2 : nms G l = true
    · by_cases h3 : all (vof f) (L.map Prod.fst) = []
      · by_cases h4 : 4 ≤ cnt f (L.map Prod.fst)
        · exact key 3 (by simp [addE, h1, h2, h3, h4]) (by decide) (Add_no4 h hG f l hs hm h1 h2 h3 h4)
        · have h0 : addE F G (L.map Prod.fst) f l = 0 := by simp [addE, h1, h2, h3, h4]
          refine (Add_yes h hG f l hs hm hbg h1 h2 h3 h4).mono fun e w' ⟨bs', rv', L', he, hd, hn, hl⟩ => ⟨bs', rv', L', ?_, hd, hn, ?_⟩
          · rw [h0, if_pos rfl]; exact he
          · unfold addL; rw [h0, if_pos rfl]; exact hl
      · exact key 7 (by simp [addE, h1, h2, h3]) (by decide) (Add_no3 h hG f l hs hm h1 h2 h3)
    · have h2 : nms G l = false := by simpa using h2
      exact key 1 (by simp [addE, h2]) (by decide) (Add_no2 h hG f l hs hm h1 h2)
  · have h1 : oneOf f F = false := by simpa using h1
    exact key 1 (by simp [addE, h1]) (by decide) (Add_no1 h hG f l hs hm h1)

/-- What stands while those that end are marked. -/
structure WL (w wr : World) (p : Nat) (bs : List Nat) (F G : Nat) (a : Option Addr) (c : Nat) (L : List (VV × Value)) (J : List Nat) (r : Value) (k : Nat) (Lk : List (VV × Value)) : Prop where
  ds : DS wr p bs F G (.slice a Lk.length c) Lk
  map : Lk.map Prod.fst = offs (J.take k) (L.map Prod.fst)
  len : Lk.length = L.length
  own : wr.ownsRow w.heap.size 3 1 r J.length (ints J)
  nx : Nx bs w wr bs

theorem WL.step {w wr : World} {p F G : Nat} {bs : List Nat} {g c : Nat} {L Lk : List (VV × Value)} {J : List Nat} {r : Value} {k n : Nat} (h : WL w wr p bs F G (some ⟨g, 0, none⟩) c L J r k Lk) (hb : ∀ b ∈ bs, b < w.heap.size) (hk : J[k]? = some n) (hn : n < Lk.length) :
    WL w (wr.setCell ⟨g, n * 3 + 2, none⟩ (.bool false)) p bs F G (some ⟨g, 0, none⟩) c L J r (k + 1) (Lk.modify n offq) := by
  have hg := h.ds.mr g rfl
  refine ⟨?_, ?_, ?_, ownsRow_setCell_below h.own (hb g hg.1) _, ⟨h.nx.ex.set (.inl hg.1) _ _, h.nx.new⟩⟩
  · have := h.ds.off hn
    rw [List.length_modify]
    exact this
  · rw [map_offq, h.map, List.take_add_one, hk]
    exact (offs_snoc _ _ _).symm
  · rw [List.length_modify]; exact h.len

set_option maxRecDepth 100000 in
set_option maxHeartbeats 2000000 in
theorem Wrote_no (h : DS w p bs F G rv L) (g v : Int) (h1 : oneOf g G = false) : Calls Try.prog 17 #[.pointer (some ⟨p, 0, none⟩), .int .i64 g, .int .u64 v] w fun e w' => e = .returned (.tuple #[.slice none 0 0, .int .i64 1]) ∧ w' = w := by
  have c1 := h.blk.cell 1
  simp only [List.getElem?_toArray, List.getElem?_cons_zero, List.getElem?_cons_succ] at c1
  have hlp := h.blk.lt
  have ho1 := fun w => h1 ▸ one_any g G w
  clear h
  go_enter Try.func17, Try.ntmps17
  go_wp2_with (first
    | (go_at_call 28; refine (ho1 _).mono ?_; rintro e w1 ⟨rfl, hw⟩; subst w1)
    | fail)
  all_goals go_ret2
  all_goals exact ⟨rfl, rfl⟩

set_option maxRecDepth 100000 in
set_option maxHeartbeats 2000000 in
theorem Wrote_yes (h : DS w p bs F G rv L) (g v : Int) (h1 : oneOf g G = true) : Calls Try.prog 17 #[.pointer (some ⟨p, 0, none⟩), .int .i64 g, .int .u64 v] w fun e w' => ∃ r L', e = .returned (.tuple #[r, .int .i64 0]) ∧ w'.ownsRow w.heap.size 3 1 r (all (hit g v) (L.map Prod.fst)).length (ints (all (hit g v) (L.map Prod.fst))) ∧ DS w' p bs F G rv L' ∧ Nx bs w w' bs ∧ L'.map Prod.fst = wroteL g v (L.map Prod.fst) := by
  obtain ⟨a, c, rfl⟩ := own_form h.row
  have c1 := h.blk.cell 1
  have c2 := h.blk.cell 2
  simp only [List.getElem?_toArray, List.getElem?_cons_zero, List.getElem?_cons_succ] at c1 c2
  have hlp := h.blk.lt
  have HP := hid h
  have ho1 := fun w => h1 ▸ one_any g G w
  have HF := hid (findW h g v)
  have HO := hid (offs_all g v (L.map Prod.fst))
  have HI := hid (fun i (hi : i ∈ all (hit g v) (L.map Prod.fst)) => show i < L.length by
    obtain ⟨x, hx, _⟩ := mem_all.1 hi
    have := (List.getElem?_eq_some_iff.1 hx).1
    simpa using this)
  have hjl : (all (hit g v) (L.map Prod.fst)).length ≤ 1000 := Nat.le_trans (idx_len _ _ _) (by have := h.big.1; simpa using this)
  clear h
  generalize all (hit g v) (L.map Prod.fst) = J at HF HO HI hjl
  generalize wroteL g v (L.map Prod.fst) = K1 at HO
  go_enter Try.func17, Try.ntmps17
  go_wp2_with (first
    | (go_at_call 28; refine (ho1 _).mono ?_; rintro e w1 ⟨rfl, hw⟩; subst w1)
    | (go_at_call 30; refine HF.out.mono ?_; rintro e w1 ⟨r, rfl, ho, hb⟩; obtain ⟨ar, cr, e⟩ := own_form ho; subst e; have HW := hid (show WL w w1 p bs F G a c L J (.slice ar J.length cr) 0 L from ⟨HP.out.bw hb, rfl, rfl, ho, Nx.of_bw hb⟩); clear ho hb)
    | fail)
  go_loopw [28] (fun j wr => ∃ (k : Nat) (Lk : List (VV × Value)), k ≤ J.length ∧ j = .int .i64 k ∧ WL w wr p bs F G a c L J (.slice ar J.length cr) k Lk) (fun j _ => J.length - (intOf j).toNat)
  case atStart => exact ⟨0, L, Nat.zero_le _, rfl, HW.out⟩
  case round =>
    obtain ⟨k, Lk, hk, rfl, hwl⟩ := hrel
    have HW1 := hid hwl
    by_cases h4 : k < J.length
    · have h4' : (k : Int) < (J.length : Int) := by omega
      obtain ⟨n, hn⟩ : ∃ n, J[k]? = some n := ⟨_, List.getElem?_eq_getElem h4⟩
      have hnl : n < Lk.length := by rw [hwl.len]; exact HI.out n (List.mem_of_getElem? hn)
      have hln := hwl.len
      have hnl' : (n : Int) < (L.length : Int) := by omega
      obtain ⟨g9, e, hlg, x0, x1, x2, hfz, hgp, hgb⟩ := hwl.ds.at hnl
      subst e
      obtain ⟨gr, cap, cur, e, _, hbr, hc1, hc2, hsz, ht⟩ := own_parts hwl.own (by omega)
      have hc0 : wr.cell? ⟨gr, k, none⟩ = some (.int .i64 (n : Nat)) := by
        rw [hbr.cell]
        have := congrArg (·[k]?) ht
        simp only [List.getElem?_take] at this
        rw [if_pos (by omega)] at this
        simpa [ints, hn] using this
      have hgl := hbr.lt
      obtain rfl : ar = some ⟨gr, 0, none⟩ := by cases e; rfl
      have hps := hwl.ds.blk.cell 2
      simp only [List.getElem?_toArray, List.getElem?_cons_zero, List.getElem?_cons_succ, hln] at hps
      have hlp2 := hwl.ds.blk.lt
      have HS := hid (hwl.step (fun b hb => HP.out.lt b hb) hn hnl)
      generalize Lk[n].1.ok = bb at x2
      clear hwl e hbr hc1 hc2 hsz ht hn x0 x1 hln hnl
      go_wp2
      go_roundw
      case rel => exact ⟨k + 1, _, by omega, by go_num, HS.out⟩
      case measure => simp [intOf]; omega
    · have h4' : ¬ (k : Int) < (J.length : Int) := by omega
      obtain rfl : k = J.length := by omega
      clear hwl
      go_wp2
      all_goals go_ret2
      all_goals exact ⟨_, rfl, HW1.out.own, Lk, by rw [← HW1.out.len]; exact HW1.out.ds, HW1.out.nx, by rw [HW1.out.map, List.take_length, HO.out]⟩

end

end Go.Proofs.Ytaeifhfhahcoiaa
