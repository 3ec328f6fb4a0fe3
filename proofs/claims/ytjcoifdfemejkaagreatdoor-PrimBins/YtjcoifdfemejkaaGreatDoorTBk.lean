/- Both heaps of a world: the statements' Made. -/
import Derived.Test.YtjcoifdfemejkaaGreatDoorM19
import Derived.Test.YtjcoifdfemejkaaGreatDoorR3Gk
import Derived.Deep.Light
set_option linter.unusedSimpArgs false
set_option linter.unusedVariables false
namespace Go.Proofs.YtjcoifdfemejkaaGreatDoor
open Go Go.RowKit

set_option maxHeartbeats 1000000 in
theorem rnewN (n : Int) (h1 : 1 ≤ n) (h2 : n ≤ 65536) (w : World) :
    Calls Tryz.prog 21 #[.int .i64 n] w fun e w' => e = .returned (.tuple #[.agg #[.int .i64 n, .slice none 0 0], .int .i64 0]) ∧ Ly w w' := by
  go_enter Tryz.func21, Tryz.ntmps21
  go_wp2
  refine bodyPost_ret (v := .tuple #[.agg #[.int .i64 n, .slice none 0 0], .int .i64 0]) (by simp [results, Tryz.results21, go_sem]) rfl ?_
  exact ⟨rfl, by repeat (first | exact Ly.refl _ | apply Ly.lay | apply Ly.alloc | apply Ly.drewN | apply Ly.drew)⟩

theorem take_snoc {α β : Type} (f : β → α → β) (z : β) (l : List α) (k : Nat) (h : k < l.length) : (l.take (k + 1)).foldl f z = f ((l.take k).foldl f z) l[k] := by
  rw [List.take_add_one, List.getElem?_eq_getElem h, Option.toList_some, List.foldl_append]
  rfl

theorem cell_bw4 {w w' : World} (hb : Bw w w') {b i : Nat} (h : b < w.heap.size) : w'.cell? ⟨b, i, none⟩ = w.cell? ⟨b, i, none⟩ :=
  World.cell?_of_block (w := w) (w' := w') (a := ⟨b, i, none⟩) (hb.block b h)

theorem MI.form {w wr : World} {b0 b1 b3 b6 : Nat} {vo vw : Value} {Hp Hr : AHeap} {bs : List Nat} {va : Value} (h : MI w wr b0 b1 b3 b6 vo vw Hp Hr bs va) : ∃ a c, va = .slice a Hr.2.length c := by
  obtain ⟨va', t, e, ht, hs, _⟩ := h.rd
  obtain ⟨a, c, e2⟩ := hs.form
  have : va = va' := by simpa using e
  exact ⟨a, c, this.trans e2⟩

theorem MI.new {w wr : World} {b0 b1 b3 b6 : Nat} {vo vw : Value} {Hp Hr : AHeap} {bs : List Nat} {va : Value} (h : MI w wr b0 b1 b3 b6 vo vw Hp Hr bs va) : ∀ b, wr.heap.size ≤ b → b ∉ bs ∧ b ≠ b6 ∧ b ≠ b3 :=
  fun b hb => ⟨fun hm => by have := h.hs.lt hm; omega, fun e => by have := h.k6.lt; omega, fun e => by have := h.k3.lt; omega⟩

/-- What the document's Make hands back, as a value of two parts. -/
theorem RdH.parts {w : World} {G : Nat → Prop} {v : Value} {H : AHeap} (h : RdH w G v H) : ∃ a c, v = .agg #[.int .i64 H.1, .slice a H.2.length c] := by
  obtain ⟨va', t, e, ht, hs, _⟩ := h
  obtain ⟨a, c, e2⟩ := hs.form
  exact ⟨a, c, by rw [e, e2]⟩

theorem MI.start {w wn wq : World} {vo vw : Value} (hs : HS wn (w.heap.size + 1 + 1) (100, []) [w.heap.size + 1 + 1]) (hb1 : Bw ((w.alloc (.cells #[vo, vw] 25)).alloc (.cells #[.int .i64 0, .slice none 0 0] 32)) wn) (hl : w.heap.size + 1 + 1 < wn.heap.size) (hb2 : Bw wn wq) :
    MI w (wq.alloc (.cells #[.int .i64 100, .slice none 0 0] 32)) (w.heap.size + 1 + 1) w.heap.size (w.heap.size + 1) wq.heap.size vo vw (100, []) (100, []) [w.heap.size + 1 + 1] (.slice none 0 0) := by
  have hq := hb2.size
  have hb3 := (hb1.trans hb2).alloc (.cells #[.int .i64 100, .slice none 0 0] 32)
  have k1 : Blk ((w.alloc (.cells #[vo, vw] 25)).alloc (.cells #[.int .i64 0, .slice none 0 0] 32)) w.heap.size #[vo, vw] 25 := (Blk.new w _ _).alloc _
  have k3 : Blk ((w.alloc (.cells #[vo, vw] 25)).alloc (.cells #[.int .i64 0, .slice none 0 0] 32)) (w.heap.size + 1) #[.int .i64 0, .slice none 0 0] 32 := by
    have := Blk.new (w.alloc (.cells #[vo, vw] 25)) #[.int .i64 0, .slice none 0 0] 32
    simpa using this
  exact ⟨(hs.bw hb2).bw (Bw.alloc (Bw.refl _) _), Bw.trans (((Bw.refl w).alloc _).alloc _) hb3, fun b hb => by rw [List.mem_singleton] at hb; omega, by simp only [List.mem_singleton]; omega, by omega, by omega, k1.bw hb3, k3.bw hb3, Blk.new _ _ _,
    ⟨_, [], rfl, rfl, Sl.nil _ _ 7, fun i o x h => by simp at h⟩, fun o ho => by simp at ho, by simp⟩

theorem MI.fin {w wr : World} {b0 b1 b3 b6 : Nat} {vo vw : Value} {H : AHeap} {bs : List Nat} {va : Value} (h : MI w wr b0 b1 b3 b6 vo vw H H bs va) :
    HS ((wr.setCell ⟨b3, 0, none⟩ (.int .i64 H.1)).setCell ⟨b3, 1, none⟩ va).drew b0 H bs ∧ RdH ((wr.setCell ⟨b3, 0, none⟩ (.int .i64 H.1)).setCell ⟨b3, 1, none⟩ va).drew (fun b => b ∉ bs) (.agg #[.int .i64 H.1, va]) H ∧
    Bw w ((wr.setCell ⟨b3, 0, none⟩ (.int .i64 H.1)).setCell ⟨b3, 1, none⟩ va).drew ∧ ((wr.setCell ⟨b3, 0, none⟩ (.int .i64 H.1)).setCell ⟨b3, 1, none⟩ va).cell? ⟨b3, 0, none⟩ = some (.int .i64 H.1) ∧ ((wr.setCell ⟨b3, 0, none⟩ (.int .i64 H.1)).setCell ⟨b3, 1, none⟩ va).cell? ⟨b3, 1, none⟩ = some va := by
  have hk : ∀ b, b ≠ b3 → ((wr.setCell ⟨b3, 0, none⟩ (.int .i64 H.1)).setCell ⟨b3, 1, none⟩ va).drew.heap[b]? = wr.heap[b]? := fun b hne =>
    (Below.heap_setCell _ ⟨b3, 1, none⟩ va b hne).trans (Below.heap_setCell wr ⟨b3, 0, none⟩ _ b hne)
  have hz : wr.heap.size ≤ ((wr.setCell ⟨b3, 0, none⟩ (.int .i64 H.1)).setCell ⟨b3, 1, none⟩ va).drew.heap.size := by
    show wr.heap.size ≤ ((wr.setCell ⟨b3, 0, none⟩ (.int .i64 H.1)).setCell ⟨b3, 1, none⟩ va).heap.size
    simp [World.setCell]
  have hb := (h.k3.set 0 (.int .i64 H.1)).set 1 va
  refine ⟨?_, h.rd.keep hz (fun b hb hg => hk b hg.2.2) (fun b hb hg => hg.1), Bw.drew ((h.bw.setCell (p := ⟨b3, 0, none⟩) h.g.2.1 _).setCell (p := ⟨b3, 1, none⟩) h.g.2.1 _), hb.cell 0, hb.cell 1⟩
  obtain ⟨vo', t, hp, e⟩ := h.hs
  exact ⟨vo', t, hp.same (fun k hk' => hk k (fun e' => h.n1.2.1 (by rw [e, ← e']; exact hk'))), e⟩

set_option maxRecDepth 100000 in
set_option maxHeartbeats 32000000 in
theorem made_any (ao aw : Option Addr) (co cw : Nat) (Os : List AObj) (Ws : List (Int × Int × Int)) (w : World) (hw : WR w ao aw Os Ws) (hlo : Os.length ≤ 1000) (hlw : Ws.length ≤ 1000) :
    Calls Tryz.prog 6 #[.agg #[.slice ao Os.length co, .slice aw Ws.length cw]] w fun e w' => ∃ b0 bs va, e = .returned (.tuple #[.pointer (some ⟨b0, 0, none⟩), .agg #[.int .i64 (madeH Os Ws).1, va]]) ∧ HS w' b0 (madeH Os Ws) bs ∧ RdH w' (fun b => b ∉ bs) (.agg #[.int .i64 (madeH Os Ws).1, va]) (madeH Os Ws) ∧ Bw w w' ∧ ∀ b ∈ bs, w.heap.size ≤ b := by
  have HW := hid hw
  clear hw
  go_enter Tryz.func6, Tryz.ntmps6
  go_wp2_with (first
    | (go_at_call 15; refine (new_ok 100 _ (by decide) (by decide)).mono ?_; rintro e wn ⟨rfl, hs1, hb1, hl1⟩; have S1 := hid hs1; have B1 := hid hb1; have L1 := hid hl1; clear hs1 hb1 hl1)
    | (go_at_call 21; refine (rnewN 100 (by decide) (by decide) _).mono ?_; rintro e wq ⟨rfl, hl2⟩; have B2 := hid hl2.bw; clear hl2)
    | fail)
  have HST := hid (MI.start (vo := .slice ao Os.length co) (vw := .slice aw Ws.length cw) (by simpa using S1.out) B1.out (by simpa using L1.out) B2.out)
  clear S1 B1 L1 B2
  go_loopw [8] (fun j wr => ∃ (k : Nat) (bs : List Nat) (va : Value), k ≤ Os.length ∧ j = .int .i64 k ∧ MI w wr (w.heap.size + 1 + 1) w.heap.size (w.heap.size + 1) wq.heap.size (.slice ao Os.length co) (.slice aw Ws.length cw) ((Os.take k).foldl mkH (100, [])) ((Os.take k).foldl mkH (100, [])) bs va) (fun j _ => Os.length - (intOf j).toNat)
  case atStart => exact ⟨0, _, _, Nat.zero_le _, rfl, HST.out⟩
  case round =>
    clear HST
    obtain ⟨k, bs, va, hk, rfl, hmi⟩ := hrel
    have HTK : Hid (∀ hlt : k < Os.length, (Os.take (k + 1)).foldl mkH (100, []) = mkH ((Os.take k).foldl mkH (100, [])) Os[k]) := fun hlt => take_snoc mkH (100, []) Os k hlt
    obtain ⟨H, hH⟩ : ∃ H, H = (Os.take k).foldl mkH (100, []) := ⟨_, rfl⟩
    rw [← hH] at hmi HTK
    have HHH := hid hH
    clear hH
    obtain ⟨ar, cr, rfl⟩ := hmi.form
    have HM := hid hmi
    have z1 := hmi.k1.cell
    by_cases hlt : k < Os.length
    · have hb1 : (0 : Int) ≤ (k : Int) := by omega
      have hb2 : (k : Int) < (Os.length : Int) := by omega
      have HT := hid (HTK.out hlt)
      obtain ⟨b, off, ⟨xb, xv, xk⟩, rfl, hb, hc, how⟩ := HW.out.1 k hlt
      have HB := hid hb
      generalize Os[k] = o at HT hc how
      have HO := hid how
      obtain ⟨ab, cb, eb⟩ := how.ol.1.form
      obtain ⟨av, cv, ev⟩ := how.ol.2.1.form
      obtain ⟨ak, ck, ek⟩ := how.ol.2.2.form
      subst eb ev ek
      have HC : Hid (∀ wr', Bw w wr' → wr'.cell? ⟨b, off + k * 7, none⟩ = some (.int .i64 o.kind) ∧ wr'.cell? ⟨b, off + k * 7 + 1, none⟩ = some (.slice ab o.bytes.length cb) ∧ wr'.cell? ⟨b, off + k * 7 + 2, none⟩ = some (.slice av o.vals.length cv) ∧ wr'.cell? ⟨b, off + k * 7 + 3, none⟩ = some (.slice ak o.keys.length ck) ∧ wr'.cell? ⟨b, off + k * 7 + 4, none⟩ = some (.int .i64 o.num) ∧ wr'.cell? ⟨b, off + k * 7 + 5, none⟩ = some (.int .u64 o.re) ∧ wr'.cell? ⟨b, off + k * 7 + 6, none⟩ = some (.int .u64 o.im)) := fun wr' hb' =>
        ⟨(cell_bw4 hb' hb).trans (hc 0 (by omega)), (cell_bw4 hb' hb).trans (hc 1 (by omega)), (cell_bw4 hb' hb).trans (hc 2 (by omega)), (cell_bw4 hb' hb).trans (hc 3 (by omega)), (cell_bw4 hb' hb).trans (hc 4 (by omega)), (cell_bw4 hb' hb).trans (hc 5 (by omega)), (cell_bw4 hb' hb).trans (hc 6 (by omega))⟩
      obtain ⟨q0, q1, q2, q3, q4, q5, q6⟩ := HC.out wr hmi.bw
      have hpk := plO_kind o
      have hcase : (plOK o = false ∧ mkOK o = false) ∨ (plOK o = true ∧ decide (1 ≤ (plO o).kind) = false ∧ mkOK o = false) ∨ (plOK o = true ∧ decide (1 ≤ (plO o).kind) = true ∧ decide ((plO o).kind ≤ 9) = false ∧ mkOK o = false) ∨ (plOK o = true ∧ decide (1 ≤ (plO o).kind) = true ∧ decide ((plO o).kind ≤ 9) = true ∧ mkOK o = true) := by
        rw [hpk]
        unfold mkOK plOK
        cases h1 : decide (o.kind ≠ 4) <;> cases h2 : decide (o.vals.length = 1) <;> cases h3 : decide (1 ≤ o.kind) <;> cases h4 : decide (o.kind ≤ 9) <;> simp
      clear hc how hmi hb hpk
      rcases hcase with ⟨c1, c4⟩ | ⟨c1, c2, c4⟩ | ⟨c1, c2, c3, c4⟩ | ⟨c1, c2, c3, c4⟩
      · have HN := hid (mkH_no H o c4)
        clear c4
        go_wp2_with (first
          | (go_at_call 22; refine (mk1_any _ o _ _ _ _ HM.out.hs (HO.out.below HM.out.bw)).mono ?_; rintro e w1 ⟨⟨ev1, rfl⟩, bs1, hs1, hn1⟩; have hm1 := HM.out.prog hs1 hn1; obtain ⟨y0, y1, y2, y3, y4, y5, y6⟩ := HC.out w1 hm1.bw; have yb := hm1.k1.cell; have HM1 := hid hm1; clear hs1 hn1 hm1)
          | (go_at_call 23; refine (pl_any _ o _ _ _ _ (HO.out.below HM1.out.bw)).mono ?_; rintro e w2 ⟨vb2, vv2, vk2, he2, how2, hb2⟩; obtain ⟨ab2, cb2, eb2⟩ := how2.ol.1.form; obtain ⟨av2, cv2, ev2⟩ := how2.ol.2.1.form; obtain ⟨ak2, ck2, ek2⟩ := how2.ol.2.2.form; subst eb2 ev2 ek2; simp only [objV] at he2; subst he2; rw [c1]; have HM2 := hid (HM1.out.below hb2); have HO2 := hid how2; have yb20 : w2.cell? ⟨wq.heap.size, 0, none⟩ = some (.int .i64 H.1) := HM2.out.k6.cell 0; have yb21 : w2.cell? ⟨wq.heap.size, 1, none⟩ = some (.slice ar H.2.length cr) := HM2.out.k6.cell 1; have yb2l : wq.heap.size < w2.heap.size := HM2.out.k6.lt; clear how2 hb2)
          | fail)
        go_roundw
        case rel => exact ⟨k + 1, _, _, by omega, by go_num, by rw [HT.out, HN.out]; have h2 := HM2.out; rw [HN.out] at h2; exact h2.below (Bw.alloc (Bw.refl _) _)⟩
        case measure => simp [intOf]; omega
      · have HN := hid (mkH_no H o c4)
        clear c4
        go_wp2_with (first
          | (go_at_call 22; refine (mk1_any _ o _ _ _ _ HM.out.hs (HO.out.below HM.out.bw)).mono ?_; rintro e w1 ⟨⟨ev1, rfl⟩, bs1, hs1, hn1⟩; have hm1 := HM.out.prog hs1 hn1; obtain ⟨y0, y1, y2, y3, y4, y5, y6⟩ := HC.out w1 hm1.bw; have yb := hm1.k1.cell; have HM1 := hid hm1; clear hs1 hn1 hm1)
          | (go_at_call 23; refine (pl_any _ o _ _ _ _ (HO.out.below HM1.out.bw)).mono ?_; rintro e w2 ⟨vb2, vv2, vk2, he2, how2, hb2⟩; obtain ⟨ab2, cb2, eb2⟩ := how2.ol.1.form; obtain ⟨av2, cv2, ev2⟩ := how2.ol.2.1.form; obtain ⟨ak2, ck2, ek2⟩ := how2.ol.2.2.form; subst eb2 ev2 ek2; simp only [objV] at he2; subst he2; rw [c1]; have HM2 := hid (HM1.out.below hb2); have HO2 := hid how2; have yb20 : w2.cell? ⟨wq.heap.size, 0, none⟩ = some (.int .i64 H.1) := HM2.out.k6.cell 0; have yb21 : w2.cell? ⟨wq.heap.size, 1, none⟩ = some (.slice ar H.2.length cr) := HM2.out.k6.cell 1; have yb2l : wq.heap.size < w2.heap.size := HM2.out.k6.lt; clear how2 hb2)
          | fail)
        go_roundw
        case rel => exact ⟨k + 1, _, _, by omega, by go_num, by rw [HT.out, HN.out]; have h2 := HM2.out; rw [HN.out] at h2; exact h2.below (Bw.alloc (Bw.refl _) _)⟩
        case measure => simp [intOf]; omega
      · have HN := hid (mkH_no H o c4)
        clear c4
        go_wp2_with (first
          | (go_at_call 22; refine (mk1_any _ o _ _ _ _ HM.out.hs (HO.out.below HM.out.bw)).mono ?_; rintro e w1 ⟨⟨ev1, rfl⟩, bs1, hs1, hn1⟩; have hm1 := HM.out.prog hs1 hn1; obtain ⟨y0, y1, y2, y3, y4, y5, y6⟩ := HC.out w1 hm1.bw; have yb := hm1.k1.cell; have HM1 := hid hm1; clear hs1 hn1 hm1)
          | (go_at_call 23; refine (pl_any _ o _ _ _ _ (HO.out.below HM1.out.bw)).mono ?_; rintro e w2 ⟨vb2, vv2, vk2, he2, how2, hb2⟩; obtain ⟨ab2, cb2, eb2⟩ := how2.ol.1.form; obtain ⟨av2, cv2, ev2⟩ := how2.ol.2.1.form; obtain ⟨ak2, ck2, ek2⟩ := how2.ol.2.2.form; subst eb2 ev2 ek2; simp only [objV] at he2; subst he2; rw [c1]; have HM2 := hid (HM1.out.below hb2); have HO2 := hid how2; have yb20 : w2.cell? ⟨wq.heap.size, 0, none⟩ = some (.int .i64 H.1) := HM2.out.k6.cell 0; have yb21 : w2.cell? ⟨wq.heap.size, 1, none⟩ = some (.slice ar H.2.length cr) := HM2.out.k6.cell 1; have yb2l : wq.heap.size < w2.heap.size := HM2.out.k6.lt; clear how2 hb2)
          | fail)
        go_roundw
        case rel => exact ⟨k + 1, _, _, by omega, by go_num, by rw [HT.out, HN.out]; have h2 := HM2.out; rw [HN.out] at h2; exact h2.below (Bw.alloc (Bw.refl _) _)⟩
        case measure => simp [intOf]; omega
      · have HD := hid (mkH_doc H o c4)
        clear c4
        go_wp2_with (first
          | (go_at_call 22; refine (mk1_any _ o _ _ _ _ HM.out.hs (HO.out.below HM.out.bw)).mono ?_; rintro e w1 ⟨⟨ev1, rfl⟩, bs1, hs1, hn1⟩; have hm1 := HM.out.prog hs1 hn1; obtain ⟨y0, y1, y2, y3, y4, y5, y6⟩ := HC.out w1 hm1.bw; have yb := hm1.k1.cell; have HM1 := hid hm1; clear hs1 hn1 hm1)
          | (go_at_call 23; refine (pl_any _ o _ _ _ _ (HO.out.below HM1.out.bw)).mono ?_; rintro e w2 ⟨vb2, vv2, vk2, he2, how2, hb2⟩; obtain ⟨ab2, cb2, eb2⟩ := how2.ol.1.form; obtain ⟨av2, cv2, ev2⟩ := how2.ol.2.1.form; obtain ⟨ak2, ck2, ek2⟩ := how2.ol.2.2.form; subst eb2 ev2 ek2; simp only [objV] at he2; subst he2; rw [c1]; have HM2 := hid (HM1.out.below hb2); have HO2 := hid how2; have yb20 : w2.cell? ⟨wq.heap.size, 0, none⟩ = some (.int .i64 H.1) := HM2.out.k6.cell 0; have yb21 : w2.cell? ⟨wq.heap.size, 1, none⟩ = some (.slice ar H.2.length cr) := HM2.out.k6.cell 1; have yb2l : wq.heap.size < w2.heap.size := HM2.out.k6.lt; clear how2 hb2)
          | (go_at_call 24; refine (rmake_any (fun b => b ∉ bs1 ∧ b ≠ wq.heap.size ∧ b ≠ w.heap.size + 1) _ _ H (plO o) _ _ _ _ (HM2.out.below (Bw.alloc (Bw.refl _) _)).new (HM2.out.below (Bw.alloc (Bw.refl _) _)).rd (HO2.out.below (Bw.alloc (Bw.refl _) _)).ol HO2.out.u (by have := HM2.out.le; omega) (by have := HO2.out.l1; omega) (by have := HO2.out.l2; omega) (by have := HO2.out.l3; omega)).mono ?_; rw [HD.out]; rintro e w3 ⟨v3, rfl, hr3, hb3⟩; obtain ⟨a3, c3, e3⟩ := hr3.parts; subst e3; have hm3 := HM2.out.below (Bw.trans (Bw.alloc (Bw.refl _) _) hb3); have y60 : w3.cell? ⟨wq.heap.size, 0, none⟩ = some (.int .i64 H.1) := hm3.k6.cell 0; have y61 : w3.cell? ⟨wq.heap.size, 1, none⟩ = some (.slice ar H.2.length cr) := hm3.k6.cell 1; have y6f0 := hm3.k6.free 0; have y6f1 := hm3.k6.free 1; have HM3 := hid (hm3.ref (Bw.refl _) hr3 hm3.hs.ok (by have := hm3.hs.most; omega)); clear hr3 hb3 hm3)
          | fail)
        go_roundw
        case rel => exact ⟨k + 1, _, _, by omega, by go_num, by rw [HT.out]; exact HM3.out⟩
        case measure => simp [intOf]; omega
    · have hk0 : k = Os.length := by omega
      subst hk0
      have HH2 : Hid (H = Os.foldl mkH (100, [])) := by have := HHH.out; rw [List.take_length] at this; exact this
      clear HTK HHH
      go_wp2
      go_loopw [11] (fun j wr => ∃ (k : Nat) (bs : List Nat) (va : Value), k ≤ Ws.length ∧ j = .int .i64 k ∧ MI w wr (w.heap.size + 1 + 1) w.heap.size (w.heap.size + 1) wq.heap.size (.slice ao Os.length co) (.slice aw Ws.length cw) ((Ws.take k).foldl wrH H) ((Ws.take k).foldl wrH H) bs va) (fun j _ => Ws.length - (intOf j).toNat)
      case atStart => exact ⟨0, _, _, Nat.zero_le _, rfl, HM.out⟩
      case round =>
        clear HM z1
        obtain ⟨k, bs2, va, hk2, rfl, hmi⟩ := hrel
        have HTK : Hid (∀ hlt : k < Ws.length, (Ws.take (k + 1)).foldl wrH H = wrH ((Ws.take k).foldl wrH H) Ws[k]) := fun hlt => take_snoc wrH H Ws k hlt
        obtain ⟨H2, hH⟩ : ∃ H2, H2 = (Ws.take k).foldl wrH H := ⟨_, rfl⟩
        rw [← hH] at hmi HTK
        have HHH := hid hH
        clear hH
        obtain ⟨ar2, cr2, rfl⟩ := hmi.form
        have HM := hid hmi
        have z1 := hmi.k1.cell
        by_cases hlt2 : k < Ws.length
        · have hb1 : (0 : Int) ≤ (k : Int) := by omega
          have hb2 : (k : Int) < (Ws.length : Int) := by omega
          have HT := hid (HTK.out hlt2)
          obtain ⟨b, off, rfl, hb, q0, q1, q2, hu1, hu2⟩ := HW.out.2 k hlt2
          generalize Ws[k] = x at HT q0 q1 q2 hu1 hu2
          obtain ⟨x0, x1, x2⟩ := x
          have p0 : wr.cell? ⟨b, off + k * 3, none⟩ = some (.int .u64 x0) := (cell_bw4 hmi.bw hb).trans q0
          have p1 : wr.cell? ⟨b, off + k * 3 + 1, none⟩ = some (.int .i64 x1) := (cell_bw4 hmi.bw hb).trans q1
          have p2 : wr.cell? ⟨b, off + k * 3 + 2, none⟩ = some (.int .u64 x2) := (cell_bw4 hmi.bw hb).trans q2
          have HU1 := hid hu1
          have HU2 := hid hu2
          have hz := hmi.k6.lt
          clear q0 q1 q2 hu1 hu2 hmi hb
          go_wp2_with (first
            | (go_at_call 25; refine (set_any x0 x1 x2 HU1.out HU2.out _ (HM.out.hs.bw (Bw.alloc (Bw.refl _) _))).mono ?_; rintro e w1 ⟨rfl, bs1, hs1, hn1⟩; have hm1 := (HM.out.below (Bw.alloc (Bw.refl _) _)).prog hs1 hn1; have bk : Blk w1 wr.heap.size #[.int .u64 x0, .int .i64 x1, .int .u64 x2] 68 := (Blk.new wr #[.int .u64 x0, .int .i64 x1, .int .u64 x2] 68).keep (hn1.1.block _ (by simp) (fun hm => by have := HM.out.hs.lt hm; omega)); have r0 : w1.cell? ⟨wr.heap.size, 0, none⟩ = some (.int .u64 x0) := bk.cell 0; have r1 : w1.cell? ⟨wr.heap.size, 1, none⟩ = some (.int .i64 x1) := bk.cell 1; have r2 : w1.cell? ⟨wr.heap.size, 2, none⟩ = some (.int .u64 x2) := bk.cell 2; have y0 : w1.cell? ⟨wq.heap.size, 0, none⟩ = some (.int .i64 H2.1) := hm1.k6.cell 0; have y1 : w1.cell? ⟨wq.heap.size, 1, none⟩ = some (.slice ar2 H2.2.length cr2) := hm1.k6.cell 1; have HM1 := hid hm1; clear hs1 hn1 hm1 bk)
            | (go_at_call 26; refine (rset_any (fun b => b ∉ bs1 ∧ b ≠ wq.heap.size ∧ b ≠ w.heap.size + 1) _ H2 x0 x1 x2 HU1.out HU2.out _ HM1.out.new HM1.out.rd HM1.out.ok (by have := HM1.out.le; omega)).mono ?_; rintro e w3 ⟨v3, rfl, hr3, hb3⟩; obtain ⟨a3, c3, e3⟩ := hr3.parts; subst e3; have hm3 := HM1.out.below hb3; have y60 : w3.cell? ⟨wq.heap.size, 0, none⟩ = some (.int .i64 H2.1) := hm3.k6.cell 0; have y61 : w3.cell? ⟨wq.heap.size, 1, none⟩ = some (.slice ar2 H2.2.length cr2) := hm3.k6.cell 1; have y6f0 := hm3.k6.free 0; have y6f1 := hm3.k6.free 1; have HM3 := hid (hm3.ref (Bw.refl _) hr3 hm3.hs.ok (by have := hm3.hs.most; omega)); clear hr3 hb3 hm3)
            | fail)
          go_roundw
          case rel => exact ⟨k + 1, _, _, by omega, by go_num, by rw [HT.out]; exact HM3.out⟩
          case measure => simp [intOf]; omega
        · have hk3 : k = Ws.length := by omega
          subst hk3
          have HH3 : Hid (H2 = madeH Os Ws) := by have := HHH.out; rw [List.take_length] at this; rw [this, HH2.out]; rfl
          have y0 : wr.cell? ⟨wq.heap.size, 0, none⟩ = some (.int .i64 H2.1) := hmi.k6.cell 0
          have y1 : wr.cell? ⟨wq.heap.size, 1, none⟩ = some (.slice ar2 H2.2.length cr2) := hmi.k6.cell 1
          have r0 : wr.cell? ⟨w.heap.size + 1, 0, none⟩ = some (.int .i64 0) := hmi.k3.cell 0
          have r1 : wr.cell? ⟨w.heap.size + 1, 1, none⟩ = some (.slice none 0 0) := hmi.k3.cell 1
          have rf0 := hmi.k3.free 0
          have rf1 := hmi.k3.free 1
          clear hmi
          go_wp2
          all_goals try go_region
          all_goals go_wp2
          have HF := hid HM.out.fin
          have f0 := HF.out.2.2.2.1
          have f1 := HF.out.2.2.2.2
          refine bodyPost_ret (v := .tuple #[.pointer (some ⟨w.heap.size + 1 + 1, 0, none⟩), .agg #[.int .i64 H2.1, .slice ar2 H2.2.length cr2]]) (by simp [results, Tryz.results6, go_sem, f0, f1]) rfl ?_
          rw [← HH3.out]
          exact ⟨_, _, _, rfl, HF.out.1, HF.out.2.1, HF.out.2.2.1, HM.out.lo⟩

end Go.Proofs.YtjcoifdfemejkaaGreatDoor

