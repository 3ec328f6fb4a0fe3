/- The program's registry and the document's, side by side: a step. -/
import Derived.Test.YtaeifhfhahcoiaaQe
import Derived.Test.YtaeifhfhahcoiaaPr
set_option linter.unusedSimpArgs false
set_option linter.unusedVariables false
namespace Go.Proofs.Ytaeifhfhahcoiaa
open Go Go.RowKit

theorem box4 {w : World} {A : Nat} {T : TypeId} {c0 c1 c2 c3 : Value} (h : Blk w A #[c0, c1, c2, c3] T) : w.cell? ⟨A, 0, none⟩ = some c0 ∧ w.cell? ⟨A, 1, none⟩ = some c1 ∧ w.cell? ⟨A, 2, none⟩ = some c2 ∧ w.cell? ⟨A, 3, none⟩ = some c3 ∧ A < w.heap.size := ⟨h.cell 0, h.cell 1, h.cell 2, h.cell 3, h.lt⟩

/-- Both registries: the same versions. -/
structure PW (w0 wr : World) (p : Nat) (bs : List Nat) (F G : Nat) (rv : Value) (L : List (VV × Value)) (v : Value) (LR : List (VV × Value)) (k : Nat) (X : Nat → Prop) : Prop where
  ms : MS w0 wr p bs F G rv L k
  good : Good F (L.map Prod.fst)
  rs : RS wr (fun b => b ∉ bs ∧ X b) v LR
  lB : ∀ b, wr.heap.size ≤ b → X b
  eq : LR.map Prod.fst = L.map Prod.fst

theorem PW.on {w0 wr w' : World} {p F G k : Nat} {X : Nat → Prop} {bs : List Nat} {rv v : Value} {L LR : List (VV × Value)} (h : PW w0 wr p bs F G rv L v LR k X) (hb : Bw wr w') : PW w0 w' p bs F G rv L v LR k X := ⟨h.ms.on hb, h.good, h.rs.bw hb, fun b hb2 => h.lB b (Nat.le_trans hb.size hb2), h.eq⟩

theorem RS.nx {wr w1 : World} {Y : Nat → Prop} {bs bs1 : List Nat} {v : Value} {LR : List (VV × Value)} (h : RS wr (fun b => b ∉ bs ∧ Y b) v LR) {W : World} (hb : Bw wr W) (k : Nx bs W w1 bs1) : RS w1 (fun b => b ∉ bs1 ∧ b < wr.heap.size ∧ Y b) v LR :=
  h.keep (Nat.le_trans hb.size k.ex.size) (fun b hb1 hg => (k.ex.block b (Nat.lt_of_lt_of_le hb1 hb.size) hg.1).trans (hb.block b hb1)) (fun b hb1 hg => ⟨fun hm => by
    rcases k.new b hm with e | e
    · exact hg.1 e
    · have := hb.size; omega, hb1, hg.2⟩)
theorem RS.fin {B R : Nat} {Y : Nat → Prop} {w1 w2 X : World} {bs1 : List Nat} {v : Value} {LR : List (VV × Value)} (h : RS w2 (fun b => (b ∉ bs1 ∧ b < B ∧ Y b) ∨ w1.heap.size ≤ b) v LR) (hB : B ≤ R) (hB0 : ∀ b, w1.heap.size ≤ b → Y b) (hR : R < w1.heap.size) (hbs : ∀ b ∈ bs1, b < w1.heap.size) (hx : Ex [R] w2 X) : RS X (fun b => b ∉ bs1 ∧ Y b) v LR :=
  h.keep hx.size (fun b hb hg => hx.block b hb (by simp; rcases hg with e | e <;> omega)) (fun b _ hg => by
    rcases hg with e | e
    · exact ⟨e.1, e.2.2⟩
    · exact ⟨fun hm => by have := hbs b hm; omega, hB0 b e⟩)
theorem Nx.wrap {wr W w1 w2 X : World} {bs bs1 : List Nat} {R : Nat} (hb : Bw wr W) (k : Nx bs W w1 bs1) (h2 : Bw w1 w2) (hx : Ex [R] w2 X) (hR : wr.heap.size ≤ R) : Nx bs wr X bs1 := by
  have s1 := hb.size
  have s2 := k.ex.size
  have s3 := h2.size
  refine ⟨⟨hx.os.trans (h2.os.trans (k.ex.os.trans hb.os)), hx.tape.trans (h2.tape.trans (k.ex.tape.trans hb.tape)), hx.output.trans (h2.output.trans (k.ex.output.trans hb.output)), by have := hx.size; omega, fun b hlt hn => ?_⟩, fun b hm => ?_⟩
  · rw [hx.block b (by omega) (by simp; omega), h2.block b (by omega), k.ex.block b (by omega) hn, hb.block b hlt]
  · rcases k.new b hm with e | e
    · exact .inl e
    · exact .inr (by omega)
theorem MS.exOut {w0 w2 X : World} {p F G k R : Nat} {bs : List Nat} {rv : Value} {L : List (VV × Value)} (h : MS w0 w2 p bs F G rv L k) (hR : w0.heap.size ≤ R) (hn : R ∉ bs) (hx : Ex [R] w2 X) : MS w0 X p bs F G rv L k :=
  ⟨Bw.ex h.bw hx (fun x hx => by simp at hx; subst hx; exact hR), h.ds.ex hx (fun b hb hm => by simp at hm; subst hm; exact hn hb), h.new, h.len⟩

section
variable {w0 wr : World} {p F G k : Nat} {B : Nat → Prop} {bs : List Nat} {rv v : Value} {L LR : List (VV × Value)}

set_option maxRecDepth 100000 in
set_option maxHeartbeats 2000000 in
theorem step_add (h : PW w0 wr p bs F G rv L v LR k B) (hk : k < 1000) (hG : G ≤ 1024) (x : AX) (hx : AOK w0 x) (hm : x.l.length ≤ 1000) (hd : x.d = 0) : Calls Try.prog 13 #[.pointer (some ⟨p, 0, none⟩), rV F G v, actV x] wr fun e w' => ∃ bs' rv' L' v' LR', e = .returned (.tuple #[rV F G v', .bool true]) ∧ PW w0 w' p bs' F G rv' L' v' LR' (k + 1) B ∧ Nx bs wr w' bs' := by
  obtain ⟨d, f, lv, l, u⟩ := x
  obtain ⟨a, c, elv⟩ := hx.l.form
  simp only at elv
  subst elv
  unfold actV rV
  obtain ⟨av, cv, ev⟩ := h.rs.form
  subst ev
  have HW := hid h
  have HX := hid hx
  have HEQ := hid h.eq
  have HLL := hid (show LR.length = L.length by have := congrArg List.length h.eq; simpa using this)
  simp only at hm hd
  have HM40 := hid hm
  have hB3 : Bw wr (((wr.alloc (.cells #[.int .i64 F, .int .i64 G, .slice av LR.length cv] 31)).alloc (.cells #[.int .i64 d, .int .i64 f, .slice a l.length c, .int .u64 u] 41)).alloc (.cells #[.int .i64 0, .int .i64 0, .slice none 0 0] 31)) := Bw.alloc (Bw.alloc (Bw.alloc (Bw.refl _) _) _) _
  have HB3 := hid hB3
  have HBP := hid (show Blk (((wr.alloc (.cells #[.int .i64 F, .int .i64 G, .slice av LR.length cv] 31)).alloc (.cells #[.int .i64 d, .int .i64 f, .slice a l.length c, .int .u64 u] 41)).alloc (.cells #[.int .i64 0, .int .i64 0, .slice none 0 0] 31)) wr.heap.size #[.int .i64 F, .int .i64 G, .slice av LR.length cv] 31 from ((Blk.new wr _ _).alloc _).alloc _)
  have HBA := hid (show Blk (((wr.alloc (.cells #[.int .i64 F, .int .i64 G, .slice av LR.length cv] 31)).alloc (.cells #[.int .i64 d, .int .i64 f, .slice a l.length c, .int .u64 u] 41)).alloc (.cells #[.int .i64 0, .int .i64 0, .slice none 0 0] 31)) (wr.heap.size + 1) #[.int .i64 d, .int .i64 f, .slice a l.length c, .int .u64 u] 41 from (Blk.newAt _ _ _ _ (by simp only [World.size_alloc])).alloc _)
  have HBR := hid (show Blk (((wr.alloc (.cells #[.int .i64 F, .int .i64 G, .slice av LR.length cv] 31)).alloc (.cells #[.int .i64 d, .int .i64 f, .slice a l.length c, .int .u64 u] 41)).alloc (.cells #[.int .i64 0, .int .i64 0, .slice none 0 0] 31)) (wr.heap.size + 1 + 1) #[.int .i64 0, .int .i64 0, .slice none 0 0] 31 from Blk.newAt _ _ _ _ (by simp only [World.size_alloc]))
  have HNB := hid (fun b (hb : b ∈ bs) => h.ms.ds.lt b hb)
  clear h hx hm hB3
  subst hd
  obtain ⟨E, hE⟩ : ∃ E, addE F G (L.map Prod.fst) f l = E := ⟨_, rfl⟩
  have HE := hid hE
  obtain ⟨N1, hN1⟩ : ∃ N1, ((if E = 0 then L.length else 0 : Nat) : Int) = N1 := ⟨_, rfl⟩
  have HN := hid hN1
  have eN : (N1 == N1) = true := by simp
  have eE : (E == E) = true := by simp
  clear hE hN1
  go_enter Try.func13, Try.ntmps13
  go_wp2_with (first
    | (go_at_call 16; refine (AddM (HW.out.ms.on HB3.out) hk hG f (HX.out.l.bw (HW.out.ms.bw.trans HB3.out)) HM40.out).mono ?_; rintro e w1 ⟨bs1, rv1, L1, he, hm1, hnx, hl1⟩; simp only at he hl1; rw [HE.out, HN.out] at he; subst he; have hn1 := hnx; have BP := HBP.out.ex hn1.ex (fun hm => by have := HNB.out _ hm; omega); have BA := HBA.out.ex hn1.ex (fun hm => by have := HNB.out _ hm; omega); have BR := HBR.out.ex hn1.ex (fun hm => by have := HNB.out _ hm; omega); obtain ⟨p0, p1, p2, pl⟩ := box3 BP; obtain ⟨q0, q1, q2, q3, ql⟩ := box4 BA; have HBR1 := hid BR; have HRS := hid (HW.out.rs.nx HB3.out hn1); have HNR := hid (hn1.notin (A := wr.heap.size + 1 + 1) HBR.out.lt (fun hm => by have := HNB.out _ hm; omega)); have HN1 := hid hn1; clear hn1 BP BA BR; have HM1 := hid hm1; have HL1 := hid hl1; clear hm1 hl1 hnx)
    | (go_at_call 24; refine (rAdd_any HRS.out hG f l (HX.out.l.bw HM1.out.bw).1 HM40.out (by have := HLL.out; have := HW.out.ms.len; omega)).mono ?_; rintro e w2 ⟨v2, LR2, he, hb2, hr2, hl2⟩; rw [HEQ.out, HE.out, HLL.out, HN.out] at he; unfold rV at he; obtain ⟨a2, c2, e2⟩ := hr2.form; subst e2; subst he; obtain ⟨r0, r1, r2, rl⟩ := box3 (HBR1.out.bw hb2); have rf := (HBR1.out.bw hb2).free; have HB2 := hid hb2; have HR2 := hid hr2; have HL2 := hid hl2; clear hb2 hr2 hl2)
    | fail)
  go_region_with (go_at_call 12; refine (num_any _ _).mono ?_; rintro e w9 ⟨rfl, hw9⟩; subst w9)
  all_goals go_wp2
  all_goals (
    refine bodyPost_ret (v := .tuple #[.agg #[.int .i64 F, .int .i64 G, .slice a2 LR2.length c2], .bool true]) (by simp [results, Try.results13, go_sem, *]) rfl ?_
    have hex := fun X (hx : Ex [wr.heap.size + 1 + 1] w2 X) => hx
    refine ⟨bs1, rv1, L1, _, LR2, rfl, ?_⟩
    refine ⟨⟨(HM1.out.more (by omega)).on HB2.out |>.exOut (R := wr.heap.size + 1 + 1) (by have := HW.out.ms.bw.size; omega) HNR.out ?_, ?_, RS.fin (R := wr.heap.size + 1 + 1) HR2.out (by omega) (fun b hb => HW.out.lB b (by have := HBR1.out.lt; omega)) HBR1.out.lt (fun b hb => HM1.out.ds.lt b hb) ?_, ?_, ?_⟩, Nx.wrap (R := wr.heap.size + 1 + 1) HB3.out HN1.out HB2.out ?_ (by omega)⟩
    rotate_left
    · rw [HL1.out]; exact HW.out.good.add _ _
    rotate_left
    · intro b hb
      have h1 := HBR1.out.lt
      have h2 := HB2.out.size
      simp at hb
      exact HW.out.lB b (by omega)
    · rw [HL2.out, HEQ.out]; exact HL1.out.symm
    all_goals (repeat (first | exact Ex.refl _ _ | apply Ex.drewN | apply Ex.drew | apply Ex.alloc | (refine Ex.set ?_ (.inl (by simp)) _ _))))

set_option maxRecDepth 100000 in
set_option maxHeartbeats 2000000 in
theorem step_wrote (h : PW w0 wr p bs F G rv L v LR k B) (hk : k < 1000) (hG : G ≤ 1024) (x : AX) (hx : AOK w0 x) (hm : x.l.length ≤ 1000) (hd : x.d = 1) : Calls Try.prog 13 #[.pointer (some ⟨p, 0, none⟩), rV F G v, actV x] wr fun e w' => ∃ bs' rv' L' v' LR', e = .returned (.tuple #[rV F G v', .bool true]) ∧ PW w0 w' p bs' F G rv' L' v' LR' (k + 1) B ∧ Nx bs wr w' bs' := by
  obtain ⟨d, f, lv, l, u⟩ := x
  obtain ⟨a, c, elv⟩ := hx.l.form
  simp only at elv
  subst elv
  unfold actV rV
  obtain ⟨av, cv, ev⟩ := h.rs.form
  subst ev
  have HW := hid h
  have HX := hid hx
  have HEQ := hid h.eq
  have HLL := hid (show LR.length = L.length by have := congrArg List.length h.eq; simpa using this)
  simp only at hm hd
  have HM40 := hid hm
  have hB3 : Bw wr (((wr.alloc (.cells #[.int .i64 F, .int .i64 G, .slice av LR.length cv] 31)).alloc (.cells #[.int .i64 d, .int .i64 f, .slice a l.length c, .int .u64 u] 41)).alloc (.cells #[.int .i64 0, .int .i64 0, .slice none 0 0] 31)) := Bw.alloc (Bw.alloc (Bw.alloc (Bw.refl _) _) _) _
  have HB3 := hid hB3
  have HBP := hid (show Blk (((wr.alloc (.cells #[.int .i64 F, .int .i64 G, .slice av LR.length cv] 31)).alloc (.cells #[.int .i64 d, .int .i64 f, .slice a l.length c, .int .u64 u] 41)).alloc (.cells #[.int .i64 0, .int .i64 0, .slice none 0 0] 31)) wr.heap.size #[.int .i64 F, .int .i64 G, .slice av LR.length cv] 31 from ((Blk.new wr _ _).alloc _).alloc _)
  have HBA := hid (show Blk (((wr.alloc (.cells #[.int .i64 F, .int .i64 G, .slice av LR.length cv] 31)).alloc (.cells #[.int .i64 d, .int .i64 f, .slice a l.length c, .int .u64 u] 41)).alloc (.cells #[.int .i64 0, .int .i64 0, .slice none 0 0] 31)) (wr.heap.size + 1) #[.int .i64 d, .int .i64 f, .slice a l.length c, .int .u64 u] 41 from (Blk.newAt _ _ _ _ (by simp only [World.size_alloc])).alloc _)
  have HBR := hid (show Blk (((wr.alloc (.cells #[.int .i64 F, .int .i64 G, .slice av LR.length cv] 31)).alloc (.cells #[.int .i64 d, .int .i64 f, .slice a l.length c, .int .u64 u] 41)).alloc (.cells #[.int .i64 0, .int .i64 0, .slice none 0 0] 31)) (wr.heap.size + 1 + 1) #[.int .i64 0, .int .i64 0, .slice none 0 0] 31 from Blk.newAt _ _ _ _ (by simp only [World.size_alloc]))
  have HNB := hid (fun b (hb : b ∈ bs) => h.ms.ds.lt b hb)
  clear h hx hm hB3
  subst hd
  obtain ⟨E, hE⟩ : ∃ E, wrE G f = E := ⟨_, rfl⟩
  have HE := hid hE
  obtain ⟨J, hJ⟩ : ∃ J, wrI G f u (L.map Prod.fst) = J := ⟨_, rfl⟩
  have HJ := hid hJ
  have hjl : J.length ≤ 1000 := by
    rw [← hJ]
    unfold wrI
    split
    · exact Nat.le_trans (idx_len _ _ _) (by have := HW.out.ms.len; simp; omega)
    · simp
  have eE : (E == E) = true := by simp
  clear hE hJ
  go_enter Try.func13, Try.ntmps13
  go_wp2_with (first
    | (go_at_call 17; refine (WroteM (HW.out.ms.on HB3.out) f u).mono ?_; rintro e w1 ⟨r1, L1, he, ho, hm1, hnx, hl1⟩; rw [HE.out] at he; rw [HJ.out] at ho; obtain ⟨ar, cr, er⟩ := own_form ho; subst er; subst he; have hn1 := hnx; have BP := HBP.out.ex hn1.ex (fun hm => by have := HNB.out _ hm; omega); have BA := HBA.out.ex hn1.ex (fun hm => by have := HNB.out _ hm; omega); have BR := HBR.out.ex hn1.ex (fun hm => by have := HNB.out _ hm; omega); obtain ⟨p0, p1, p2, pl⟩ := box3 BP; obtain ⟨q0, q1, q2, q3, ql⟩ := box4 BA; have HBR1 := hid BR; have HRS := hid (HW.out.rs.nx HB3.out hn1); have HNR := hid (hn1.notin (A := wr.heap.size + 1 + 1) HBR.out.lt (fun hm => by have := HNB.out _ hm; omega)); have HN1 := hid hn1; clear hn1 BP BA BR; have HM1 := hid hm1; have HL1 := hid hl1; have HO1 := hid ho; clear hm1 hl1 hnx ho)
    | (go_at_call 25; refine (rWrote_any HRS.out f u).mono ?_; rintro e w2 ⟨v2, o2, LR2, he, hb2, hr2, hl2, ho2⟩; rw [HE.out] at he; rw [HEQ.out, HJ.out] at ho2; unfold rV at he; obtain ⟨a2, c2, e2⟩ := hr2.form; subst e2; obtain ⟨ao, co, eo⟩ := own_form ho2; subst eo; subst he; have HO2 := hid ho2; have HO1b := hid (own_bw HO1.out hb2); obtain ⟨r0, r1, r2, rl⟩ := box3 (HBR1.out.bw hb2); have rf := (HBR1.out.bw hb2).free; have HB2 := hid hb2; have HR2 := hid hr2; have HL2 := hid hl2; clear hb2 hr2 hl2; clear ho2)
    | fail)
  go_region_with (first
    | (go_at_call 12; refine (num_any _ _).mono ?_; rintro e w9 ⟨rfl, hw9⟩; subst w9)
    | (go_at_call 23; refine (sameInts_any (G := fun _ => True) (G' := fun _ => True) _ _ (J.map (fun (i : Nat) => (i : Int))) (by rw [List.length_map, ← ints_eq]; exact (own_sl (G := fun _ => True) HO1b.out (fun _ _ => trivial)).below (by repeat (first | exact Bw.refl _ | apply Bw.alloc | apply Bw.drewN | apply Bw.drew))) (by rw [List.length_map, ← ints_eq]; exact (own_sl (G := fun _ => True) HO2.out (fun _ _ => trivial)).below (by repeat (first | exact Bw.refl _ | apply Bw.alloc | apply Bw.drewN | apply Bw.drew))) (by rw [List.length_map]; omega)).mono ?_; rintro e w9 ⟨rfl, hd9⟩; obtain ⟨q9, hq9⟩ := hd9; subst hq9))
  all_goals go_wp2
  all_goals (
    refine bodyPost_ret (v := .tuple #[.agg #[.int .i64 F, .int .i64 G, .slice a2 LR2.length c2], .bool true]) (by simp [results, Try.results13, go_sem, *]) rfl ?_
    have hex := fun X (hx : Ex [wr.heap.size + 1 + 1] w2 X) => hx
    refine ⟨bs, rv, L1, _, LR2, rfl, ?_⟩
    refine ⟨⟨(HM1.out.more (by omega)).on HB2.out |>.exOut (R := wr.heap.size + 1 + 1) (by have := HW.out.ms.bw.size; omega) HNR.out ?_, ?_, RS.fin (R := wr.heap.size + 1 + 1) HR2.out (by omega) (fun b hb => HW.out.lB b (by have := HBR1.out.lt; omega)) HBR1.out.lt (fun b hb => HM1.out.ds.lt b hb) ?_, ?_, ?_⟩, Nx.wrap (R := wr.heap.size + 1 + 1) HB3.out HN1.out HB2.out ?_ (by omega)⟩
    rotate_left
    · rw [HL1.out]; exact HW.out.good.wr _ _
    rotate_left
    · intro b hb
      have h1 := HBR1.out.lt
      have h2 := HB2.out.size
      simp at hb
      exact HW.out.lB b (by omega)
    · rw [HL2.out, HEQ.out]; exact HL1.out.symm
    all_goals (repeat (first | exact Ex.refl _ _ | apply Ex.drewN | apply Ex.drew | apply Ex.alloc | (refine Ex.set ?_ (.inl (by simp)) _ _))))

set_option maxRecDepth 100000 in
set_option maxHeartbeats 2000000 in
theorem step_drop (h : PW w0 wr p bs F G rv L v LR k B) (hk : k < 1000) (hG : G ≤ 1024) (x : AX) (hx : AOK w0 x) (hm : x.l.length ≤ 1000) (hd : x.d = 2) : Calls Try.prog 13 #[.pointer (some ⟨p, 0, none⟩), rV F G v, actV x] wr fun e w' => ∃ bs' rv' L' v' LR', e = .returned (.tuple #[rV F G v', .bool true]) ∧ PW w0 w' p bs' F G rv' L' v' LR' (k + 1) B ∧ Nx bs wr w' bs' := by
  obtain ⟨d, f, lv, l, u⟩ := x
  obtain ⟨a, c, elv⟩ := hx.l.form
  simp only at elv
  subst elv
  unfold actV rV
  obtain ⟨av, cv, ev⟩ := h.rs.form
  subst ev
  have HW := hid h
  have HX := hid hx
  have HEQ := hid h.eq
  have HLL := hid (show LR.length = L.length by have := congrArg List.length h.eq; simpa using this)
  simp only at hm hd
  have HM40 := hid hm
  have hB3 : Bw wr (((wr.alloc (.cells #[.int .i64 F, .int .i64 G, .slice av LR.length cv] 31)).alloc (.cells #[.int .i64 d, .int .i64 f, .slice a l.length c, .int .u64 u] 41)).alloc (.cells #[.int .i64 0, .int .i64 0, .slice none 0 0] 31)) := Bw.alloc (Bw.alloc (Bw.alloc (Bw.refl _) _) _) _
  have HB3 := hid hB3
  have HBP := hid (show Blk (((wr.alloc (.cells #[.int .i64 F, .int .i64 G, .slice av LR.length cv] 31)).alloc (.cells #[.int .i64 d, .int .i64 f, .slice a l.length c, .int .u64 u] 41)).alloc (.cells #[.int .i64 0, .int .i64 0, .slice none 0 0] 31)) wr.heap.size #[.int .i64 F, .int .i64 G, .slice av LR.length cv] 31 from ((Blk.new wr _ _).alloc _).alloc _)
  have HBA := hid (show Blk (((wr.alloc (.cells #[.int .i64 F, .int .i64 G, .slice av LR.length cv] 31)).alloc (.cells #[.int .i64 d, .int .i64 f, .slice a l.length c, .int .u64 u] 41)).alloc (.cells #[.int .i64 0, .int .i64 0, .slice none 0 0] 31)) (wr.heap.size + 1) #[.int .i64 d, .int .i64 f, .slice a l.length c, .int .u64 u] 41 from (Blk.newAt _ _ _ _ (by simp only [World.size_alloc])).alloc _)
  have HBR := hid (show Blk (((wr.alloc (.cells #[.int .i64 F, .int .i64 G, .slice av LR.length cv] 31)).alloc (.cells #[.int .i64 d, .int .i64 f, .slice a l.length c, .int .u64 u] 41)).alloc (.cells #[.int .i64 0, .int .i64 0, .slice none 0 0] 31)) (wr.heap.size + 1 + 1) #[.int .i64 0, .int .i64 0, .slice none 0 0] 31 from Blk.newAt _ _ _ _ (by simp only [World.size_alloc]))
  have HNB := hid (fun b (hb : b ∈ bs) => h.ms.ds.lt b hb)
  clear h hx hm hB3
  subst hd
  obtain ⟨E, hE⟩ : ∃ E : Int, (if oneOf f L.length then (0 : Int) else 1) = E := ⟨_, rfl⟩
  have HE := hid hE
  have eE : (E == E) = true := by simp
  clear hE
  go_enter Try.func13, Try.ntmps13
  go_wp2_with (first
    | (go_at_call 21; refine (DropM (HW.out.ms.on HB3.out) f).mono ?_; rintro e w1 ⟨L1, he, hm1, hnx, hl1⟩; rw [HE.out] at he; subst he; have hn1 := hnx; have BP := HBP.out.ex hn1.ex (fun hm => by have := HNB.out _ hm; omega); have BA := HBA.out.ex hn1.ex (fun hm => by have := HNB.out _ hm; omega); have BR := HBR.out.ex hn1.ex (fun hm => by have := HNB.out _ hm; omega); obtain ⟨p0, p1, p2, pl⟩ := box3 BP; obtain ⟨q0, q1, q2, q3, ql⟩ := box4 BA; have HBR1 := hid BR; have HRS := hid (HW.out.rs.nx HB3.out hn1); have HNR := hid (hn1.notin (A := wr.heap.size + 1 + 1) HBR.out.lt (fun hm => by have := HNB.out _ hm; omega)); have HN1 := hid hn1; clear hn1 BP BA BR; have HM1 := hid hm1; have HL1 := hid hl1; clear hm1 hl1 hnx)
    | (go_at_call 26; refine (rDrop_any HRS.out f).mono ?_; rintro e w2 ⟨v2, LR2, he, hb2, hr2, hl2⟩; rw [HLL.out, HE.out] at he; unfold rV at he; obtain ⟨a2, c2, e2⟩ := hr2.form; subst e2; subst he; obtain ⟨r0, r1, r2, rl⟩ := box3 (HBR1.out.bw hb2); have rf := (HBR1.out.bw hb2).free; have HB2 := hid hb2; have HR2 := hid hr2; have HL2 := hid hl2; clear hb2 hr2 hl2)
    | fail)
  go_region_with (go_at_call 12; refine (num_any _ _).mono ?_; rintro e w9 ⟨rfl, hw9⟩; subst w9)
  all_goals go_wp2
  all_goals (
    refine bodyPost_ret (v := .tuple #[.agg #[.int .i64 F, .int .i64 G, .slice a2 LR2.length c2], .bool true]) (by simp [results, Try.results13, go_sem, *]) rfl ?_
    have hex := fun X (hx : Ex [wr.heap.size + 1 + 1] w2 X) => hx
    refine ⟨bs, rv, L1, _, LR2, rfl, ?_⟩
    refine ⟨⟨(HM1.out.more (by omega)).on HB2.out |>.exOut (R := wr.heap.size + 1 + 1) (by have := HW.out.ms.bw.size; omega) HNR.out ?_, ?_, RS.fin (R := wr.heap.size + 1 + 1) HR2.out (by omega) (fun b hb => HW.out.lB b (by have := HBR1.out.lt; omega)) HBR1.out.lt (fun b hb => HM1.out.ds.lt b hb) ?_, ?_, ?_⟩, Nx.wrap (R := wr.heap.size + 1 + 1) HB3.out HN1.out HB2.out ?_ (by omega)⟩
    rotate_left
    · rw [HL1.out]; exact HW.out.good.dr _
    rotate_left
    · intro b hb
      have h1 := HBR1.out.lt
      have h2 := HB2.out.size
      simp at hb
      exact HW.out.lB b (by omega)
    · rw [HL2.out, HEQ.out]; exact HL1.out.symm
    all_goals (repeat (first | exact Ex.refl _ _ | apply Ex.drewN | apply Ex.drew | apply Ex.alloc | (refine Ex.set ?_ (.inl (by simp)) _ _))))

set_option maxRecDepth 100000 in
set_option maxHeartbeats 2000000 in
theorem step_none (h : PW w0 wr p bs F G rv L v LR k B) (hk : k < 1000) (hG : G ≤ 1024) (x : AX) (hx : AOK w0 x) (hm : x.l.length ≤ 1000) (hd : ¬ x.d = 0) (hd1 : ¬ x.d = 1) (hd2 : ¬ x.d = 2) : Calls Try.prog 13 #[.pointer (some ⟨p, 0, none⟩), rV F G v, actV x] wr fun e w' => ∃ bs' rv' L' v' LR', e = .returned (.tuple #[rV F G v', .bool true]) ∧ PW w0 w' p bs' F G rv' L' v' LR' (k + 1) B ∧ Nx bs wr w' bs' := by
  obtain ⟨d, f, lv, l, u⟩ := x
  obtain ⟨a, c, elv⟩ := hx.l.form
  simp only at elv
  subst elv
  unfold actV rV
  obtain ⟨av, cv, ev⟩ := h.rs.form
  subst ev
  have HW := hid h
  have HX := hid hx
  have HEQ := hid h.eq
  have HLL := hid (show LR.length = L.length by have := congrArg List.length h.eq; simpa using this)
  simp only at hm hd hd1 hd2
  have HM40 := hid hm
  have hB3 : Bw wr (((wr.alloc (.cells #[.int .i64 F, .int .i64 G, .slice av LR.length cv] 31)).alloc (.cells #[.int .i64 d, .int .i64 f, .slice a l.length c, .int .u64 u] 41)).alloc (.cells #[.int .i64 0, .int .i64 0, .slice none 0 0] 31)) := Bw.alloc (Bw.alloc (Bw.alloc (Bw.refl _) _) _) _
  have HB3 := hid hB3
  have HBP := hid (show Blk (((wr.alloc (.cells #[.int .i64 F, .int .i64 G, .slice av LR.length cv] 31)).alloc (.cells #[.int .i64 d, .int .i64 f, .slice a l.length c, .int .u64 u] 41)).alloc (.cells #[.int .i64 0, .int .i64 0, .slice none 0 0] 31)) wr.heap.size #[.int .i64 F, .int .i64 G, .slice av LR.length cv] 31 from ((Blk.new wr _ _).alloc _).alloc _)
  have HBA := hid (show Blk (((wr.alloc (.cells #[.int .i64 F, .int .i64 G, .slice av LR.length cv] 31)).alloc (.cells #[.int .i64 d, .int .i64 f, .slice a l.length c, .int .u64 u] 41)).alloc (.cells #[.int .i64 0, .int .i64 0, .slice none 0 0] 31)) (wr.heap.size + 1) #[.int .i64 d, .int .i64 f, .slice a l.length c, .int .u64 u] 41 from (Blk.newAt _ _ _ _ (by simp only [World.size_alloc])).alloc _)
  have HBR := hid (show Blk (((wr.alloc (.cells #[.int .i64 F, .int .i64 G, .slice av LR.length cv] 31)).alloc (.cells #[.int .i64 d, .int .i64 f, .slice a l.length c, .int .u64 u] 41)).alloc (.cells #[.int .i64 0, .int .i64 0, .slice none 0 0] 31)) (wr.heap.size + 1 + 1) #[.int .i64 0, .int .i64 0, .slice none 0 0] 31 from Blk.newAt _ _ _ _ (by simp only [World.size_alloc]))
  have HNB := hid (fun b (hb : b ∈ bs) => h.ms.ds.lt b hb)
  clear h hx hm hB3
  have d0 : (d == 0) = false := by simp [hd]
  have d1 : (d == 1) = false := by simp [hd1]
  have d2 : (d == 2) = false := by simp [hd2]
  clear hd hd1 hd2
  go_enter Try.func13, Try.ntmps13
  go_wp2
  all_goals (
    refine bodyPost_ret (v := .tuple #[.agg #[.int .i64 F, .int .i64 G, .slice av LR.length cv], .bool true]) (by simp [results, Try.results13, go_sem, *]) rfl ?_
    refine ⟨bs, rv, L, _, LR, rfl, ?_⟩
    have hbb : ∀ X, Bw wr X → PW w0 X p bs F G rv L (.slice av LR.length cv) LR (k + 1) B ∧ Nx bs wr X bs := fun X hb => ⟨PW.on ⟨HW.out.ms.more (by omega), HW.out.good, HW.out.rs, HW.out.lB, HEQ.out⟩ hb, Nx.of_bw hb⟩
    refine hbb _ ?_
    repeat (first | exact Bw.refl _ | apply Bw.alloc | apply Bw.drewN | apply Bw.drew))

theorem step_any (h : PW w0 wr p bs F G rv L v LR k B) (hk : k < 1000) (hG : G ≤ 1024) (x : AX) (hx : AOK w0 x) (hm : x.l.length ≤ 1000) : Calls Try.prog 13 #[.pointer (some ⟨p, 0, none⟩), rV F G v, actV x] wr fun e w' => ∃ bs' rv' L' v' LR', e = .returned (.tuple #[rV F G v', .bool true]) ∧ PW w0 w' p bs' F G rv' L' v' LR' (k + 1) B ∧ Nx bs wr w' bs' := by
  by_cases h0 : x.d = 0
  · exact step_add h hk hG x hx hm h0
  by_cases h1 : x.d = 1
  · exact step_wrote h hk hG x hx hm h1
  by_cases h2 : x.d = 2
  · exact step_drop h hk hG x hx hm h2
  · exact step_none h hk hG x hx hm h0 h1 h2

end

end Go.Proofs.Ytaeifhfhahcoiaa
