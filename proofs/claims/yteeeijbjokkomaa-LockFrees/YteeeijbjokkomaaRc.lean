/- A step: Expire, Notify; what is none: contracts. -/
import Derived.Test.YteeeijbjokkomaaRb
set_option linter.unusedSimpArgs false
set_option linter.unusedVariables false
namespace Go.Proofs.Yteeeijbjokkomaa
open Go Go.RowKit

set_option maxRecDepth 100000 in
set_option maxHeartbeats 1000000 in
theorem step_expire {wr : World} {p : Nat} {bs : List Nat} {A : LL} (h : PX wr p bs A) (x : AX) (hx : AOK x) (hbig : A.W.length + A.K.length < 1000) (hd : x.d = 5) (hf : (A.W.filter (dueP x.n)).length < 20) :
    Calls Try.prog 10 #[.pointer (some ⟨p, 0, none⟩), rE, actV x] wr fun e w' => ∃ v bs', e = .returned v ∧ PX w' p bs' (expireA A x.n) ∧ Nx bs wr w' bs' := by
  obtain ⟨d, m, t, n, b⟩ := x
  unfold actV rE
  simp only
  have HX := hid hx
  have HB3 := hid (show Bw wr (((wr.alloc (.cells #[.slice none 0 0, .slice none 0 0, .slice none 0 0] 29)).alloc (.cells #[.int .i64 d, .int .i64 m, .int .i64 t, .int .i64 n, .bool b] 33)).alloc (.cells #[.slice none 0 0, .slice none 0 0, .slice none 0 0] 29)) from Bw.alloc (Bw.alloc (Bw.alloc (Bw.refl _) _) _) _)
  have HP := hid (h.bw HB3.out)
  have HBG := hid hbig
  have HLT := hid h.lt
  have HBP := hid (show Blk (((wr.alloc (.cells #[.slice none 0 0, .slice none 0 0, .slice none 0 0] 29)).alloc (.cells #[.int .i64 d, .int .i64 m, .int .i64 t, .int .i64 n, .bool b] 33)).alloc (.cells #[.slice none 0 0, .slice none 0 0, .slice none 0 0] 29)) wr.heap.size #[.slice none 0 0, .slice none 0 0, .slice none 0 0] 29 from ((Blk.new wr _ _).alloc _).alloc _)
  have HBA := hid (show Blk (((wr.alloc (.cells #[.slice none 0 0, .slice none 0 0, .slice none 0 0] 29)).alloc (.cells #[.int .i64 d, .int .i64 m, .int .i64 t, .int .i64 n, .bool b] 33)).alloc (.cells #[.slice none 0 0, .slice none 0 0, .slice none 0 0] 29)) (wr.heap.size + 1) #[.int .i64 d, .int .i64 m, .int .i64 t, .int .i64 n, .bool b] 33 from (Blk.newAt _ _ _ _ (by simp only [World.size_alloc])).alloc _)
  have HBR := hid (show Blk (((wr.alloc (.cells #[.slice none 0 0, .slice none 0 0, .slice none 0 0] 29)).alloc (.cells #[.int .i64 d, .int .i64 m, .int .i64 t, .int .i64 n, .bool b] 33)).alloc (.cells #[.slice none 0 0, .slice none 0 0, .slice none 0 0] 29)) (wr.heap.size + 1 + 1) #[.slice none 0 0, .slice none 0 0, .slice none 0 0] 29 from Blk.newAt _ _ _ _ (by simp only [World.size_alloc]))
  have HS3 := hid (show (((wr.alloc (.cells #[.slice none 0 0, .slice none 0 0, .slice none 0 0] 29)).alloc (.cells #[.int .i64 d, .int .i64 m, .int .i64 t, .int .i64 n, .bool b] 33)).alloc (.cells #[.slice none 0 0, .slice none 0 0, .slice none 0 0] 29)).heap.size = wr.heap.size + 1 + 1 + 1 by simp only [World.size_alloc])
  have HF := hid hf
  have hl := (show ((dueL A n).map (·.t)).length ≤ 1000 by rw [List.length_map, due_len]; exact Nat.le_of_lt (Nat.lt_trans hf (by decide)))
  obtain ⟨N, hN⟩ : ∃ N, ((dueL A n).map (·.t)).length = N := ⟨_, rfl⟩
  rw [hN] at hl
  have HL := hid hl
  have HN := hid hN
  clear hl hN
  clear h hx hbig hf
  simp only at hd
  subst hd
  go_enter Try.func10, Try.ntmps10
  go_wp2_with (first
    | (go_at_call 19; refine (Expire_few HP.out n HF.out).mono ?_; rintro e w1 ⟨r, bs1, he, ho1, hp1, hn1, hg1⟩; rw [HN.out] at ho1; obtain ⟨ar, cr, er⟩ := own_form ho1; subst er; subst he; clear ho1 hg1; have BP := HBP.out.ex hn1.ex (fun hm => by have := HLT.out _ hm; omega); have BA := HBA.out.ex hn1.ex (fun hm => by have := HLT.out _ hm; omega); have BR := HBR.out.ex hn1.ex (fun hm => by have := HLT.out _ hm; omega); obtain ⟨p0, p1, p2, pl⟩ := box3 BP; obtain ⟨a0, a1, a2, a3, a4, al⟩ := box5 BA; have HBR1 := hid BR; have HN1 := hid hn1; have HP1 := hid hp1; clear BP BA BR hn1 hp1)
    | (go_at_call 31; refine (rExpire_e n _).mono ?_; rintro e w2 ⟨he2, hb2⟩; unfold rE at he2; subst he2; obtain ⟨r0, r1, r2, rl⟩ := box3 (HBR1.out.bw hb2); have rf := (HBR1.out.bw hb2).free; have HB2 := hid hb2; clear hb2)
    | fail)
  go_region_with (go_at_call 25; refine (sameInts_no _ _ _ HL.out).mono ?_; rintro e w8 ⟨rfl, hw8⟩; subst w8)
  all_goals go_wp2
  all_goals (
    refine bodyPost_ret (v := .tuple #[.agg #[.slice none 0 0, .slice none 0 0, .slice none 0 0], .bool (N == 0)]) (by simp [results, Try.results10, go_sem, *]) rfl ?_
    refine ⟨_, bs1, rfl, step_fin HB3.out HN1.out HP1.out HB2.out ?_ HS3.out HLT.out⟩
    repeat (first | exact Ex.refl _ _ | apply Ex.drewN | apply Ex.drew | apply Ex.alloc | (refine Ex.set ?_ (.inl (by simp)) _ _)))

set_option maxRecDepth 100000 in
set_option maxHeartbeats 1000000 in
theorem step_notify1 {wr : World} {p : Nat} {bs : List Nat} {A : LL} (h : PX wr p bs A) (x : AX) (hx : AOK x) (hbig : A.W.length + A.K.length < 1000) (hd : x.d = 4) (h0 : ((notifyL A x.m x.t x.b).length == 0) = true) :
    Calls Try.prog 10 #[.pointer (some ⟨p, 0, none⟩), rE, actV x] wr fun e w' => ∃ v bs', e = .returned v ∧ PX w' p bs' (notifyA A x.m x.t x.b) ∧ Nx bs wr w' bs' := by
  obtain ⟨d, m, t, n, b⟩ := x
  unfold actV rE
  simp only
  have HX := hid hx
  have HB3 := hid (show Bw wr (((wr.alloc (.cells #[.slice none 0 0, .slice none 0 0, .slice none 0 0] 29)).alloc (.cells #[.int .i64 d, .int .i64 m, .int .i64 t, .int .i64 n, .bool b] 33)).alloc (.cells #[.slice none 0 0, .slice none 0 0, .slice none 0 0] 29)) from Bw.alloc (Bw.alloc (Bw.alloc (Bw.refl _) _) _) _)
  have HP := hid (h.bw HB3.out)
  have HBG := hid hbig
  have HLT := hid h.lt
  have HBP := hid (show Blk (((wr.alloc (.cells #[.slice none 0 0, .slice none 0 0, .slice none 0 0] 29)).alloc (.cells #[.int .i64 d, .int .i64 m, .int .i64 t, .int .i64 n, .bool b] 33)).alloc (.cells #[.slice none 0 0, .slice none 0 0, .slice none 0 0] 29)) wr.heap.size #[.slice none 0 0, .slice none 0 0, .slice none 0 0] 29 from ((Blk.new wr _ _).alloc _).alloc _)
  have HBA := hid (show Blk (((wr.alloc (.cells #[.slice none 0 0, .slice none 0 0, .slice none 0 0] 29)).alloc (.cells #[.int .i64 d, .int .i64 m, .int .i64 t, .int .i64 n, .bool b] 33)).alloc (.cells #[.slice none 0 0, .slice none 0 0, .slice none 0 0] 29)) (wr.heap.size + 1) #[.int .i64 d, .int .i64 m, .int .i64 t, .int .i64 n, .bool b] 33 from (Blk.newAt _ _ _ _ (by simp only [World.size_alloc])).alloc _)
  have HBR := hid (show Blk (((wr.alloc (.cells #[.slice none 0 0, .slice none 0 0, .slice none 0 0] 29)).alloc (.cells #[.int .i64 d, .int .i64 m, .int .i64 t, .int .i64 n, .bool b] 33)).alloc (.cells #[.slice none 0 0, .slice none 0 0, .slice none 0 0] 29)) (wr.heap.size + 1 + 1) #[.slice none 0 0, .slice none 0 0, .slice none 0 0] 29 from Blk.newAt _ _ _ _ (by simp only [World.size_alloc]))
  have HS3 := hid (show (((wr.alloc (.cells #[.slice none 0 0, .slice none 0 0, .slice none 0 0] 29)).alloc (.cells #[.int .i64 d, .int .i64 m, .int .i64 t, .int .i64 n, .bool b] 33)).alloc (.cells #[.slice none 0 0, .slice none 0 0, .slice none 0 0] 29)).heap.size = wr.heap.size + 1 + 1 + 1 by simp only [World.size_alloc])
  have hl := (show (notifyL A m t b).length ≤ 1000 by
    unfold notifyL
    split
    · have := spl_len (fun w => w.m == m) (if b then (A.W.length : Int) else 1) A.W
      rw [List.length_map]
      unfold notS
      omega
    · simp)
  simp only at h0
  obtain ⟨N, hN⟩ : ∃ N, (notifyL A m t b).length = N := ⟨_, rfl⟩
  rw [hN] at hl h0
  have HL := hid hl
  have HN := hid hN
  have HN0 := hid h0
  obtain ⟨E, hE⟩ : ∃ E, hasE A m t = E := ⟨_, rfl⟩
  have HE := hid hE
  clear hl hN hE h h0 hx hbig
  simp only at hd
  subst hd
  go_enter Try.func10, Try.ntmps10
  go_wp2_with (first
    | (go_at_call 14; refine (Notify_any HP.out m t b).mono ?_; rintro e w1 ⟨r, bs1, he, ho1, hp1, hn1, hg1⟩; rw [HE.out] at he; rw [HN.out] at ho1; obtain ⟨ar, cr, er⟩ := own_form ho1; subst er; subst he; clear ho1 hg1; have BP := HBP.out.ex hn1.ex (fun hm => by have := HLT.out _ hm; omega); have BA := HBA.out.ex hn1.ex (fun hm => by have := HLT.out _ hm; omega); have BR := HBR.out.ex hn1.ex (fun hm => by have := HLT.out _ hm; omega); obtain ⟨p0, p1, p2, pl⟩ := box3 BP; obtain ⟨a0, a1, a2, a3, a4, al⟩ := box5 BA; have HBR1 := hid BR; have HN1 := hid hn1; have HP1 := hid hp1; clear BP BA BR hn1 hp1)
    | (go_at_call 30; refine (rNotify_e m t b _).mono ?_; rintro e w2 ⟨he2, hb2⟩; unfold rE at he2; subst he2; obtain ⟨r0, r1, r2, rl⟩ := box3 (HBR1.out.bw hb2); have rf := (HBR1.out.bw hb2).free; have HB2 := hid hb2; clear hb2)
    | fail)
  go_region_with (first
    | (go_at_call 25; refine (sameInts_no _ _ _ HL.out).mono ?_; rintro e w8 ⟨he8, hw8⟩; rw [HN0.out] at he8; subst he8; subst w8)
    | (go_at_call 13; refine (num_any _ _).mono ?_; rintro e w9 ⟨rfl, hw9⟩; subst w9))
  all_goals go_wp2
  all_goals (
    refine bodyPost_ret (v := .tuple #[.agg #[.slice none 0 0, .slice none 0 0, .slice none 0 0], .bool (E == 1)]) (by simp [results, Try.results10, go_sem, *]) rfl ?_
    refine ⟨_, bs1, rfl, step_fin HB3.out HN1.out HP1.out HB2.out ?_ HS3.out HLT.out⟩
    repeat (first | exact Ex.refl _ _ | apply Ex.drewN | apply Ex.drew | apply Ex.alloc | (refine Ex.set ?_ (.inl (by simp)) _ _)))

set_option maxRecDepth 100000 in
set_option maxHeartbeats 1000000 in
theorem step_notify0 {wr : World} {p : Nat} {bs : List Nat} {A : LL} (h : PX wr p bs A) (x : AX) (hx : AOK x) (hbig : A.W.length + A.K.length < 1000) (hd : x.d = 4) (h0 : ((notifyL A x.m x.t x.b).length == 0) = false) :
    Calls Try.prog 10 #[.pointer (some ⟨p, 0, none⟩), rE, actV x] wr fun e w' => ∃ v bs', e = .returned v ∧ PX w' p bs' (notifyA A x.m x.t x.b) ∧ Nx bs wr w' bs' := by
  obtain ⟨d, m, t, n, b⟩ := x
  unfold actV rE
  simp only
  have HX := hid hx
  have HB3 := hid (show Bw wr (((wr.alloc (.cells #[.slice none 0 0, .slice none 0 0, .slice none 0 0] 29)).alloc (.cells #[.int .i64 d, .int .i64 m, .int .i64 t, .int .i64 n, .bool b] 33)).alloc (.cells #[.slice none 0 0, .slice none 0 0, .slice none 0 0] 29)) from Bw.alloc (Bw.alloc (Bw.alloc (Bw.refl _) _) _) _)
  have HP := hid (h.bw HB3.out)
  have HBG := hid hbig
  have HLT := hid h.lt
  have HBP := hid (show Blk (((wr.alloc (.cells #[.slice none 0 0, .slice none 0 0, .slice none 0 0] 29)).alloc (.cells #[.int .i64 d, .int .i64 m, .int .i64 t, .int .i64 n, .bool b] 33)).alloc (.cells #[.slice none 0 0, .slice none 0 0, .slice none 0 0] 29)) wr.heap.size #[.slice none 0 0, .slice none 0 0, .slice none 0 0] 29 from ((Blk.new wr _ _).alloc _).alloc _)
  have HBA := hid (show Blk (((wr.alloc (.cells #[.slice none 0 0, .slice none 0 0, .slice none 0 0] 29)).alloc (.cells #[.int .i64 d, .int .i64 m, .int .i64 t, .int .i64 n, .bool b] 33)).alloc (.cells #[.slice none 0 0, .slice none 0 0, .slice none 0 0] 29)) (wr.heap.size + 1) #[.int .i64 d, .int .i64 m, .int .i64 t, .int .i64 n, .bool b] 33 from (Blk.newAt _ _ _ _ (by simp only [World.size_alloc])).alloc _)
  have HBR := hid (show Blk (((wr.alloc (.cells #[.slice none 0 0, .slice none 0 0, .slice none 0 0] 29)).alloc (.cells #[.int .i64 d, .int .i64 m, .int .i64 t, .int .i64 n, .bool b] 33)).alloc (.cells #[.slice none 0 0, .slice none 0 0, .slice none 0 0] 29)) (wr.heap.size + 1 + 1) #[.slice none 0 0, .slice none 0 0, .slice none 0 0] 29 from Blk.newAt _ _ _ _ (by simp only [World.size_alloc]))
  have HS3 := hid (show (((wr.alloc (.cells #[.slice none 0 0, .slice none 0 0, .slice none 0 0] 29)).alloc (.cells #[.int .i64 d, .int .i64 m, .int .i64 t, .int .i64 n, .bool b] 33)).alloc (.cells #[.slice none 0 0, .slice none 0 0, .slice none 0 0] 29)).heap.size = wr.heap.size + 1 + 1 + 1 by simp only [World.size_alloc])
  have hl := (show (notifyL A m t b).length ≤ 1000 by
    unfold notifyL
    split
    · have := spl_len (fun w => w.m == m) (if b then (A.W.length : Int) else 1) A.W
      rw [List.length_map]
      unfold notS
      omega
    · simp)
  simp only at h0
  obtain ⟨N, hN⟩ : ∃ N, (notifyL A m t b).length = N := ⟨_, rfl⟩
  rw [hN] at hl h0
  have HL := hid hl
  have HN := hid hN
  have HN0 := hid h0
  obtain ⟨E, hE⟩ : ∃ E, hasE A m t = E := ⟨_, rfl⟩
  have HE := hid hE
  clear hl hN hE h h0 hx hbig
  simp only at hd
  subst hd
  go_enter Try.func10, Try.ntmps10
  go_wp2_with (first
    | (go_at_call 14; refine (Notify_any HP.out m t b).mono ?_; rintro e w1 ⟨r, bs1, he, ho1, hp1, hn1, hg1⟩; rw [HE.out] at he; rw [HN.out] at ho1; obtain ⟨ar, cr, er⟩ := own_form ho1; subst er; subst he; clear ho1 hg1; have BP := HBP.out.ex hn1.ex (fun hm => by have := HLT.out _ hm; omega); have BA := HBA.out.ex hn1.ex (fun hm => by have := HLT.out _ hm; omega); have BR := HBR.out.ex hn1.ex (fun hm => by have := HLT.out _ hm; omega); obtain ⟨p0, p1, p2, pl⟩ := box3 BP; obtain ⟨a0, a1, a2, a3, a4, al⟩ := box5 BA; have HBR1 := hid BR; have HN1 := hid hn1; have HP1 := hid hp1; clear BP BA BR hn1 hp1)
    | (go_at_call 30; refine (rNotify_e m t b _).mono ?_; rintro e w2 ⟨he2, hb2⟩; unfold rE at he2; subst he2; obtain ⟨r0, r1, r2, rl⟩ := box3 (HBR1.out.bw hb2); have rf := (HBR1.out.bw hb2).free; have HB2 := hid hb2; clear hb2)
    | fail)
  obtain ⟨W0, hW0⟩ : ∃ W0, (w2.alloc (.cells #[.slice none 0 0, .slice none 0 0, .slice none 0 0] 29)).drew = W0 := ⟨_, rfl⟩
  have HBX := hid (show Blk W0 w2.heap.size #[.slice none 0 0, .slice none 0 0, .slice none 0 0] 29 from (by rw [← hW0]; exact (Blk.new w2 _ _).drewN 1))
  have HEX := hid (show Ex [wr.heap.size + 1 + 1] w2 W0 from (by rw [← hW0]; exact ((Ex.refl _ _).alloc _).drew))
  have HRB := hid (show Blk W0 (wr.heap.size + 1 + 1) #[.slice none 0 0, .slice none 0 0, .slice none 0 0] 29 from (by rw [← hW0]; exact ((HBR1.out.bw HB2.out).alloc _).drewN 1))
  obtain ⟨y0, y1, y2, yl⟩ := box3 HBX.out
  obtain ⟨r0, r1, r2, rl⟩ := box3 HRB.out
  have rf := HRB.out.free
  refine wp_region_W (fun w' => w' = W0) (fun j => if j == 3 then 0 else if j == 10 then 2 else 1) (by kernel_rfl) ?_
  rw [hW0]
  refine wpAnyW_load (i := 0) (oi := { dst := some 153, op := Op.load 29 (Operand.tmp 24), type := 29, pos := "law.go:60", after := #[], guard := none }) (v := ?_) rfl (by kernel_rfl) (by kernel_rfl) (by kernel_rfl) (by kernel_rfl) (by kernel_rfl) (fun _ _ _ h => h) (Or.inl ⟨by rfl, fun w hS => ?_⟩) rfl ?_
  rotate_left
  · (subst hS; go_simp; first | done | with_reducible rfl)
  try simp only [Act.put, List.setIfInBounds_toArray, List.set_cons_zero, List.set_cons_succ]
  refine wpAnyW_take (i := 1) (oi := { dst := some 154, op := Op.move (Operand.tmp 22), type := 41, pos := "law.go:60", after := #[], guard := none }) (v := ?_) rfl (by kernel_rfl) (by kernel_rfl) (by kernel_rfl) (by kernel_rfl) (fun _ _ _ h => h) (Or.inl ⟨by rfl, fun w _ => ?_⟩) ?_
  rotate_left
  · (go_simp; first | done | with_reducible rfl)
  try simp only [Act.put, List.setIfInBounds_toArray, List.set_cons_zero, List.set_cons_succ]
  refine wpAnyW_take (i := 2) (oi := { dst := some 155, op := Op.move (Operand.tmp 25), type := 41, pos := "law.go:60", after := #[], guard := none }) (v := ?_) rfl (by kernel_rfl) (by kernel_rfl) (by kernel_rfl) (by kernel_rfl) (fun _ _ _ h => h) (Or.inl ⟨by rfl, fun w _ => ?_⟩) ?_
  rotate_left
  · (go_simp; first | done | with_reducible rfl)
  try simp only [Act.put, List.setIfInBounds_toArray, List.set_cons_zero, List.set_cons_succ]
  refine wpAnyW_ready (rs := [3]) (by kernel_rfl) (by simp) ?_
  refine (AllReadyW.cons (o := { dst := some 156, op := Op.call { callee := Callee.value (Operand.func 25), args := #[Operand.tmp 154, Operand.tmp 155], argTypes := #[41, 41] }, type := 4, pos := "law.go:60", after := #[{ on := 1, ground := Ground.data }, { on := 2, ground := Ground.data }], guard := none }) rfl (fun K hK => ?_) AllReadyW.nil)
  go_simp
  refine (sameInts_no _ _ _ HL.out).mono ?_
  rintro e w8 ⟨he8, hw8⟩
  rw [HN0.out] at he8
  subst he8
  subst w8
  refine hK.out _ _ rfl ?_
  clear hK K
  try simp only [Act.put, List.setIfInBounds_toArray, List.set_cons_zero, List.set_cons_succ]
  refine wpAnyW_take (i := 4) (oi := { dst := some 157, op := Op.move (Operand.tmp 156), type := 4, pos := "law.go:60", after := #[{ on := 3, ground := Ground.data }, { on := 3, ground := Ground.chain }], guard := none }) (v := ?_) rfl (by kernel_rfl) (by kernel_rfl) (by kernel_rfl) (by kernel_rfl) (fun _ _ _ h => h) (Or.inl ⟨by rfl, fun w _ => ?_⟩) ?_
  rotate_left
  · (go_simp; first | done | with_reducible rfl)
  try simp only [Act.put, List.setIfInBounds_toArray, List.set_cons_zero, List.set_cons_succ]
  refine wpAnyW_take (i := 5) (oi := { dst := some 158, op := Op.move (Operand.tmp 23), type := 36, pos := "law.go:60", after := #[{ on := 4, ground := Ground.guard }], guard := some (4, true) }) (v := undef) rfl (by kernel_rfl) (by kernel_rfl) (by kernel_rfl) (by kernel_rfl) (fun _ _ _ h => h) (Or.inr ⟨by rfl, rfl⟩) ?_
  try simp only [Act.put, List.setIfInBounds_toArray, List.set_cons_zero, List.set_cons_succ]
  refine wpAnyW_take (i := 6) (oi := { dst := some 159, op := Op.call { callee := Callee.value (Operand.func 13), args := #[Operand.tmp 158], argTypes := #[36] }, type := 3, pos := "law.go:60", after := #[{ on := 5, ground := Ground.data }, { on := 4, ground := Ground.chain }, { on := 4, ground := Ground.guard }], guard := some (4, true) }) (v := undef) rfl (by kernel_rfl) (by kernel_rfl) (by kernel_rfl) (by kernel_rfl) (fun _ _ _ h => h) (Or.inr ⟨by rfl, rfl⟩) ?_
  try simp only [Act.put, List.setIfInBounds_toArray, List.set_cons_zero, List.set_cons_succ]
  refine wpAnyW_take (i := 7) (oi := { dst := some 160, op := Op.move (Operand.tmp 26), type := 3, pos := "law.go:60", after := #[{ on := 4, ground := Ground.guard }, { on := 10, ground := Ground.gcOnly Departure.lateStores }], guard := some (4, true) }) (v := undef) rfl (by kernel_rfl) (by kernel_rfl) (by kernel_rfl) (by kernel_rfl) (fun _ _ _ h => h) (Or.inr ⟨by rfl, rfl⟩) ?_
  try simp only [Act.put, List.setIfInBounds_toArray, List.set_cons_zero, List.set_cons_succ]
  refine wpAnyW_take (i := 8) (oi := { dst := some 161, op := Op.binOp BinOp.eql 3 (Operand.tmp 159) (Operand.tmp 160) 3, type := 4, pos := "law.go:60", after := #[{ on := 6, ground := Ground.data }, { on := 7, ground := Ground.data }, { on := 4, ground := Ground.guard }, { on := 10, ground := Ground.gcOnly Departure.lateStores }], guard := some (4, true) }) (v := undef) rfl (by kernel_rfl) (by kernel_rfl) (by kernel_rfl) (by kernel_rfl) (fun _ _ _ h => h) (Or.inr ⟨by rfl, rfl⟩) ?_
  try simp only [Act.put, List.setIfInBounds_toArray, List.set_cons_zero, List.set_cons_succ]
  refine wpAnyW_take (i := 9) (oi := { dst := some 162, op := Op.pick (Operand.tmp 157) (Operand.tmp 161) (Operand.const (Value.bool false)), type := 4, pos := "law.go:60", after := #[{ on := 4, ground := Ground.data }, { on := 8, ground := Ground.data }, { on := 10, ground := Ground.gcOnly Departure.lateStores }], guard := none }) (v := ?_) rfl (by kernel_rfl) (by kernel_rfl) (by kernel_rfl) (by kernel_rfl) (fun _ _ _ h => h) (Or.inl ⟨by rfl, fun w _ => ?_⟩) ?_
  rotate_left
  · (go_simp; first | done | with_reducible rfl)
  try simp only [Act.put, List.setIfInBounds_toArray, List.set_cons_zero, List.set_cons_succ]
  refine wpAnyW_ready (rs := [10]) (by kernel_rfl) (by simp) ?_
  refine (AllReadyW.cons (o := { dst := none, op := Op.store 29 (Operand.tmp 6) (Operand.tmp 153), type := 0, pos := "law.go:60", after := #[{ on := 0, ground := Ground.data }, { on := 6, ground := Ground.chain }, { on := 0, ground := Ground.phase }, { on := 1, ground := Ground.textOnly Departure.lateStores }, { on := 2, ground := Ground.textOnly Departure.lateStores }, { on := 3, ground := Ground.textOnly Departure.lateStoresUnsure }, { on := 4, ground := Ground.textOnly Departure.lateStores }, { on := 5, ground := Ground.textOnly Departure.lateStores }, { on := 6, ground := Ground.textOnly Departure.lateStoresUnsure }, { on := 7, ground := Ground.textOnly Departure.lateStores }, { on := 8, ground := Ground.textOnly Departure.lateStores }, { on := 9, ground := Ground.textOnly Departure.lateStores }], guard := none }) rfl (fun K hK => ?_) AllReadyW.nil)
  go_simp
  refine hK.out _ _ trivial ?_
  clear hK K
  try simp only [Act.put, List.setIfInBounds_toArray, List.set_cons_zero, List.set_cons_succ]
  refine wpAnyW_take (i := 11) (oi := { dst := some 7, op := Op.assign (Operand.tmp 162), type := 4, pos := "law.go:60", after := #[{ on := 9, ground := Ground.data }, { on := 10, ground := Ground.chain }, { on := 0, ground := Ground.phase }, { on := 1, ground := Ground.phase }, { on := 2, ground := Ground.phase }, { on := 3, ground := Ground.phase }, { on := 4, ground := Ground.phase }, { on := 5, ground := Ground.phase }, { on := 6, ground := Ground.phase }, { on := 7, ground := Ground.phase }, { on := 8, ground := Ground.phase }, { on := 9, ground := Ground.phase }, { on := 10, ground := Ground.phase }], guard := none }) (v := ?_) rfl (by kernel_rfl) (by kernel_rfl) (by kernel_rfl) (by kernel_rfl) (fun _ _ _ h => h) (Or.inl ⟨by rfl, fun w _ => ?_⟩) ?_
  rotate_left
  · (go_simp; first | done | with_reducible rfl)
  try simp only [Act.put, List.setIfInBounds_toArray, List.set_cons_zero, List.set_cons_succ]
  refine wpAnyW_done (by kernel_rfl) ?_ _
  all_goals go_wp2
  all_goals (
    refine bodyPost_ret (v := .tuple #[.agg #[.slice none 0 0, .slice none 0 0, .slice none 0 0], .bool false]) (by simp [results, Try.results10, go_sem, *]) rfl ?_
    refine ⟨_, bs1, rfl, step_fin HB3.out HN1.out HP1.out HB2.out ?_ HS3.out HLT.out⟩
    repeat (first | exact HEX.out | exact Ex.refl _ _ | apply Ex.drewN | apply Ex.drew | apply Ex.alloc | (refine Ex.set ?_ (.inl (by simp)) _ _)))


set_option maxRecDepth 100000 in
set_option maxHeartbeats 1000000 in
theorem step_else {wr : World} {p : Nat} {bs : List Nat} {A : LL} (h : PX wr p bs A) (x : AX) (hx : AOK x) (h0 : 7 < x.d) :
    Calls Try.prog 10 #[.pointer (some ⟨p, 0, none⟩), rE, actV x] wr fun e w' => ∃ v bs', e = .returned v ∧ PX w' p bs' A ∧ Nx bs wr w' bs' := by
  obtain ⟨d, m, t, n, b⟩ := x
  unfold actV rE
  simp only at h0 ⊢
  have HP := hid h
  have HLT := hid h.lt
  clear h hx
  have d0 : (d == 0) = false := by simp; omega
  have d1 : (d == 1) = false := by simp; omega
  have d2 : (d == 2) = false := by simp; omega
  have d3 : (d == 3) = false := by simp; omega
  have d4 : (d == 4) = false := by simp; omega
  have d5 : (d == 5) = false := by simp; omega
  have d6 : (d == 6) = false := by simp; omega
  have d7 : (d == 7) = false := by simp; omega
  clear h0
  go_enter Try.func10, Try.ntmps10
  go_wp2
  all_goals (
    refine bodyPost_ret (v := .tuple #[.agg #[.slice none 0 0, .slice none 0 0, .slice none 0 0], .bool true]) (by simp [results, Try.results10, go_sem, *]) rfl ?_
    have hb : ∀ X, Bw wr X → PX X p bs A ∧ Nx bs wr X bs := fun X hx => ⟨HP.out.bw hx, Nx.of_bw hx⟩
    refine ⟨_, bs, rfl, hb _ ?_⟩
    repeat (first | exact Bw.refl _ | apply Bw.setCell | apply Bw.lay | apply Bw.alloc | apply Bw.drewN | apply Bw.drew | (simp; done) | (simp; omega)))

end Go.Proofs.Yteeeijbjokkomaa
