/- A step, the document's side having no monitor: contracts. -/
import Derived.Test.YteeeijbjokkomaaRa
import Derived.Test.YteeeijbjokkomaaSb
import Derived.Test.YteeeijbjokkomaaFr
set_option linter.unusedSimpArgs false
set_option linter.unusedVariables false
namespace Go.Proofs.Yteeeijbjokkomaa
open Go Go.RowKit

theorem box3 {w : World} {g : Nat} {a b c : Value} {e : TypeId} (h : Blk w g #[a, b, c] e) : w.cell? ⟨g, 0, none⟩ = some a ∧ w.cell? ⟨g, 1, none⟩ = some b ∧ w.cell? ⟨g, 2, none⟩ = some c ∧ g < w.heap.size := ⟨h.cell 0, h.cell 1, h.cell 2, h.lt⟩
theorem box5 {w : World} {g : Nat} {a b c d f : Value} {e : TypeId} (h : Blk w g #[a, b, c, d, f] e) : w.cell? ⟨g, 0, none⟩ = some a ∧ w.cell? ⟨g, 1, none⟩ = some b ∧ w.cell? ⟨g, 2, none⟩ = some c ∧ w.cell? ⟨g, 3, none⟩ = some d ∧ w.cell? ⟨g, 4, none⟩ = some f ∧ g < w.heap.size := ⟨h.cell 0, h.cell 1, h.cell 2, h.cell 3, h.cell 4, h.lt⟩

theorem PX.ex {w w' : World} {p : Nat} {bs cs : List Nat} {A : LL} (h : PX w p bs A) (k : Ex cs w w') (hn : ∀ b ∈ bs, b ∉ cs) : PX w' p bs A := by
  obtain ⟨mv, wv, kv, R, h⟩ := h
  exact ⟨mv, wv, kv, R, h.keep k.size (fun b hb => k.block b (h.lt b hb) (hn b hb))⟩
theorem PX.lt {w : World} {p : Nat} {bs : List Nat} {A : LL} (h : PX w p bs A) : ∀ b ∈ bs, b < w.heap.size := by
  obtain ⟨mv, wv, kv, R, h⟩ := h
  exact h.lt

theorem step_fin {wr w3 w1 w2 W' : World} {p : Nat} {bs bs1 : List Nat} {A' : LL} (h3 : Bw wr w3) (hn : Nx bs w3 w1 bs1) (hp : PX w1 p bs1 A') (hb : Bw w1 w2) (hx : Ex [wr.heap.size + 1 + 1] w2 W') (hs : w3.heap.size = wr.heap.size + 1 + 1 + 1) (hlt : ∀ b ∈ bs, b < wr.heap.size) : PX W' p bs1 A' ∧ Nx bs wr W' bs1 := by
  have hN := ((Nx.of_bw h3).trans hn).bw hb
  refine ⟨(hp.bw hb).ex hx (fun b hb1 hm => ?_), ⟨⟨hx.os.trans hN.ex.os, hx.tape.trans hN.ex.tape, hx.output.trans hN.ex.output, Nat.le_trans hN.ex.size hx.size, fun b hb1 hb2 => (hx.block b (Nat.lt_of_lt_of_le hb1 hN.ex.size) (fun hm => ?_)).trans (hN.ex.block b hb1 hb2)⟩, hN.new⟩⟩
  · simp at hm
    rcases hn.new b hb1 with h1 | h1
    · have := hlt b h1; omega
    · omega
  · simp at hm; omega

/-- What an act makes of the monitors. -/
def stepA (A : LL) (x : AX) : LL :=
  if x.d = 1 then lockA A x.m x.t else if x.d = 2 then unlockA A x.m x.t else if x.d = 3 then waitA A x.m x.t x.n else if x.d = 4 then notifyA A x.m x.t x.b else if x.d = 5 then expireA A x.n else if x.d = 6 then relockA A x.t else if x.d = 7 then dropA A x.t else A

set_option maxRecDepth 100000 in
set_option maxHeartbeats 2000000 in
theorem step_lock {wr : World} {p : Nat} {bs : List Nat} {A : LL} (h : PX wr p bs A) (x : AX) (hx : AOK x) (hbig : A.W.length + A.K.length < 1000) (hd : x.d = 1) :
    Calls Try.prog 10 #[.pointer (some ⟨p, 0, none⟩), rE, actV x] wr fun e w' => ∃ v bs', e = .returned v ∧ PX w' p bs' (lockA A x.m x.t) ∧ Nx bs wr w' bs' := by
  obtain ⟨d, m, t, n, b⟩ := x
  unfold actV rE
  simp only
  have HX := hid hx
  have HB3 := hid (show Bw wr (((wr.alloc (.cells #[.slice none 0 0, .slice none 0 0, .slice none 0 0] 29)).alloc (.cells #[.int .i64 d, .int .i64 m, .int .i64 t, .int .i64 n, .bool b] 33)).alloc (.cells #[.slice none 0 0, .slice none 0 0, .slice none 0 0] 29)) from Bw.alloc (Bw.alloc (Bw.alloc (Bw.refl _) _) _) _)
  have HP := hid (h.bw HB3.out)
  have HBG := hid hbig
  have HLT := hid h.lt
  have HBP := hid (show Blk (((wr.alloc (.cells #[.slice none 0 0, .slice none 0 0, .slice none 0 0] 29)).alloc (.cells #[.int .i64 d, .int .i64 m, .int .i64 t, .int .i64 n, .bool b] 33)).alloc (.cells #[.slice none 0 0, .slice none 0 0, .slice none 0 0] 29)) wr.heap.size #[.slice none 0 0, .slice none 0 0, .slice none 0 0] 29 from ((Blk.new wr _ _).alloc _).alloc _)
  have HBA := hid (show Blk (((wr.alloc (.cells #[.slice none 0 0, .slice none 0 0, .slice none 0 0] 29)).alloc (.cells #[.int .i64 d, .int .i64 m, .int .i64 t, .int .i64 n, .bool b] 33)).alloc (.cells #[.slice none 0 0, .slice none 0 0, .slice none 0 0] 29)) (wr.heap.size + 1) #[.int .i64 d, .int .i64 m, .int .i64 t, .int .i64 n, .bool b] 33 from (Blk.newAt _ _ _ _ (by simp only [World.size_alloc])).alloc _)
  have HBR := hid (show Blk (((wr.alloc (.cells #[.slice none 0 0, .slice none 0 0, .slice none 0 0] 29)).alloc (.cells #[.int .i64 d, .int .i64 m, .int .i64 t, .int .i64 n, .bool b] 33)).alloc (.cells #[.slice none 0 0, .slice none 0 0, .slice none 0 0] 29)) (wr.heap.size + 1 + 1) #[.slice none 0 0, .slice none 0 0, .slice none 0 0] 29 from Blk.newAt _ _ _ _ (by simp only [World.size_alloc]))
  have HS3 := hid (show (((wr.alloc (.cells #[.slice none 0 0, .slice none 0 0, .slice none 0 0] 29)).alloc (.cells #[.int .i64 d, .int .i64 m, .int .i64 t, .int .i64 n, .bool b] 33)).alloc (.cells #[.slice none 0 0, .slice none 0 0, .slice none 0 0] 29)).heap.size = wr.heap.size + 1 + 1 + 1 by simp only [World.size_alloc])
  obtain ⟨E, hE⟩ : ∃ E, lockE A m t = E := ⟨_, rfl⟩
  have HE := hid hE
  clear hE h hx hbig
  simp only at hd
  subst hd
  go_enter Try.func10, Try.ntmps10
  go_wp2_with (first
    | (go_at_call 21; refine (Lock_any HP.out m t).mono ?_; rintro e w1 ⟨he, hp1, hn1⟩; rw [HE.out] at he; subst he; have BP := HBP.out.ex hn1.ex (fun hm => by have := HLT.out _ hm; omega); have BA := HBA.out.ex hn1.ex (fun hm => by have := HLT.out _ hm; omega); have BR := HBR.out.ex hn1.ex (fun hm => by have := HLT.out _ hm; omega); obtain ⟨p0, p1, p2, pl⟩ := box3 BP; obtain ⟨a0, a1, a2, a3, a4, al⟩ := box5 BA; have HBR1 := hid BR; have HN1 := hid hn1; have HP1 := hid hp1; clear BP BA BR hn1 hp1)
    | (go_at_call 27; refine (rLock_e m t _).mono ?_; rintro e w2 ⟨he2, hb2⟩; unfold rE at he2; subst he2; obtain ⟨r0, r1, r2, rl⟩ := box3 (HBR1.out.bw hb2); have rf := (HBR1.out.bw hb2).free; have HB2 := hid hb2; clear hb2)
    | fail)
  go_region_with (go_at_call 13; refine (num_any _ _).mono ?_; rintro e w9 ⟨rfl, hw9⟩; subst w9)
  all_goals go_wp2
  all_goals (
    refine bodyPost_ret (v := .tuple #[.agg #[.slice none 0 0, .slice none 0 0, .slice none 0 0], .bool (E == 1)]) (by simp [results, Try.results10, go_sem, *]) rfl ?_
    refine ⟨_, bs, rfl, step_fin HB3.out HN1.out HP1.out HB2.out ?_ HS3.out HLT.out⟩
    repeat (first | exact Ex.refl _ _ | apply Ex.drewN | apply Ex.drew | apply Ex.alloc | (refine Ex.set ?_ (.inl (by simp)) _ _)))

set_option maxRecDepth 100000 in
set_option maxHeartbeats 2000000 in
theorem step_unlock {wr : World} {p : Nat} {bs : List Nat} {A : LL} (h : PX wr p bs A) (x : AX) (hx : AOK x) (hbig : A.W.length + A.K.length < 1000) (hd : x.d = 2) :
    Calls Try.prog 10 #[.pointer (some ⟨p, 0, none⟩), rE, actV x] wr fun e w' => ∃ v bs', e = .returned v ∧ PX w' p bs' (unlockA A x.m x.t) ∧ Nx bs wr w' bs' := by
  obtain ⟨d, m, t, n, b⟩ := x
  unfold actV rE
  simp only
  have HX := hid hx
  have HB3 := hid (show Bw wr (((wr.alloc (.cells #[.slice none 0 0, .slice none 0 0, .slice none 0 0] 29)).alloc (.cells #[.int .i64 d, .int .i64 m, .int .i64 t, .int .i64 n, .bool b] 33)).alloc (.cells #[.slice none 0 0, .slice none 0 0, .slice none 0 0] 29)) from Bw.alloc (Bw.alloc (Bw.alloc (Bw.refl _) _) _) _)
  have HP := hid (h.bw HB3.out)
  have HBG := hid hbig
  have HLT := hid h.lt
  have HBP := hid (show Blk (((wr.alloc (.cells #[.slice none 0 0, .slice none 0 0, .slice none 0 0] 29)).alloc (.cells #[.int .i64 d, .int .i64 m, .int .i64 t, .int .i64 n, .bool b] 33)).alloc (.cells #[.slice none 0 0, .slice none 0 0, .slice none 0 0] 29)) wr.heap.size #[.slice none 0 0, .slice none 0 0, .slice none 0 0] 29 from ((Blk.new wr _ _).alloc _).alloc _)
  have HBA := hid (show Blk (((wr.alloc (.cells #[.slice none 0 0, .slice none 0 0, .slice none 0 0] 29)).alloc (.cells #[.int .i64 d, .int .i64 m, .int .i64 t, .int .i64 n, .bool b] 33)).alloc (.cells #[.slice none 0 0, .slice none 0 0, .slice none 0 0] 29)) (wr.heap.size + 1) #[.int .i64 d, .int .i64 m, .int .i64 t, .int .i64 n, .bool b] 33 from (Blk.newAt _ _ _ _ (by simp only [World.size_alloc])).alloc _)
  have HBR := hid (show Blk (((wr.alloc (.cells #[.slice none 0 0, .slice none 0 0, .slice none 0 0] 29)).alloc (.cells #[.int .i64 d, .int .i64 m, .int .i64 t, .int .i64 n, .bool b] 33)).alloc (.cells #[.slice none 0 0, .slice none 0 0, .slice none 0 0] 29)) (wr.heap.size + 1 + 1) #[.slice none 0 0, .slice none 0 0, .slice none 0 0] 29 from Blk.newAt _ _ _ _ (by simp only [World.size_alloc]))
  have HS3 := hid (show (((wr.alloc (.cells #[.slice none 0 0, .slice none 0 0, .slice none 0 0] 29)).alloc (.cells #[.int .i64 d, .int .i64 m, .int .i64 t, .int .i64 n, .bool b] 33)).alloc (.cells #[.slice none 0 0, .slice none 0 0, .slice none 0 0] 29)).heap.size = wr.heap.size + 1 + 1 + 1 by simp only [World.size_alloc])
  obtain ⟨E, hE⟩ : ∃ E, hasE A m t = E := ⟨_, rfl⟩
  have HE := hid hE
  clear hE h hx hbig
  simp only at hd
  subst hd
  go_enter Try.func10, Try.ntmps10
  go_wp2_with (first
    | (go_at_call 22; refine (Unlock_any HP.out m t).mono ?_; rintro e w1 ⟨he, hp1, hn1⟩; rw [HE.out] at he; subst he; have BP := HBP.out.ex hn1.ex (fun hm => by have := HLT.out _ hm; omega); have BA := HBA.out.ex hn1.ex (fun hm => by have := HLT.out _ hm; omega); have BR := HBR.out.ex hn1.ex (fun hm => by have := HLT.out _ hm; omega); obtain ⟨p0, p1, p2, pl⟩ := box3 BP; obtain ⟨a0, a1, a2, a3, a4, al⟩ := box5 BA; have HBR1 := hid BR; have HN1 := hid hn1; have HP1 := hid hp1; clear BP BA BR hn1 hp1)
    | (go_at_call 28; refine (rUnlock_e m t _).mono ?_; rintro e w2 ⟨he2, hb2⟩; unfold rE at he2; subst he2; obtain ⟨r0, r1, r2, rl⟩ := box3 (HBR1.out.bw hb2); have rf := (HBR1.out.bw hb2).free; have HB2 := hid hb2; clear hb2)
    | fail)
  go_region_with (go_at_call 13; refine (num_any _ _).mono ?_; rintro e w9 ⟨rfl, hw9⟩; subst w9)
  all_goals go_wp2
  all_goals (
    refine bodyPost_ret (v := .tuple #[.agg #[.slice none 0 0, .slice none 0 0, .slice none 0 0], .bool (E == 1)]) (by simp [results, Try.results10, go_sem, *]) rfl ?_
    refine ⟨_, bs, rfl, step_fin HB3.out HN1.out HP1.out HB2.out ?_ HS3.out HLT.out⟩
    repeat (first | exact Ex.refl _ _ | apply Ex.drewN | apply Ex.drew | apply Ex.alloc | (refine Ex.set ?_ (.inl (by simp)) _ _)))

set_option maxRecDepth 100000 in
set_option maxHeartbeats 2000000 in
theorem step_wait {wr : World} {p : Nat} {bs : List Nat} {A : LL} (h : PX wr p bs A) (x : AX) (hx : AOK x) (hbig : A.W.length + A.K.length < 1000) (hd : x.d = 3) :
    Calls Try.prog 10 #[.pointer (some ⟨p, 0, none⟩), rE, actV x] wr fun e w' => ∃ v bs', e = .returned v ∧ PX w' p bs' (waitA A x.m x.t x.n) ∧ Nx bs wr w' bs' := by
  obtain ⟨d, m, t, n, b⟩ := x
  unfold actV rE
  simp only
  have HX := hid hx
  have HB3 := hid (show Bw wr (((wr.alloc (.cells #[.slice none 0 0, .slice none 0 0, .slice none 0 0] 29)).alloc (.cells #[.int .i64 d, .int .i64 m, .int .i64 t, .int .i64 n, .bool b] 33)).alloc (.cells #[.slice none 0 0, .slice none 0 0, .slice none 0 0] 29)) from Bw.alloc (Bw.alloc (Bw.alloc (Bw.refl _) _) _) _)
  have HP := hid (h.bw HB3.out)
  have HBG := hid hbig
  have HLT := hid h.lt
  have HBP := hid (show Blk (((wr.alloc (.cells #[.slice none 0 0, .slice none 0 0, .slice none 0 0] 29)).alloc (.cells #[.int .i64 d, .int .i64 m, .int .i64 t, .int .i64 n, .bool b] 33)).alloc (.cells #[.slice none 0 0, .slice none 0 0, .slice none 0 0] 29)) wr.heap.size #[.slice none 0 0, .slice none 0 0, .slice none 0 0] 29 from ((Blk.new wr _ _).alloc _).alloc _)
  have HBA := hid (show Blk (((wr.alloc (.cells #[.slice none 0 0, .slice none 0 0, .slice none 0 0] 29)).alloc (.cells #[.int .i64 d, .int .i64 m, .int .i64 t, .int .i64 n, .bool b] 33)).alloc (.cells #[.slice none 0 0, .slice none 0 0, .slice none 0 0] 29)) (wr.heap.size + 1) #[.int .i64 d, .int .i64 m, .int .i64 t, .int .i64 n, .bool b] 33 from (Blk.newAt _ _ _ _ (by simp only [World.size_alloc])).alloc _)
  have HBR := hid (show Blk (((wr.alloc (.cells #[.slice none 0 0, .slice none 0 0, .slice none 0 0] 29)).alloc (.cells #[.int .i64 d, .int .i64 m, .int .i64 t, .int .i64 n, .bool b] 33)).alloc (.cells #[.slice none 0 0, .slice none 0 0, .slice none 0 0] 29)) (wr.heap.size + 1 + 1) #[.slice none 0 0, .slice none 0 0, .slice none 0 0] 29 from Blk.newAt _ _ _ _ (by simp only [World.size_alloc]))
  have HS3 := hid (show (((wr.alloc (.cells #[.slice none 0 0, .slice none 0 0, .slice none 0 0] 29)).alloc (.cells #[.int .i64 d, .int .i64 m, .int .i64 t, .int .i64 n, .bool b] 33)).alloc (.cells #[.slice none 0 0, .slice none 0 0, .slice none 0 0] 29)).heap.size = wr.heap.size + 1 + 1 + 1 by simp only [World.size_alloc])
  obtain ⟨E, hE⟩ : ∃ E, waitE A m t n = E := ⟨_, rfl⟩
  have HE := hid hE
  clear hE h hx hbig
  simp only at hd
  subst hd
  go_enter Try.func10, Try.ntmps10
  go_wp2_with (first
    | (go_at_call 23; refine (Wait_any HP.out m t n HX.out.n HBG.out).mono ?_; rintro e w1 ⟨bs1, he, hp1, hn1⟩; rw [HE.out] at he; subst he; have BP := HBP.out.ex hn1.ex (fun hm => by have := HLT.out _ hm; omega); have BA := HBA.out.ex hn1.ex (fun hm => by have := HLT.out _ hm; omega); have BR := HBR.out.ex hn1.ex (fun hm => by have := HLT.out _ hm; omega); obtain ⟨p0, p1, p2, pl⟩ := box3 BP; obtain ⟨a0, a1, a2, a3, a4, al⟩ := box5 BA; have HBR1 := hid BR; have HN1 := hid hn1; have HP1 := hid hp1; clear BP BA BR hn1 hp1)
    | (go_at_call 29; refine (rWait_e m t n _).mono ?_; rintro e w2 ⟨he2, hb2⟩; unfold rE at he2; subst he2; obtain ⟨r0, r1, r2, rl⟩ := box3 (HBR1.out.bw hb2); have rf := (HBR1.out.bw hb2).free; have HB2 := hid hb2; clear hb2)
    | fail)
  go_region_with (go_at_call 13; refine (num_any _ _).mono ?_; rintro e w9 ⟨rfl, hw9⟩; subst w9)
  all_goals go_wp2
  all_goals (
    refine bodyPost_ret (v := .tuple #[.agg #[.slice none 0 0, .slice none 0 0, .slice none 0 0], .bool (E == 1)]) (by simp [results, Try.results10, go_sem, *]) rfl ?_
    refine ⟨_, bs1, rfl, step_fin HB3.out HN1.out HP1.out HB2.out ?_ HS3.out HLT.out⟩
    repeat (first | exact Ex.refl _ _ | apply Ex.drewN | apply Ex.drew | apply Ex.alloc | (refine Ex.set ?_ (.inl (by simp)) _ _)))

set_option maxRecDepth 100000 in
set_option maxHeartbeats 2000000 in
theorem step_relock {wr : World} {p : Nat} {bs : List Nat} {A : LL} (h : PX wr p bs A) (x : AX) (hx : AOK x) (hbig : A.W.length + A.K.length < 1000) (hd : x.d = 6) :
    Calls Try.prog 10 #[.pointer (some ⟨p, 0, none⟩), rE, actV x] wr fun e w' => ∃ v bs', e = .returned v ∧ PX w' p bs' (relockA A x.t) ∧ Nx bs wr w' bs' := by
  obtain ⟨d, m, t, n, b⟩ := x
  unfold actV rE
  simp only
  have HX := hid hx
  have HB3 := hid (show Bw wr (((wr.alloc (.cells #[.slice none 0 0, .slice none 0 0, .slice none 0 0] 29)).alloc (.cells #[.int .i64 d, .int .i64 m, .int .i64 t, .int .i64 n, .bool b] 33)).alloc (.cells #[.slice none 0 0, .slice none 0 0, .slice none 0 0] 29)) from Bw.alloc (Bw.alloc (Bw.alloc (Bw.refl _) _) _) _)
  have HP := hid (h.bw HB3.out)
  have HBG := hid hbig
  have HLT := hid h.lt
  have HBP := hid (show Blk (((wr.alloc (.cells #[.slice none 0 0, .slice none 0 0, .slice none 0 0] 29)).alloc (.cells #[.int .i64 d, .int .i64 m, .int .i64 t, .int .i64 n, .bool b] 33)).alloc (.cells #[.slice none 0 0, .slice none 0 0, .slice none 0 0] 29)) wr.heap.size #[.slice none 0 0, .slice none 0 0, .slice none 0 0] 29 from ((Blk.new wr _ _).alloc _).alloc _)
  have HBA := hid (show Blk (((wr.alloc (.cells #[.slice none 0 0, .slice none 0 0, .slice none 0 0] 29)).alloc (.cells #[.int .i64 d, .int .i64 m, .int .i64 t, .int .i64 n, .bool b] 33)).alloc (.cells #[.slice none 0 0, .slice none 0 0, .slice none 0 0] 29)) (wr.heap.size + 1) #[.int .i64 d, .int .i64 m, .int .i64 t, .int .i64 n, .bool b] 33 from (Blk.newAt _ _ _ _ (by simp only [World.size_alloc])).alloc _)
  have HBR := hid (show Blk (((wr.alloc (.cells #[.slice none 0 0, .slice none 0 0, .slice none 0 0] 29)).alloc (.cells #[.int .i64 d, .int .i64 m, .int .i64 t, .int .i64 n, .bool b] 33)).alloc (.cells #[.slice none 0 0, .slice none 0 0, .slice none 0 0] 29)) (wr.heap.size + 1 + 1) #[.slice none 0 0, .slice none 0 0, .slice none 0 0] 29 from Blk.newAt _ _ _ _ (by simp only [World.size_alloc]))
  have HS3 := hid (show (((wr.alloc (.cells #[.slice none 0 0, .slice none 0 0, .slice none 0 0] 29)).alloc (.cells #[.int .i64 d, .int .i64 m, .int .i64 t, .int .i64 n, .bool b] 33)).alloc (.cells #[.slice none 0 0, .slice none 0 0, .slice none 0 0] 29)).heap.size = wr.heap.size + 1 + 1 + 1 by simp only [World.size_alloc])
  obtain ⟨E, hE⟩ : ∃ E, relE A t = E := ⟨_, rfl⟩
  have HE := hid hE
  clear hE h hx hbig
  simp only at hd
  subst hd
  go_enter Try.func10, Try.ntmps10
  go_wp2_with (first
    | (go_at_call 24; refine (Relock_any HP.out t).mono ?_; rintro e w1 ⟨bs1, he, hp1, hn1⟩; rw [HE.out] at he; subst he; have BP := HBP.out.ex hn1.ex (fun hm => by have := HLT.out _ hm; omega); have BA := HBA.out.ex hn1.ex (fun hm => by have := HLT.out _ hm; omega); have BR := HBR.out.ex hn1.ex (fun hm => by have := HLT.out _ hm; omega); obtain ⟨p0, p1, p2, pl⟩ := box3 BP; obtain ⟨a0, a1, a2, a3, a4, al⟩ := box5 BA; have HBR1 := hid BR; have HN1 := hid hn1; have HP1 := hid hp1; clear BP BA BR hn1 hp1)
    | (go_at_call 32; refine (rRelock_e t _).mono ?_; rintro e w2 ⟨k2, he2, hb2⟩; unfold rE at he2; subst he2; obtain ⟨r0, r1, r2, rl⟩ := box3 (HBR1.out.bw hb2); have rf := (HBR1.out.bw hb2).free; have HB2 := hid hb2; clear hb2)
    | fail)
  go_region_with (go_at_call 13; refine (num_any _ _).mono ?_; rintro e w9 ⟨rfl, hw9⟩; subst w9)
  all_goals go_wp2
  all_goals (
    refine bodyPost_ret (v := .tuple #[.agg #[.slice none 0 0, .slice none 0 0, .slice none 0 0], .bool (E == k2)]) (by simp [results, Try.results10, go_sem, *]) rfl ?_
    refine ⟨_, bs1, rfl, step_fin HB3.out HN1.out HP1.out HB2.out ?_ HS3.out HLT.out⟩
    repeat (first | exact Ex.refl _ _ | apply Ex.drewN | apply Ex.drew | apply Ex.alloc | (refine Ex.set ?_ (.inl (by simp)) _ _)))

set_option maxRecDepth 100000 in
set_option maxHeartbeats 2000000 in
theorem step_drop {wr : World} {p : Nat} {bs : List Nat} {A : LL} (h : PX wr p bs A) (x : AX) (hx : AOK x) (hbig : A.W.length + A.K.length < 1000) (hd : x.d = 7) :
    Calls Try.prog 10 #[.pointer (some ⟨p, 0, none⟩), rE, actV x] wr fun e w' => ∃ v bs', e = .returned v ∧ PX w' p bs' (dropA A x.t) ∧ Nx bs wr w' bs' := by
  obtain ⟨d, m, t, n, b⟩ := x
  unfold actV rE
  simp only
  have HX := hid hx
  have HB3 := hid (show Bw wr (((wr.alloc (.cells #[.slice none 0 0, .slice none 0 0, .slice none 0 0] 29)).alloc (.cells #[.int .i64 d, .int .i64 m, .int .i64 t, .int .i64 n, .bool b] 33)).alloc (.cells #[.slice none 0 0, .slice none 0 0, .slice none 0 0] 29)) from Bw.alloc (Bw.alloc (Bw.alloc (Bw.refl _) _) _) _)
  have HP := hid (h.bw HB3.out)
  have HBG := hid hbig
  have HLT := hid h.lt
  have HBP := hid (show Blk (((wr.alloc (.cells #[.slice none 0 0, .slice none 0 0, .slice none 0 0] 29)).alloc (.cells #[.int .i64 d, .int .i64 m, .int .i64 t, .int .i64 n, .bool b] 33)).alloc (.cells #[.slice none 0 0, .slice none 0 0, .slice none 0 0] 29)) wr.heap.size #[.slice none 0 0, .slice none 0 0, .slice none 0 0] 29 from ((Blk.new wr _ _).alloc _).alloc _)
  have HBA := hid (show Blk (((wr.alloc (.cells #[.slice none 0 0, .slice none 0 0, .slice none 0 0] 29)).alloc (.cells #[.int .i64 d, .int .i64 m, .int .i64 t, .int .i64 n, .bool b] 33)).alloc (.cells #[.slice none 0 0, .slice none 0 0, .slice none 0 0] 29)) (wr.heap.size + 1) #[.int .i64 d, .int .i64 m, .int .i64 t, .int .i64 n, .bool b] 33 from (Blk.newAt _ _ _ _ (by simp only [World.size_alloc])).alloc _)
  have HBR := hid (show Blk (((wr.alloc (.cells #[.slice none 0 0, .slice none 0 0, .slice none 0 0] 29)).alloc (.cells #[.int .i64 d, .int .i64 m, .int .i64 t, .int .i64 n, .bool b] 33)).alloc (.cells #[.slice none 0 0, .slice none 0 0, .slice none 0 0] 29)) (wr.heap.size + 1 + 1) #[.slice none 0 0, .slice none 0 0, .slice none 0 0] 29 from Blk.newAt _ _ _ _ (by simp only [World.size_alloc]))
  have HS3 := hid (show (((wr.alloc (.cells #[.slice none 0 0, .slice none 0 0, .slice none 0 0] 29)).alloc (.cells #[.int .i64 d, .int .i64 m, .int .i64 t, .int .i64 n, .bool b] 33)).alloc (.cells #[.slice none 0 0, .slice none 0 0, .slice none 0 0] 29)).heap.size = wr.heap.size + 1 + 1 + 1 by simp only [World.size_alloc])
  clear h hx hbig
  simp only at hd
  subst hd
  go_enter Try.func10, Try.ntmps10
  go_wp2_with (first
    | (go_at_call 18; refine (Drop_any HP.out t).mono ?_; rintro e w1 ⟨bs1, he, hp1, hn1⟩; subst he; have BP := HBP.out.ex hn1.ex (fun hm => by have := HLT.out _ hm; omega); have BA := HBA.out.ex hn1.ex (fun hm => by have := HLT.out _ hm; omega); have BR := HBR.out.ex hn1.ex (fun hm => by have := HLT.out _ hm; omega); obtain ⟨p0, p1, p2, pl⟩ := box3 BP; obtain ⟨a0, a1, a2, a3, a4, al⟩ := box5 BA; have HBR1 := hid BR; have HN1 := hid hn1; have HP1 := hid hp1; clear BP BA BR hn1 hp1)
    | (go_at_call 33; refine (rDrop_e t _).mono ?_; rintro e w2 ⟨he2, hb2⟩; unfold rE at he2; subst he2; obtain ⟨r0, r1, r2, rl⟩ := box3 (HBR1.out.bw hb2); have rf := (HBR1.out.bw hb2).free; have HB2 := hid hb2; clear hb2)
    | fail)
  all_goals (
    refine bodyPost_ret (v := .tuple #[.agg #[.slice none 0 0, .slice none 0 0, .slice none 0 0], .bool true]) (by simp [results, Try.results10, go_sem, *]) rfl ?_
    refine ⟨_, bs1, rfl, step_fin HB3.out HN1.out HP1.out HB2.out ?_ HS3.out HLT.out⟩
    repeat (first | exact Ex.refl _ _ | apply Ex.drewN | apply Ex.drew | apply Ex.alloc | (refine Ex.set ?_ (.inl (by simp)) _ _)))

end Go.Proofs.Yteeeijbjokkomaa
