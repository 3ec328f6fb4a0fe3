/- The reader in memory; a byte, a number are read: contracts. -/
import Derived.Test.YtfhnhbpmiodomaaDoorWg
import Derived.Deep.QuietTactic
import Derived.BigQuiet
import Derived.BigRegion
import Derived.Laws.BitsAllLaws
set_option linter.unusedSimpArgs false
set_option linter.unusedVariables false
namespace Go.Proofs.YtfhnhbpmiodomaaDoor
open Go Go.RowKit

/-- Of what was there only the block r may have turned. -/
structure Kp (r : Nat) (w w' : World) : Prop where
  os : w'.os = w.os
  tape : w'.tape = w.tape
  output : w'.output = w.output
  size : w.heap.size ≤ w'.heap.size
  block : ∀ k, k < w.heap.size → k ≠ r → w'.heap[k]? = w.heap[k]?

theorem Kp.refl (r : Nat) (w : World) : Kp r w w := ⟨rfl, rfl, rfl, Nat.le_refl _, fun _ _ _ => rfl⟩
theorem Kp.trans {r : Nat} {a b c : World} (h : Kp r a b) (g : Kp r b c) : Kp r a c :=
  ⟨g.os.trans h.os, g.tape.trans h.tape, g.output.trans h.output, Nat.le_trans h.size g.size, fun k hk hr => (g.block k (Nat.lt_of_lt_of_le hk h.size) hr).trans (h.block k hk hr)⟩
theorem Kp.of_bw {r : Nat} {a b : World} (g : Bw a b) : Kp r a b := ⟨g.os, g.tape, g.output, g.size, fun k hk _ => g.block k hk⟩
theorem Kp.bw {r : Nat} {a b c : World} (h : Kp r a b) (g : Bw b c) : Kp r a c := h.trans (Kp.of_bw g)
theorem Kp.set {r : Nat} {a b : World} (h : Kp r a b) (j : Nat) (v : Value) : Kp r a (b.setCell ⟨r, j, none⟩ v) :=
  h.trans ⟨rfl, rfl, rfl, by simp [World.setCell], fun k hk hr => Below.heap_setCell b ⟨r, j, none⟩ v k hr⟩
theorem Kp.setNew {r g : Nat} {a b : World} (h : Kp r a b) (hg : a.heap.size ≤ g) (j : Nat) (v : Value) : Kp r a (b.setCell ⟨g, j, none⟩ v) :=
  ⟨h.os, h.tape, h.output, by simpa [World.setCell] using h.size, fun k hk hr => (Below.heap_setCell b ⟨g, j, none⟩ v k (show k ≠ g by omega)).trans (h.block k hk hr)⟩
theorem Kp.toBw {r : Nat} {a b : World} (h : Kp r a b) (hr : a.heap.size ≤ r) : Bw a b := ⟨h.os, h.tape, h.output, h.size, fun k hk => h.block k hk (by omega)⟩
theorem Kp.grown {r : Nat} {a b c : World} {q : Option Nat} (h : Kp r a b) (g : b.grownBy c q) (hq : ∀ k, q = some k → a.heap.size ≤ k) : Kp r a c :=
  ⟨g.os.trans h.os, g.tape.trans h.tape, g.output.trans h.output, Nat.le_trans h.size g.size, fun k hk hr => (g.block k (Nat.lt_of_lt_of_le hk h.size) (fun e => by have := hq k e.symm; omega)).trans (h.block k hk hr)⟩
theorem Blk.kp {w w' : World} {r g : Nat} {cur : Array Value} {e : TypeId} (h : Blk w g cur e) (k : Kp r w w') (hg : g ≠ r) : Blk w' g cur e := h.keep (k.block g h.lt hg)
theorem Bw.of_kp {r : Nat} {a b c : World} (h : Bw a b) (k : Kp r b c) (hr : a.heap.size ≤ r) : Bw a c :=
  ⟨k.os.trans h.os, k.tape.trans h.tape, k.output.trans h.output, Nat.le_trans h.size k.size, fun n hn => (k.block n (Nat.lt_of_lt_of_le hn h.size) (by omega)).trans (h.block n hn)⟩

/-- The reader in memory. -/
structure RB (base : Nat) (w : World) (r : Nat) (vb : Value) (b : List Int) (s : St) : Prop where
  k : Blk w r #[vb, .int .i64 s.1, .int .i64 s.2] 65
  sl : Sl w (fun x => x < base) vb b.length 1 (b.map (Value.int .u8))
  bytes : ∀ c ∈ b, 0 ≤ c ∧ c ≤ 255
  len : b.length ≤ 4194304
  at_ : s.1 ≤ b.length
  f : s.2 ≤ 100
  base : base ≤ r

section
variable {base r : Nat} {w w' : World} {vb : Value} {b : List Int} {s : St}

theorem RB.kp (h : RB base w r vb b s) (k : Kp r w w') (hb : w'.heap[r]? = w.heap[r]?) : RB base w' r vb b s :=
  ⟨h.k.keep hb, h.sl.keep k.size (fun x hx hl => k.block x hx (by have := h.base; omega)) (fun _ _ g => g), h.bytes, h.len, h.at_, h.f, h.base⟩
theorem RB.bw (h : RB base w r vb b s) (k : Bw w w') : RB base w' r vb b s := h.kp (Kp.of_bw k) (k.block r h.k.lt)
theorem RB.to {s' : St} (h : RB base w r vb b s) (e : s = s') : RB base w r vb b s' := e ▸ h
theorem RB.set (h : RB base w r vb b s) {s' : St} (h1 : s'.1 ≤ b.length) (h2 : s'.2 ≤ 100) (hk : Blk w' r #[vb, .int .i64 s'.1, .int .i64 s'.2] 65) (k : Kp r w w') : RB base w' r vb b s' :=
  ⟨hk, h.sl.keep k.size (fun x hx hl => k.block x hx (by have := h.base; omega)) (fun _ _ g => g), h.bytes, h.len, h1, h2, h.base⟩

theorem RB.form (h : RB base w r vb b s) : ∃ a cap, vb = .slice a b.length cap ∧ b.length ≤ cap := by
  obtain ⟨_, a, cap, e, hc, _⟩ := h.sl
  exact ⟨a, cap, e, hc.1⟩

theorem RB.at {a : Option Addr} {cap : Nat} (h : RB base w r (.slice a b.length cap) b s) {i : Nat} (hi : i < b.length) :
    ∃ g o, a = some ⟨g, o, none⟩ ∧ g < w.heap.size ∧ g ≠ r ∧ w.cell? ⟨g, o + i, none⟩ = some (.int .u8 b[i]) := by
  obtain ⟨g, o, e, hlt, hG, hc⟩ := h.sl.cellAt (by omega)
  have := h.base
  exact ⟨g, o, e, hlt, by omega, by rw [hc i (by omega)]; simp [hi]⟩

set_option maxRecDepth 100000 in
set_option maxHeartbeats 4000000 in
theorem qfail_any (e a : Nat) (h : RB base w r vb b s) (he : e ≤ 100) (ha : s.2 = 0 → a ≤ b.length) :
    Calls Tryd.prog 56 #[.pointer (some ⟨r, 0, none⟩), .int .i64 e, .int .i64 a] w fun e' w' => (∃ v, e' = .returned v) ∧ RB base w' r vb b (failS s e a) ∧ Kp r w w' := by
  have HR := hid h
  have HE := hid he
  have HA := hid ha
  obtain ⟨av, cv, e1, _⟩ := h.form
  subst e1
  have z := h.k.cell
  have zf := h.k.free
  have zl := h.k.lt
  clear h he ha
  by_cases h0 : s.2 = 0
  · have t : ((s.2 : Int) == 0) = true := by simp [h0]
    have H0 := hid h0
    clear h0
    go_enter Tryd.func56, Tryd.ntmps56
    go_wp2
    all_goals go_end0
    have hk := (HR.out.k.set 2 (.int .i64 e)).set 1 (.int .i64 a)
    have kk : Kp r w ((w.setCell ⟨r, 2, none⟩ (.int .i64 e)).setCell ⟨r, 1, none⟩ (.int .i64 a)) := ((Kp.refl r w).set 2 _).set 1 _
    refine ⟨⟨_, rfl⟩, (HR.out.set (s' := (a, e)) (HA.out H0.out) HE.out (by simpa using hk) kk).to (by simp [failS, H0.out]), kk⟩
  · have t : ((s.2 : Int) == 0) = false := by simp [h0]
    have H0 := hid h0
    clear h0
    go_enter Tryd.func56, Tryd.ntmps56
    go_wp2
    all_goals go_end0
    exact ⟨⟨_, rfl⟩, HR.out.to (by simp [failS, H0.out]), Kp.refl _ _⟩

/-- The next byte. -/
def xM (b : List Int) (s : St) : Int × St :=
  if s.2 = 0 then match b[s.1]? with
    | some c => (c, (s.1 + 1, 0))
    | none => (0, (s.1, 6))
  else (0, s)

set_option maxRecDepth 100000 in
set_option maxHeartbeats 4000000 in
theorem qnext_any (h : RB base w r vb b s) :
    Calls Tryd.prog 68 #[.pointer (some ⟨r, 0, none⟩)] w fun e w' => e = .returned (.int .u8 (xM b s).1) ∧ RB base w' r vb b (xM b s).2 ∧ Kp r w w' := by
  have HR := hid h
  obtain ⟨av, cv, e1, hcap⟩ := h.form
  subst e1
  have z := h.k.cell
  have zf := h.k.free
  have zl := h.k.lt
  have hat := h.at_
  have hln := h.len
  obtain ⟨p, f⟩ := s
  simp only at *
  have HFF := hid h.f
  clear h
  by_cases hlt : p < b.length
  · obtain ⟨g, o, e2, hg, hgr, hc⟩ := HR.out.at hlt
    subst e2
    have t1 : ((p : Int) == (b.length : Int)) = false := by simp; omega
    have hp2 : (p : Int) < (b.length : Int) := by omega
    have hp3 : (p : Int) + 1 ≤ 9223372036854775807 := by omega
    by_cases h0 : f = 0
    · subst h0
      have HX := hid (show xM b (p, 0) = (b[p], (p + 1, 0)) by simp [xM, hlt])
      rw [HX.out]
      have HP := hid hlt
      generalize b[p] = c at hc HX
      go_enter Tryd.func68, Tryd.ntmps68
      go_wp2
      go_quiet (fail)
      go_wp2
      go_quiet (fail)
      go_wp2
      all_goals go_ret
      have kk : ∀ m, Kp r w ((w.setCell ⟨r, 1, none⟩ (.int .i64 ((p : Int) + 1))).drewN m) := fun m => ((Kp.refl r w).set 1 _).bw (bw_drewN _ _)
      exact ⟨rfl, HR.out.set (s' := (p + 1, 0)) HP.out (by simp) (by simpa using (HR.out.k.set 1 (.int .i64 ((p : Int) + 1))).drewN _) (kk _), kk _⟩
    · have t2 : ((f : Int) != 0) = true := by simp [h0]
      have HX := hid (show xM b (p, f) = (0, (p, f)) by simp [xM, h0])
      rw [HX.out]
      go_enter Tryd.func68, Tryd.ntmps68
      go_wp2
      go_quiet (fail)
      go_wp2
      all_goals go_ret
      all_goals exact ⟨rfl, HR.out.bw (by repeat (first | exact Bw.refl _ | apply Bw.drewN | apply Bw.drew)), Kp.of_bw (by repeat (first | exact Bw.refl _ | apply Bw.drewN | apply Bw.drew))⟩
  · obtain rfl : p = b.length := by omega
    have t1 : ((b.length : Int) == (b.length : Int)) = true := by simp
    by_cases h0 : f = 0
    · subst h0
      have HX := hid (show xM b (b.length, 0) = (0, (b.length, 6)) by simp [xM])
      rw [HX.out]
      go_enter Tryd.func68, Tryd.ntmps68
      go_wp2
      go_quiet (fail)
      go_wp2_with (first
        | (go_at_call 56; refine (qfail_any 6 b.length (HR.out.bw (by repeat (first | exact Bw.refl _ | apply Bw.drewN | apply Bw.drew))) (by decide) (fun _ => Nat.le_refl _)).mono ?_; rintro e w1 ⟨⟨_, rfl⟩, hr1, hk1⟩; have HK1 := hid (show Kp r w w1 from Kp.trans (Kp.of_bw (by repeat (first | exact Bw.refl _ | apply Bw.drewN | apply Bw.drew))) hk1); have HR1 := hid hr1; have y := hr1.k.cell; have yl := hr1.k.lt; simp only [failS, if_true] at y; clear hr1 hk1)
        | fail)
      all_goals go_ret
      all_goals exact ⟨rfl, HR1.out, HK1.out⟩
    · have t2 : ((f : Int) != 0) = true := by simp [h0]
      have HX := hid (show xM b (b.length, f) = (0, (b.length, f)) by simp [xM, h0])
      rw [HX.out]
      have HF := hid (show failS (b.length, f) 6 b.length = (b.length, f) by simp [failS, h0])
      go_enter Tryd.func68, Tryd.ntmps68
      go_wp2
      go_quiet (fail)
      go_wp2_with (first
        | (go_at_call 56; refine (qfail_any 6 b.length (HR.out.bw (by repeat (first | exact Bw.refl _ | apply Bw.drewN | apply Bw.drew))) (by decide) (fun _ => Nat.le_refl _)).mono ?_; rintro e w1 ⟨⟨_, rfl⟩, hr1, hk1⟩; have HK1 := hid (show Kp r w w1 from Kp.trans (Kp.of_bw (by repeat (first | exact Bw.refl _ | apply Bw.drewN | apply Bw.drew))) hk1); rw [HF.out] at hr1; have HR1 := hid hr1; have y := hr1.k.cell; have yl := hr1.k.lt; simp only at y; clear hr1 hk1)
        | fail)
      all_goals go_ret
      all_goals exact ⟨rfl, HR1.out, HK1.out⟩

end

end Go.Proofs.YtfhnhbpmiodomaaDoor
