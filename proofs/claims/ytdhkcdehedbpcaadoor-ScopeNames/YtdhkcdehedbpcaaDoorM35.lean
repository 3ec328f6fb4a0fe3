/- The resolver: plain; what its functions promise at so many steps; places go forth. · The resolver: block, attempt. · The resolver: attempt, variable, named, loop. -/
import Derived.Test.YtdhkcdehedbpcaaDoorM34
import Derived.Test.YtdhkcdehedbpcaaDoorM32
set_option linter.unusedSimpArgs false
set_option linter.unusedVariables false
namespace Go.Proofs.YtdhkcdehedbpcaaDoor
open Go Go.RowKit

section
variable {L : List ANode} {A : ByteArray → Option Int}
theorem zglobal_next (z : ZS) (i : Nat) : (zglobal L A z i).next = z.next := by
 unfold zglobal
 split
 ·exact zfail_next _ _ _
 ·split
  ·exact zfail_next _ _ _
  ·rfl
theorem zslot_next {z z' : ZS} {m : ByteArray → Option Int} {i : Nat} (h : zslot L z m i = some z') : z'.next = z.next := by
 unfold zslot at h
 split at h
 ·cases h
 ·split at h
  ·cases h; exact zfail_next _ _ _
  ·split at h
   ·cases h; exact zfail_next _ _ _
   ·split at h
    ·cases h; rfl
    ·cases h
theorem zdeclare_next {z z' : ZS} {i : Nat} (h : zdeclare L A z i = some z') : z'.next = z.next := by
 unfold zdeclare at h
 split at h
 ·split at h
  ·cases h; exact zfail_next _ _ _
  ·split at h
   ·cases h; exact zglobal_next _ _
   ·exact zslot_next h
 ·cases h
theorem zshow_next {z z' : ZS} {i : Nat} (h : zshow L z i = some z') : z'.next = z.next := by
 unfold zshow at h
 split at h
 ·cases h
 ·split at h
  ·cases h; rfl
  ·split at h
   ·cases h
   ·split at h
    ·cases h; rfl
    ·cases h
theorem ztake_next : ∀ (t : Nat) {z z' : ZS} {i g d : Nat} {k : Int}, ztake t z i g d = some (k, z') → z'.next = z.next
 | 0, z, z', i, g, d, k, h => by cases h
 | t + 1, z, z', i, g, d, k, h => by
  unfold ztake at h
  cases hf : z.funs[g]? with
  | none => rw [hf] at h; simp at h
  | some f =>
  cases hd : z.declared[d]? with
  | none => rw [hf, hd] at h; simp at h
  | some e =>
  rw [hf, hd] at h
  simp only at h
  cases hc : f.cm d with
  | some x => rw [hc] at h; simp only at h; cases h; rfl
  | none =>
   rw [hc] at h
   simp only at h
   by_cases hg : g = 0
   ·rw [if_pos hg] at h; cases h
   rw [if_neg hg] at h
   obtain ⟨r, hr, h⟩ := Option.bind_eq_some_iff.1 h
   have hz : r.2.next = z.next := by
    by_cases ha : f.about = e.fn
    ·rw [if_pos ha] at hr; cases hr; rfl
    ·rw [if_neg ha] at hr
     obtain ⟨⟨kx, zx⟩, h1, h2⟩ := Option.map_eq_some_iff.1 hr
     cases h2
     exact ztake_next t h1
   cases hx : r.2.funs[g]? with
   | none => rw [hx] at h; cases h
   | some fx =>
    rw [hx] at h
    simp only at h
    by_cases h256 : fx.caps.length = 256
    ·rw [if_pos h256] at h; cases h; rw [zfail_next]; exact hz
    ·rw [if_neg h256] at h; cases h; exact hz
theorem zmeans_next {z z' : ZS} {i : Nat} {d : Int} (h : zmeans z i d = some z') : z'.next = z.next := by
 unfold zmeans at h
 split at h
 ·cases h
 ·split at h
  ·cases h
  ·split at h
   ·cases h; rfl
   ·obtain ⟨⟨k, y⟩, h1, h2⟩ := Option.map_eq_some_iff.1 h
    cases h2
    have a := ztake_next _ h1
    exact a
theorem zname_next {z z' : ZS} {i : Nat} (h : zname L A z i = some z') : z'.next = z.next := by
 unfold zname at h
 split at h
 ·exact zmeans_next h
 ·split at h
  ·cases h; rfl
  ·split at h
   ·cases h; rfl
   ·cases h; exact zfail_next _ _ _
theorem zplain_next {z z' : ZS} {i : Nat} (h : zplain L A z i = some z') : z'.next = z.next := by
 unfold zplain zset at h
 repeat' split at h
 all_goals first | (cases h; done) | (cases h; exact zfail_next _ _ _) | (cases h; rfl) | exact zname_next h
theorem zleave_next {z b z' : ZS} (h : zleave z b = some z') : z'.next = z.next := by
 unfold zleave at h
 split at h
 ·cases h
 ·split at h
  ·cases h; rfl
  ·cases h
theorem zparam_next : ∀ (n : Nat) {z z' : ZS}, zparam L A n z = some z' → z.next ≤ z'.next
 | 0, z, z', h => by unfold zparam at h; cases h; exact Nat.le_refl _
 | n + 1, z, z', h => by
  unfold zparam at h
  obtain ⟨y, h1, h⟩ := Option.bind_eq_some_iff.1 h
  obtain ⟨v, h2, h⟩ := Option.bind_eq_some_iff.1 h
  have := zparam_next n h
  simp only at this
  omega

theorem zR_next : ∀ (t : Nat) (q : ZQ) {z z' : ZS}, zR L A t q z = some z' → z.next ≤ z'.next
 | 0, q, z, z', h => by unfold zR at h; cases h
 | t + 1, q, z, z', h => by
  unfold zR at h
  cases q with
  | parts due =>
   simp only at h
   by_cases h0 : 0 < due ∧ z.fault = 0
   ·rw [if_pos h0] at h
    by_cases h1 : due ≤ 1000000 ∧ z.next < L.length
    ·rw [if_pos h1] at h
     have key : ∀ {q : ZQ}, ((zR L A t q { z with next := z.next + 1 }).bind fun v => zR L A t (.parts (due - 1)) v) = some z' → z.next ≤ z'.next := by
      intro q hq
      obtain ⟨v, h2, h3⟩ := Option.bind_eq_some_iff.1 hq
      have a := zR_next t _ h2
      have b := zR_next t _ h3
      simp only at a
      omega
     repeat' split at h
     all_goals first | exact key h | skip
     ·obtain ⟨v, h2, h3⟩ := Option.bind_eq_some_iff.1 h
      have a := zplain_next h2
      have b := zR_next t _ h3
      simp only at a
      omega
     ·cases h
    ·rw [if_neg h1] at h; cases h
   ·rw [if_neg h0] at h; cases h; exact Nat.le_refl _
  | block i =>
   simp only at h
   split at h
   ·obtain ⟨v, h2, h3⟩ := Option.bind_eq_some_iff.1 h
    have a := zR_next t _ h2
    have b := zleave_next h3
    unfold zenter at a
    simp only at a
    omega
   ·cases h
  | var i =>
   simp only at h
   obtain ⟨y, h1, h⟩ := Option.bind_eq_some_iff.1 h
   obtain ⟨v, h2, h3⟩ := Option.bind_eq_some_iff.1 h
   have a := zdeclare_next h1
   have b := zR_next t _ h2
   have c := zshow_next h3
   omega
  | loop =>
   simp only at h
   obtain ⟨v, h1, h⟩ := Option.bind_eq_some_iff.1 h
   have a := zR_next t _ h1
   split at h
   ·obtain ⟨x, h2, h3⟩ := Option.bind_eq_some_iff.1 h
    have b := zR_next t _ h2
    simp only at b
    split at h3
    ·cases h3; simp only; omega
    ·cases h3
   ·cases h
  | att i =>
   simp only at h
   obtain ⟨y, h1, h⟩ := Option.bind_eq_some_iff.1 h
   obtain ⟨v, h2, h⟩ := Option.bind_eq_some_iff.1 h
   obtain ⟨x, h3, h⟩ := Option.bind_eq_some_iff.1 h
   obtain ⟨u, h4, h5⟩ := Option.bind_eq_some_iff.1 h
   have a := zdeclare_next h1
   have b := zR_next t _ h2
   have c := zshow_next h3
   have d := zR_next t _ h4
   have e := zleave_next h5
   unfold zenter at a
   simp only at a
   omega
  | named i =>
   simp only at h
   obtain ⟨y, h1, h⟩ := Option.bind_eq_some_iff.1 h
   obtain ⟨v, h2, h3⟩ := Option.bind_eq_some_iff.1 h
   have a := zdeclare_next h1
   have b := zshow_next h2
   have c := zR_next t _ h3
   omega
  | func i =>
   simp only at h
   split at h
   ·cases h; rw [zfail_next]; exact Nat.le_refl _
   ·split at h
    ·obtain ⟨y, h1, h⟩ := Option.bind_eq_some_iff.1 h
     obtain ⟨v, h2, h3⟩ := Option.bind_eq_some_iff.1 h
     have a := zparam_next _ h1
     have b := zR_next t _ h2
     have c := zleave_next h3
     unfold zopen zenter at a
     simp only at a
     omega
    ·cases h
end

structure ConZ (X : ZX) (t : Nat) : Prop where
 parts : ∀ {w : World} {z : ZS} {B : ZB}, RS w X z B → ∀ (due : Int) (z' : ZS), zR X.L X.A t (.parts due) z = some z' → Calls Tryd.prog 58 #[.pointer (some ⟨X.r, 0, none⟩), .int .i64 due] w fun e' w' => e' = .returned (.tuple #[]) ∧ Zp w X B z' w'
 block : ∀ {w : World} {z : ZS} {B : ZB}, RS w X z B → ∀ (i : Nat) (z' : ZS), zR X.L X.A t (.block i) z = some z' → Calls Tryd.prog 76 #[.pointer (some ⟨X.r, 0, none⟩), .int .i64 i] w fun e' w' => e' = .returned (.tuple #[]) ∧ Zp w X B z' w'
 var : ∀ {w : World} {z : ZS} {B : ZB}, RS w X z B → ∀ (i : Nat) (z' : ZS), zR X.L X.A t (.var i) z = some z' → Calls Tryd.prog 77 #[.pointer (some ⟨X.r, 0, none⟩), .int .i64 i] w fun e' w' => e' = .returned (.tuple #[]) ∧ Zp w X B z' w'
 loop : ∀ {w : World} {z : ZS} {B : ZB}, RS w X z B → ∀ (z' : ZS), zR X.L X.A t .loop z = some z' → Calls Tryd.prog 78 #[.pointer (some ⟨X.r, 0, none⟩)] w fun e' w' => e' = .returned (.tuple #[]) ∧ Zp w X B z' w'
 att : ∀ {w : World} {z : ZS} {B : ZB}, RS w X z B → ∀ (i : Nat) (z' : ZS), zR X.L X.A t (.att i) z = some z' → Calls Tryd.prog 79 #[.pointer (some ⟨X.r, 0, none⟩), .int .i64 i] w fun e' w' => e' = .returned (.tuple #[]) ∧ Zp w X B z' w'
 named : ∀ {w : World} {z : ZS} {B : ZB}, RS w X z B → ∀ (i : Nat) (z' : ZS), zR X.L X.A t (.named i) z = some z' → Calls Tryd.prog 80 #[.pointer (some ⟨X.r, 0, none⟩), .int .i64 i] w fun e' w' => e' = .returned (.tuple #[]) ∧ Zp w X B z' w'
 func : ∀ {w : World} {z : ZS} {B : ZB}, RS w X z B → ∀ (i : Nat) (z' : ZS), zR X.L X.A t (.func i) z = some z' → Calls Tryd.prog 81 #[.pointer (some ⟨X.r, 0, none⟩), .int .i64 i] w fun e' w' => e' = .returned (.tuple #[]) ∧ Zp w X B z' w'

section
variable {w : World} {X : ZX} {z : ZS} {B : ZB}

theorem Zp.then {w1 w2 : World} {z1 z2 : ZS} {B1 : ZB} (h : NX B.ρ w w1 B1.ρ) (k : Zp w1 X B1 z2 w2) : Zp w X B z2 w2 := by
 obtain ⟨B2, r, n⟩ := k
 exact ⟨B2, r, h.trans n⟩

set_option maxRecDepth 100000 in
set_option maxHeartbeats 4000000 in
theorem plain_any (h : RS w X z B) (i : Nat) (hi : i < X.L.length) (z' : ZS) (hz : zplain X.L X.A z i = some z') : Calls Tryd.prog 82 #[.pointer (some ⟨X.r, 0, none⟩), .int .i64 i] w fun e' w' => e' = .returned (.tuple #[]) ∧ Zp w X B z' w' := by
 unfold zplain at hz
 have ck := h.x.nc.1.kind hi
 have cn : w.cell? ⟨X.r, 3, none⟩ = some (.slice (some ⟨X.g, X.o, none⟩) X.L.length X.cap) := h.blk.cell 3
 have c1 : w.cell? ⟨X.r, 1, none⟩ = some (.int .i64 z.fn) := h.blk.cell 1
 have c2 : w.cell? ⟨X.r, 2, none⟩ = some (.int .i64 z.loops) := h.blk.cell 2
 have gl := h.x.nc.1.lt
 have hl := h.blk.lt
 have hi2 : (i : Int) < (X.L.length : Int) := by omega
 have H := hid h
 have HI := hid hi
 generalize (zN X.L i).1 = kd at ck hz
 clear h
 have b4 : (kd == 4) = decide (kd = 4) := rfl
 by_cases h4 : kd = 4
 ·rw [if_pos h4] at hz
  have e4 : (kd == 4) = true := by simp [h4]
  have HZ := hid hz
  clear hi hz h4 b4
  go_enter Tryd.func82, Tryd.ntmps82
  go_wp2_with (first
   | (go_at_call 95; refine (set_any H.out i z' HZ.out).mono ?_; rintro e w1 ⟨rfl, hr⟩; have R := hid hr; clear hr)
   | fail)
  all_goals go_end0
  all_goals exact ⟨rfl, R.out⟩
 ·rw [if_neg h4] at hz
  have e4 : (kd == 4) = false := by simpa using h4
  clear b4 h4
  by_cases h7 : kd = 7 ∨ kd = 8
  ·rw [if_pos h7] at hz
   have e7 : ((kd == 7) = true) ∨ ((kd == 7) = false ∧ (kd == 8) = true) := by
    rcases h7 with e | e
    ·exact .inl (by simp [e])
    ·exact .inr ⟨by simp [e], by simp [e]⟩
   clear hi h7
   by_cases hlo : z.loops = 0
   ·rw [if_pos hlo] at hz
    cases hz
    have eo : (z.loops == 0) = true := by simp [hlo]
    clear hlo
    rcases e7 with e7 | ⟨e7, e8⟩
    all_goals
     go_enter Tryd.func82, Tryd.ntmps82
     go_wp2_with (first
      | (go_at_call 94; refine (fail_any H.out i 6).mono ?_; rintro e w1 ⟨rfl, hr, hn⟩; have R := hid hr; have N := hid hn; clear hr hn)
      | fail)
     all_goals go_end0
     all_goals exact ⟨rfl, Zp.self R.out N.out⟩
   ·rw [if_neg hlo] at hz
    cases hz
    have eo : (z.loops == 0) = false := by simpa using hlo
    clear hlo
    rcases e7 with e7 | ⟨e7, e8⟩
    all_goals
     go_enter Tryd.func82, Tryd.ntmps82
     go_wp2
     all_goals go_end0
     all_goals exact ⟨rfl, Zp.self H.out (NX.refl _ _)⟩
  ·rw [if_neg h7] at hz
   have e7 : (kd == 7) = false := by simpa using fun e => h7 (.inl e)
   have e8 : (kd == 8) = false := by simpa using fun e => h7 (.inr e)
   clear h7
   by_cases h9 : kd = 9
   ·rw [if_pos h9] at hz
    have e9 : (kd == 9) = true := by simp [h9]
    clear hi h9
    by_cases hfn : z.fn = 0
    ·rw [if_pos hfn] at hz
     cases hz
     have eo : ((z.fn : Int) == 0) = true := by simp [hfn]
     clear hfn
     go_enter Tryd.func82, Tryd.ntmps82
     go_wp2_with (first
      | (go_at_call 94; refine (fail_any H.out i 6).mono ?_; rintro e w1 ⟨rfl, hr, hn⟩; have R := hid hr; have N := hid hn; clear hr hn)
      | fail)
     all_goals go_end0
     all_goals exact ⟨rfl, Zp.self R.out N.out⟩
    ·rw [if_neg hfn] at hz
     cases hz
     have eo : ((z.fn : Int) == 0) = false := by simp; omega
     clear hfn
     go_enter Tryd.func82, Tryd.ntmps82
     go_wp2
     all_goals go_end0
     all_goals exact ⟨rfl, Zp.self H.out (NX.refl _ _)⟩
   ·rw [if_neg h9] at hz
    have e9 : (kd == 9) = false := by simpa using h9
    clear h9
    by_cases h19 : kd = 19
    ·rw [if_pos h19] at hz
     have e19 : (kd == 19) = true := by simp [h19]
     have HZ := hid hz
     clear hi hz h19
     go_enter Tryd.func82, Tryd.ntmps82
     go_wp2_with (first
      | (go_at_call 96; refine (name_any H.out i HI.out z' HZ.out).mono ?_; rintro e w1 ⟨rfl, hr⟩; have R := hid hr; clear hr)
      | fail)
     all_goals go_end0
     all_goals exact ⟨rfl, R.out⟩
    ·rw [if_neg h19] at hz
     cases hz
     have e19 : (kd == 19) = false := by simpa using h19
     clear hi h19
     go_enter Tryd.func82, Tryd.ntmps82
     go_wp2
     all_goals go_end0
     all_goals exact ⟨rfl, Zp.self H.out (NX.refl _ _)⟩
end
end Go.Proofs.YtdhkcdehedbpcaaDoor

namespace Go.Proofs.YtdhkcdehedbpcaaDoor
open Go Go.RowKit
def noPanic (Q : Exit → Act → World → Prop) : Exit → Act → World → Prop := fun e a w => match e with | .panic _ => False | e => Q e a w
theorem wp_noPanic {P : Program} {c : Code} {Q : Exit → Act → World → Prop} {a : Act} {w : World} (h : c.wp P (noPanic Q) a w) : c.wp P Q a w :=
 Code.wp_mono (fun e a w h => by cases e <;> first | exact h | exact h.elim) h

section
variable {w : World} {X : ZX} {z : ZS} {B : ZB}

set_option maxRecDepth 100000 in
set_option maxHeartbeats 4000000 in
theorem zblock_step {t : Nat} (hC : ConZ X t) (h : RS w X z B) (i : Nat) (z' : ZS) (hz : zR X.L X.A (t + 1) (.block i) z = some z') : Calls Tryd.prog 76 #[.pointer (some ⟨X.r, 0, none⟩), .int .i64 i] w fun e' w' => e' = .returned (.tuple #[]) ∧ Zp w X B z' w' := by
 unfold zR at hz
 simp only at hz
 by_cases hi : i < X.L.length
 case neg => rw [if_neg hi] at hz; cases hz
 rw [if_pos hi] at hz
 obtain ⟨v, hv, hz⟩ := Option.bind_eq_some_iff.1 hz
 have hl := h.blk.lt
 have H := hid h
 have HI := hid hi
 have HV := hid hv
 have HZ := hid hz
 have HCC := hid hC
 have HEN := hid (fun (W : World) (hb : Bw w W) => enter_any (h.bw hb) z.fn z.loops)
 have HS := hid (fun (W' : World) (hb : Bw w W') => (⟨(h.bw hb).blk.cell 1, (h.bw hb).blk.cell 2⟩ : W'.cell? ⟨X.r, 1, none⟩ = some (.int .i64 z.fn) ∧ W'.cell? ⟨X.r, 2, none⟩ = some (.int .i64 z.loops)))
 clear h hi hv hz hC
 go_enter_defers Tryd.func76, Tryd.ntmps76
 go_upto_region 0 with fail
 refine wp_noPanic ?_
 refine wp_region_W (fun w' => w'.cell? ⟨X.r, 1, none⟩ = some (.int .i64 z.fn) ∧ w'.cell? ⟨X.r, 2, none⟩ = some (.int .i64 z.loops)) (fun j => if j == 12 then 2 else 1) (by kernel_rfl) ?_
 refine tkW (i := 0) (oi := _) (v := ?_) rfl (Or.inl ⟨by rfl, fun w _ => ?_⟩) ?_
 rotate_left
 ·(go_simp; first | done | with_reducible rfl)
 try simp only [Act.put, sqA, sqZ, sqS]
 refine tkW (i := 1) (oi := _) (v := ?_) rfl (Or.inl ⟨by rfl, fun w _ => ?_⟩) ?_
 rotate_left
 ·(go_simp; first | done | with_reducible rfl)
 try simp only [Act.put, sqA, sqZ, sqS]
 refine tkW (i := 2) (oi := _) (v := ?_) rfl (Or.inl ⟨by rfl, fun w _ => ?_⟩) ?_
 rotate_left
 ·(go_simp; first | done | with_reducible rfl)
 try simp only [Act.put, sqA, sqZ, sqS]
 refine tkW (i := 3) (oi := _) (v := ?_) rfl (Or.inl ⟨by rfl, fun w _ => ?_⟩) ?_
 rotate_left
 ·(go_simp; first | done | with_reducible rfl)
 try simp only [Act.put, sqA, sqZ, sqS]
 refine tkW (i := 4) (oi := _) (v := ?_) rfl (Or.inl ⟨by rfl, fun w _ => ?_⟩) ?_
 rotate_left
 ·(go_simp; first | done | with_reducible rfl)
 try simp only [Act.put, sqA, sqZ, sqS]
 refine tkW (i := 5) (oi := _) (v := ?_) rfl (Or.inl ⟨by rfl, fun w _ => ?_⟩) ?_
 rotate_left
 ·(go_simp; first | done | with_reducible rfl)
 try simp only [Act.put, sqA, sqZ, sqS]
 refine ldW (i := 6) (oi := _) (v := ?_) rfl (Or.inl ⟨by rfl, fun w hS => ?_⟩) (HS.out _ (Bw.drew (Bw.refl _))) ?_
 rotate_left
 ·(obtain ⟨s1, s2⟩ := hS; go_simp; first | done | with_reducible rfl)
 try simp only [Act.put, sqA, sqZ, sqS]
 refine tkW (i := 7) (oi := _) (v := ?_) rfl (Or.inl ⟨by rfl, fun w _ => ?_⟩) ?_
 rotate_left
 ·(go_simp; first | done | with_reducible rfl)
 try simp only [Act.put, sqA, sqZ, sqS]
 refine tkW (i := 8) (oi := _) (v := ?_) rfl (Or.inl ⟨by rfl, fun w _ => ?_⟩) ?_
 rotate_left
 ·(go_simp; first | done | with_reducible rfl)
 try simp only [Act.put, sqA, sqZ, sqS]
 refine tkW (i := 9) (oi := _) (v := ?_) rfl (Or.inl ⟨by rfl, fun w _ => ?_⟩) ?_
 rotate_left
 ·(go_simp; first | done | with_reducible rfl)
 try simp only [Act.put, sqA, sqZ, sqS]
 refine tkW (i := 10) (oi := _) (v := ?_) rfl (Or.inl ⟨by rfl, fun w _ => ?_⟩) ?_
 rotate_left
 ·(go_simp; first | done | with_reducible rfl)
 try simp only [Act.put, sqA, sqZ, sqS]
 refine ldW (i := 11) (oi := _) (v := ?_) rfl (Or.inl ⟨by rfl, fun w hS => ?_⟩) (HS.out _ (Bw.drew (Bw.refl _))) ?_
 rotate_left
 ·(obtain ⟨s1, s2⟩ := hS; go_simp; first | done | with_reducible rfl)
 try simp only [Act.put, sqA, sqZ, sqS]
 refine wpAnyW_ready (rs := [12]) (by kernel_rfl) (by simp) ?_
 refine (AllReadyW.cons (o := _) rfl (fun K hK => ?_) AllReadyW.nil)
 go_simp
 refine (HEN.out _ (Bw.drew (Bw.refl _))).mono ?_
 rintro e' w1 ⟨nb, he', hr1, hn1, hb1⟩
 subst he'
 have R1 := hid hr1
 have N1 := hid (show NX B.ρ w w1 (entρ z.names B.nb nb B.ρ) from (NX.of_bw B.ρ (Bw.drew (Bw.refl w))).trans hn1)
 have BK := hid hb1
 clear hr1 hn1 hb1
 refine hK.out _ _ trivial ?_
 clear hK K
 try simp only [Act.put, sqA, sqZ, sqS]
 refine wpAnyW_ready (rs := [13]) (by kernel_rfl) (by simp) ?_
 refine (AllReadyW.cons (o := _) rfl (fun K hK => ?_) AllReadyW.nil)
 go_simp
 refine hK.out _ _ (fun h => h) ?_
 clear hK K
 try simp only [Act.put, sqA, sqZ, sqS]
 refine wpAnyW_done (by kernel_rfl) ?_ _
 simp only [noPanic]
 have q3 : w1.cell? ⟨X.r, 3, none⟩ = some (.slice (some ⟨X.g, X.o, none⟩) X.L.length X.cap) := R1.out.blk.cell 3
 have q1 := R1.out.x.nc.1.cnt HI.out
 have gl := R1.out.x.nc.1.lt
 have rl := R1.out.blk.lt
 have hi2 : (i : Int) < (X.L.length : Int) := by have := HI.out; omega
 go_wp2_with (first
  | (go_at_call 58; refine (HCC.out.parts R1.out _ v HV.out).mono ?_; rintro e w2 ⟨rfl, B2, hr2, hn2⟩; have R2 := hid hr2; have N2 := hid hn2; clear hr2 hn2)
  | fail)
 refine leaves_cons (f := 90) (args := #[.pointer (some ⟨X.r, 0, none⟩), .agg #[.map (nmO z.names B.nb), .int .i64 z.fn, .int .i64 z.loops]]) (by simp) (by simp [go_sem]) ?_
 refine (leave_any R2.out z z' B.nb (BK.out.nx N2.out) HZ.out .returning).mono ?_
 rintro e u' w3 ⟨rfl, rfl, hr3, hn3⟩
 have N3 := hid (N1.out.trans (N2.out.trans hn3))
 have HNB := hid (N3.out.left (names := z.names) (nb := B.nb) (fun m hm => .inl (by rw [(H.out.x.nams (by decide) m hm).2]; decide)))
 exact ⟨_, results_none rfl _ _ _, rfl, _, hr3, HNB.out⟩
end
end Go.Proofs.YtdhkcdehedbpcaaDoor

namespace Go.Proofs.YtdhkcdehedbpcaaDoor
open Go Go.RowKit
section
variable {w : World} {X : ZX} {z : ZS} {B : ZB}

theorem zdeclare_lt {L : List ANode} {A : ByteArray → Option Int} {z z' : ZS} {i : Nat} (h : zdeclare L A z i = some z') : i < L.length := by
 unfold zdeclare at h
 split at h
 ·assumption
 ·cases h

set_option maxRecDepth 100000 in
set_option maxHeartbeats 4000000 in
theorem attempt_step {t : Nat} (hC : ConZ X t) (h : RS w X z B) (i : Nat) (z' : ZS) (hz : zR X.L X.A (t + 1) (.att i) z = some z') : Calls Tryd.prog 79 #[.pointer (some ⟨X.r, 0, none⟩), .int .i64 i] w fun e' w' => e' = .returned (.tuple #[]) ∧ Zp w X B z' w' := by
 unfold zR at hz
 simp only at hz
 obtain ⟨y, hy, hz⟩ := Option.bind_eq_some_iff.1 hz
 obtain ⟨v, hv, hz⟩ := Option.bind_eq_some_iff.1 hz
 obtain ⟨x, hx, hz⟩ := Option.bind_eq_some_iff.1 hz
 obtain ⟨q, hq, hz⟩ := Option.bind_eq_some_iff.1 hz
 have hl := h.blk.lt
 have H := hid h
 have HI := hid (zdeclare_lt hy)
 have HY := hid hy
 have HV := hid hv
 have HX := hid hx
 have HQ := hid hq
 have HZ := hid hz
 have HCC := hid hC
 have HEN := hid (fun (W : World) (hb : Bw w W) => enter_any (h.bw hb) z.fn z.loops)
 have HS := hid (fun (W' : World) (hb : Bw w W') => (⟨(h.bw hb).blk.cell 1, (h.bw hb).blk.cell 2⟩ : W'.cell? ⟨X.r, 1, none⟩ = some (.int .i64 z.fn) ∧ W'.cell? ⟨X.r, 2, none⟩ = some (.int .i64 z.loops)))
 clear h hy hv hx hq hz hC
 go_enter_defers Tryd.func79, Tryd.ntmps79
 go_upto_region 0 with fail
 refine wp_noPanic ?_
 refine wp_region_W (fun w' => w'.cell? ⟨X.r, 1, none⟩ = some (.int .i64 z.fn) ∧ w'.cell? ⟨X.r, 2, none⟩ = some (.int .i64 z.loops)) (fun j => if j == 12 then 2 else 1) (by kernel_rfl) ?_
 refine tkW (i := 0) (oi := _) (v := ?_) rfl (Or.inl ⟨by rfl, fun w _ => ?_⟩) ?_
 rotate_left
 ·(go_simp; first | done | with_reducible rfl)
 try simp only [Act.put, sqA, sqZ, sqS]
 refine tkW (i := 1) (oi := _) (v := ?_) rfl (Or.inl ⟨by rfl, fun w _ => ?_⟩) ?_
 rotate_left
 ·(go_simp; first | done | with_reducible rfl)
 try simp only [Act.put, sqA, sqZ, sqS]
 refine tkW (i := 2) (oi := _) (v := ?_) rfl (Or.inl ⟨by rfl, fun w _ => ?_⟩) ?_
 rotate_left
 ·(go_simp; first | done | with_reducible rfl)
 try simp only [Act.put, sqA, sqZ, sqS]
 refine tkW (i := 3) (oi := _) (v := ?_) rfl (Or.inl ⟨by rfl, fun w _ => ?_⟩) ?_
 rotate_left
 ·(go_simp; first | done | with_reducible rfl)
 try simp only [Act.put, sqA, sqZ, sqS]
 refine tkW (i := 4) (oi := _) (v := ?_) rfl (Or.inl ⟨by rfl, fun w _ => ?_⟩) ?_
 rotate_left
 ·(go_simp; first | done | with_reducible rfl)
 try simp only [Act.put, sqA, sqZ, sqS]
 refine tkW (i := 5) (oi := _) (v := ?_) rfl (Or.inl ⟨by rfl, fun w _ => ?_⟩) ?_
 rotate_left
 ·(go_simp; first | done | with_reducible rfl)
 try simp only [Act.put, sqA, sqZ, sqS]
 refine ldW (i := 6) (oi := _) (v := ?_) rfl (Or.inl ⟨by rfl, fun w hS => ?_⟩) (HS.out _ (Bw.drew (Bw.refl _))) ?_
 rotate_left
 ·(obtain ⟨s1, s2⟩ := hS; go_simp; first | done | with_reducible rfl)
 try simp only [Act.put, sqA, sqZ, sqS]
 refine tkW (i := 7) (oi := _) (v := ?_) rfl (Or.inl ⟨by rfl, fun w _ => ?_⟩) ?_
 rotate_left
 ·(go_simp; first | done | with_reducible rfl)
 try simp only [Act.put, sqA, sqZ, sqS]
 refine tkW (i := 8) (oi := _) (v := ?_) rfl (Or.inl ⟨by rfl, fun w _ => ?_⟩) ?_
 rotate_left
 ·(go_simp; first | done | with_reducible rfl)
 try simp only [Act.put, sqA, sqZ, sqS]
 refine tkW (i := 9) (oi := _) (v := ?_) rfl (Or.inl ⟨by rfl, fun w _ => ?_⟩) ?_
 rotate_left
 ·(go_simp; first | done | with_reducible rfl)
 try simp only [Act.put, sqA, sqZ, sqS]
 refine tkW (i := 10) (oi := _) (v := ?_) rfl (Or.inl ⟨by rfl, fun w _ => ?_⟩) ?_
 rotate_left
 ·(go_simp; first | done | with_reducible rfl)
 try simp only [Act.put, sqA, sqZ, sqS]
 refine ldW (i := 11) (oi := _) (v := ?_) rfl (Or.inl ⟨by rfl, fun w hS => ?_⟩) (HS.out _ (Bw.drew (Bw.refl _))) ?_
 rotate_left
 ·(obtain ⟨s1, s2⟩ := hS; go_simp; first | done | with_reducible rfl)
 try simp only [Act.put, sqA, sqZ, sqS]
 refine wpAnyW_ready (rs := [12]) (by kernel_rfl) (by simp) ?_
 refine (AllReadyW.cons (o := _) rfl (fun K hK => ?_) AllReadyW.nil)
 go_simp
 refine (HEN.out _ (Bw.drew (Bw.refl _))).mono ?_
 rintro e' w1 ⟨nb, he', hr1, hn1, hb1⟩
 subst he'
 have R1 := hid hr1
 have N1 := hid (show NX B.ρ w w1 (entρ z.names B.nb nb B.ρ) from (NX.of_bw B.ρ (Bw.drew (Bw.refl w))).trans hn1)
 have BK := hid hb1
 clear hr1 hn1 hb1
 refine hK.out _ _ trivial ?_
 clear hK K
 try simp only [Act.put, sqA, sqZ, sqS]
 refine wpAnyW_ready (rs := [13]) (by kernel_rfl) (by simp) ?_
 refine (AllReadyW.cons (o := _) rfl (fun K hK => ?_) AllReadyW.nil)
 go_simp
 refine hK.out _ _ (fun h => h) ?_
 clear hK K
 try simp only [Act.put, sqA, sqZ, sqS]
 refine wpAnyW_done (by kernel_rfl) ?_ _
 simp only [noPanic]
 have rl := R1.out.blk.lt
 go_wp2_with (first
  | (go_at_call 92; refine (declare_any R1.out i y HY.out).mono ?_; rintro e w2 ⟨rfl, B2, hr2, hn2⟩; have R2 := hid hr2; have N2 := hid hn2; clear hr2 hn2)
  | (go_at_call 58; (fail_if_success (have _g := m1)); have m1 := hid trivial; refine (HCC.out.parts R2.out _ v HV.out).mono ?_; rintro e w3 ⟨rfl, B3, hr3, hn3⟩; have R3 := hid hr3; have N3 := hid hn3; clear hr3 hn3)
  | (go_at_call 93; refine (show_any R3.out i HI.out x HX.out).mono ?_; rintro e w4 ⟨rfl, hr4, hn4⟩; have R4 := hid hr4; have N4 := hid hn4; clear hr4 hn4)
  | (go_at_call 58; have _g := m1; clear _g; refine (HCC.out.parts R4.out _ q HQ.out).mono ?_; rintro e w5 ⟨rfl, B5, hr5, hn5⟩; have R5 := hid hr5; have N5 := hid hn5; clear hr5 hn5)
  | fail)
 have NN := hid (N2.out.trans (N3.out.trans (N4.out.trans N5.out)))
 refine leaves_cons (f := 90) (args := #[.pointer (some ⟨X.r, 0, none⟩), .agg #[.map (nmO z.names B.nb), .int .i64 z.fn, .int .i64 z.loops]]) (by simp) (by simp [go_sem]) ?_
 refine (leave_any R5.out z z' B.nb (BK.out.nx NN.out) HZ.out .returning).mono ?_
 rintro e u' w6 ⟨rfl, rfl, hr6, hn6⟩
 have N6 := hid (N1.out.trans (NN.out.trans hn6))
 have HNB := hid (N6.out.left (names := z.names) (nb := B.nb) (fun m hm => .inl (by rw [(H.out.x.nams (by decide) m hm).2]; decide)))
 exact ⟨_, results_none rfl _ _ _, rfl, _, hr6, HNB.out⟩

set_option maxRecDepth 100000 in
set_option maxHeartbeats 4000000 in
theorem variable_step {t : Nat} (hC : ConZ X t) (h : RS w X z B) (i : Nat) (z' : ZS) (hz : zR X.L X.A (t + 1) (.var i) z = some z') : Calls Tryd.prog 77 #[.pointer (some ⟨X.r, 0, none⟩), .int .i64 i] w fun e' w' => e' = .returned (.tuple #[]) ∧ Zp w X B z' w' := by
 unfold zR at hz
 simp only at hz
 obtain ⟨y, hy, hz⟩ := Option.bind_eq_some_iff.1 hz
 obtain ⟨v, hv, hz⟩ := Option.bind_eq_some_iff.1 hz
 have H := hid h
 have HI := hid (zdeclare_lt hy)
 have HY := hid hy
 have HV := hid hv
 have HZ := hid hz
 have HCC := hid hC
 clear h hy hv hz hC
 go_enter Tryd.func77, Tryd.ntmps77
 go_wp2_with (first
  | (go_at_call 92; refine (declare_any H.out i y HY.out).mono ?_; rintro e w2 ⟨rfl, B2, hr2, hn2⟩; have R2 := hid hr2; have N2 := hid hn2; clear hr2 hn2)
  | (go_at_call 58; refine (HCC.out.parts R2.out _ v HV.out).mono ?_; rintro e w3 ⟨rfl, B3, hr3, hn3⟩; have R3 := hid hr3; have N3 := hid hn3; clear hr3 hn3)
  | (go_at_call 93; refine (show_any R3.out i HI.out z' HZ.out).mono ?_; rintro e w4 ⟨rfl, hr4, hn4⟩; have R4 := hid hr4; have N4 := hid hn4; clear hr4 hn4)
  | fail)
 all_goals go_end0
 all_goals exact ⟨rfl, B3, R4.out, N2.out.trans (N3.out.trans N4.out)⟩

set_option maxRecDepth 100000 in
set_option maxHeartbeats 4000000 in
theorem named_step {t : Nat} (hC : ConZ X t) (h : RS w X z B) (i : Nat) (z' : ZS) (hz : zR X.L X.A (t + 1) (.named i) z = some z') : Calls Tryd.prog 80 #[.pointer (some ⟨X.r, 0, none⟩), .int .i64 i] w fun e' w' => e' = .returned (.tuple #[]) ∧ Zp w X B z' w' := by
 unfold zR at hz
 simp only at hz
 obtain ⟨y, hy, hz⟩ := Option.bind_eq_some_iff.1 hz
 obtain ⟨v, hv, hz⟩ := Option.bind_eq_some_iff.1 hz
 have H := hid h
 have HI := hid (zdeclare_lt hy)
 have HY := hid hy
 have HV := hid hv
 have HZ := hid hz
 have HCC := hid hC
 clear h hy hv hz hC
 go_enter Tryd.func80, Tryd.ntmps80
 go_wp2_with (first
  | (go_at_call 92; refine (declare_any H.out i y HY.out).mono ?_; rintro e w2 ⟨rfl, B2, hr2, hn2⟩; have R2 := hid hr2; have N2 := hid hn2; clear hr2 hn2)
  | (go_at_call 93; refine (show_any R2.out i HI.out v HV.out).mono ?_; rintro e w3 ⟨rfl, hr3, hn3⟩; have R3 := hid hr3; have N3 := hid hn3; clear hr3 hn3)
  | (go_at_call 81; refine (HCC.out.func R3.out i z' HZ.out).mono ?_; rintro e w4 ⟨rfl, B4, hr4, hn4⟩; have R4 := hid hr4; have N4 := hid hn4; clear hr4 hn4)
  | fail)
 all_goals go_end0
 all_goals exact ⟨rfl, B4, R4.out, N2.out.trans (N3.out.trans N4.out)⟩

set_option maxRecDepth 100000 in
set_option maxHeartbeats 4000000 in
theorem loop_step {t : Nat} (hC : ConZ X t) (h : RS w X z B) (z' : ZS) (hz : zR X.L X.A (t + 1) .loop z = some z') : Calls Tryd.prog 78 #[.pointer (some ⟨X.r, 0, none⟩)] w fun e' w' => e' = .returned (.tuple #[]) ∧ Zp w X B z' w' := by
 unfold zR at hz
 simp only at hz
 obtain ⟨v, hv, hz⟩ := Option.bind_eq_some_iff.1 hz
 by_cases h1 : 0 ≤ v.loops ∧ v.loops < 100000
 case neg => rw [if_neg h1] at hz; cases hz
 rw [if_pos h1] at hz
 obtain ⟨x, hx, hz⟩ := Option.bind_eq_some_iff.1 hz
 by_cases h2 : 1 ≤ x.loops ∧ x.loops ≤ 100000
 case neg => rw [if_neg h2] at hz; cases hz
 rw [if_pos h2] at hz
 cases hz
 have H := hid h
 have HV := hid hv
 have HX := hid hx
 have HCC := hid hC
 have hw1 : IntKind.i64.wrap (v.loops + 1) = v.loops + 1 := by rw [IntKind.wrap_i64]; omega
 have hw2 : IntKind.i64.wrap (x.loops - 1) = x.loops - 1 := by rw [IntKind.wrap_i64]; omega
 clear h hv hx hC h1 h2
 go_enter Tryd.func78, Tryd.ntmps78
 go_wp2_with (first
  | (go_at_call 58; (fail_if_success (have _g := m1)); have m1 := hid trivial; refine (HCC.out.parts H.out _ v HV.out).mono ?_; rintro e w2 ⟨rfl, B2, hr2, hn2⟩; have R2 := hid hr2; have N2 := hid hn2; have p2 : w2.cell? ⟨X.r, 2, none⟩ = some (.int .i64 v.loops) := hr2.blk.cell 2; have pf := hr2.blk.free; have pl := hr2.blk.lt; have R2' := hid (show RS (w2.setCell ⟨X.r, 2, none⟩ (.int .i64 (v.loops + 1))) X { v with loops := v.loops + 1 } B2 from ⟨hr2.blk.set 2 _, (hr2.x.setR 2 _).nums hr2.x.nl v.fn (v.loops + 1) v.fault v.faulty⟩); have N2' := hid (hn2.set hr2.rn 2 (.int .i64 (v.loops + 1))); clear hr2 hn2)
  | (go_at_call 58; have _g := m1; clear _g; refine (HCC.out.parts R2'.out _ x HX.out).mono ?_; rintro e w3 ⟨rfl, B3, hr3, hn3⟩; have N3 := hid hn3; have r2 : w3.cell? ⟨X.r, 2, none⟩ = some (.int .i64 x.loops) := hr3.blk.cell 2; have rf := hr3.blk.free; have rl := hr3.blk.lt; have R3 := hid (show RS (w3.setCell ⟨X.r, 2, none⟩ (.int .i64 (x.loops - 1))) X { x with loops := x.loops - 1 } B3 from ⟨hr3.blk.set 2 _, (hr3.x.setR 2 _).nums hr3.x.nl x.fn (x.loops - 1) x.fault x.faulty⟩); have N3' := hid ((N2'.out.trans hn3).set hr3.rn 2 (.int .i64 (x.loops - 1))); clear hr3 hn3)
  | fail)
 all_goals go_end0
 all_goals exact ⟨rfl, B3, R3.out, N3'.out⟩
end
end Go.Proofs.YtdhkcdehedbpcaaDoor

