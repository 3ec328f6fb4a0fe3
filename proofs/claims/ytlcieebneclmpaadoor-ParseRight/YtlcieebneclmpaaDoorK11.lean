/- A level that goes on from the left: contract. · All that reads, together: by how many steps are left. · The levels are made: contracts. · Parse: contract. -/
import Derived.Test.YtlcieebneclmpaaDoorPtk
import Derived.Test.YtlcieebneclmpaaDoorPslk
import Derived.Test.YtlcieebneclmpaaDoorPvnk
import Derived.Test.YtlcieebneclmpaaDoorPvdk
import Derived.Test.YtlcieebneclmpaaDoorPvck
import Derived.Test.YtlcieebneclmpaaDoorPxak
import Derived.Test.YtlcieebneclmpaaDoorPxpk
import Derived.Test.YtlcieebneclmpaaDoorPxek
import Derived.Test.YtlcieebneclmpaaDoorPxkk
import Derived.Test.YtlcieebneclmpaaDoorK9
import Derived.Test.YtlcieebneclmpaaDoorPytk
import Derived.Test.YtlcieebneclmpaaDoorK10
import Derived.Test.YtlcieebneclmpaaDoorPykk
import Derived.Test.YtlcieebneclmpaaDoorPyik
import Derived.Test.YtlcieebneclmpaaDoorPysk
import Derived.Test.YtlcieebneclmpaaDoorPystk
import Derived.Test.YtlcieebneclmpaaDoorK8
import Derived.Test.YtlcieebneclmpaaDoorPdk
set_option linter.unusedSimpArgs false
set_option linter.unusedVariables false
namespace Go.Proofs.YtlcieebneclmpaaDoor
open Go Go.RowKit

section
variable {B : World} {r g cap : Nat} {T : List ATok} {ex : Nat → Value}

set_option maxRecDepth 100000 in
set_option maxHeartbeats 8000000 in
theorem fl1_l (pa pb pc : Nat) (f k : Nat) (hk2 : k ≠ 2) (hk3 : k ≠ 3) (hk6 : k ≠ 6) (a b c : Nat) (sv : Value) (ha : CeM B r a (.func (.func 69) #[] #[.pointer (some ⟨pa, 0, none⟩), .pointer (some ⟨pb, 0, none⟩), .pointer (some ⟨pc, 0, none⟩)])) (hb : CeM B r b (.pointer (some ⟨r, 0, none⟩))) (hcc : CeM B r c sv) (hsg : SgM B r sv (sgl k)) (hc : ∀ f', f' ≤ f → RdP B r g cap T ex f' 69 #[.pointer (some ⟨pa, 0, none⟩), .pointer (some ⟨pb, 0, none⟩), .pointer (some ⟨pc, 0, none⟩)] (.lev (k + 1))) :
    RdP B r g cap T ex (f + 1) 69 #[.pointer (some ⟨a, 0, none⟩), .pointer (some ⟨b, 0, none⟩), .pointer (some ⟨c, 0, none⟩)] (.lev k) := by
  intro w i o h ho hne
  have e : pP T (f + 1) (.lev k) i o = (pP T f (.lev (k + 1)) i o).bind fun x _ i => pP T f (.more k x) i o := by
    simp only [pP]
    rw [if_neg hk2, if_neg hk3, if_neg hk6]
  rw [e] at hne ⊢
  have HNE := hid (show pP T f (.lev (k + 1)) i o ≠ .out from fun q => hne (by rw [q]; rfl))
  have HS := hid (SI.begin h)
  have HC := hid hc
  have HA := hid ha
  have HB := hid hb
  have HCC := hid hcc
  have HSG := hid hsg
  obtain ⟨ss, sc, hsv, _⟩ := hsg
  subst hsv
  obtain ⟨_, al, ca⟩ := HA.out.kp HS.out.ri.kb; obtain ⟨_, bl, cb⟩ := HB.out.kp HS.out.ri.kb; obtain ⟨_, cl, cc⟩ := HCC.out.kp HS.out.ri.kb
  clear h hc ha hb hcc e
  generalize hq : pP T f (.lev (k + 1)) i o = R0 at hne ⊢
  have HQ := hid hq
  clear hq
  cases R0 with
  | out => exact absurd HQ.out HNE.out
  | bad n m =>
    simp only [Res.bind]
    go_enter Tryd.func69, Tryd.ntmps69
    go_wp2_with (first
      | (go_at_call 69; refine (HC.out _ (Nat.le_refl _) _ _ _ (HS.out.ri.bw (by repeat (first | exact Bw.refl _ | apply Bw.alloc | apply Bw.drewN | apply Bw.drew))) ho HNE.out).mono ?_; intro e w2 h2; rw [HQ.out] at h2; obtain ⟨rfl, hk2⟩ := h2; have HK := hid ((HS.out.kp.bw (by repeat (first | exact Bw.refl _ | apply Bw.alloc | apply Bw.drewN | apply Bw.drew))).trans hk2); clear hk2)
      | fail)
    all_goals exact ⟨rfl, rfl, HK.out⟩
  | ok x1 c1 i1 =>
    simp only [Res.bind] at hne ⊢
    generalize hr : pP T f (.more k x1) i1 o = R at hne ⊢
    have HR := hid hr
    have HNR := hid hne
    clear hr hne
    go_enter Tryd.func69, Tryd.ntmps69
    go_wp2_with (first
      | (go_at_call 69; refine (HC.out _ (Nat.le_refl _) _ _ _ (HS.out.ri.bw (by repeat (first | exact Bw.refl _ | apply Bw.alloc | apply Bw.drewN | apply Bw.drew))) ho HNE.out).mono ?_; intro e w2 h2; rw [HQ.out] at h2; obtain ⟨b2, rfl, hp2, hr2, hk2⟩ := h2; have HS := hid ((HS.out.bw (by repeat (first | exact Bw.refl _ | apply Bw.alloc | apply Bw.drewN | apply Bw.drew))).add hr2 hk2 hp2); obtain ⟨_, al, ca⟩ := HA.out.kp HS.out.ri.kb; obtain ⟨_, bl, cb⟩ := HB.out.kp HS.out.ri.kb; obtain ⟨_, cl, cc⟩ := HCC.out.kp HS.out.ri.kb; clear hp2 hr2 hk2)
      | fail)
    go_loopw [4] (fun v wr => ∃ f' x b' i', f' ≤ f ∧ v = .pointer (some ⟨b', 0, none⟩) ∧ pP T f' (.more k x) i' o = R ∧ SI B w No wr r g cap T ex i' o [(x, b')]) (fun _ wr => T.length - nxt wr r)
    case atStart => exact ⟨f, x1, b2, i1, Nat.le_refl _, rfl, HR.out, HS.out⟩
    case round =>
      clear HS HR HQ HNE
      clear ca cb cc al bl cl
      obtain ⟨f', x, b', i', hf, rfl, hr, hs⟩ := hrel
      rename World => wr
      have HS := hid hs
      obtain ⟨_, al, ca⟩ := HA.out.kp HS.out.ri.kb; obtain ⟨_, bl, cb⟩ := HB.out.kp HS.out.ri.kb; obtain ⟨_, cl, cc⟩ := HCC.out.kp HS.out.ri.kb
      cases f' with
      | zero => exact absurd hr.symm HNR.out
      | succ f' =>
      have hnx : nxt wr r = i' := hs.ri.nx
      have hil := hs.ri.lt
      rw [hnx]
      clear hs
      simp only [pP] at hr
      cases ho1 : isO T i' (sgl k)
      · rw [ho1, if_neg (by decide)] at hr
        have HO := hid ho1
        clear ho1
        subst hr
        go_wp2_with (first
          | (go_at_call 70; refine (isOne_any _ _ (HS.out.ri.bw (by repeat (first | exact Bw.refl _ | apply Bw.alloc | apply Bw.drewN | apply Bw.drew))) (HSG.out.kp (HS.out.ri.kb.bw (by repeat (first | exact Bw.refl _ | apply Bw.alloc | apply Bw.drewN | apply Bw.drew))))).mono ?_; rintro e w3 ⟨rfl, hb3⟩; rw [HO.out]; have HS := hid (HS.out.bw (Bw.trans (by repeat (first | exact Bw.refl _ | apply Bw.alloc | apply Bw.drewN | apply Bw.drew)) hb3)); obtain ⟨_, al, ca⟩ := HA.out.kp HS.out.ri.kb; obtain ⟨_, bl, cb⟩ := HB.out.kp HS.out.ri.kb; obtain ⟨_, cl, cc⟩ := HCC.out.kp HS.out.ri.kb; clear hb3)
          | fail)
        all_goals go_ret
        all_goals exact ⟨_, rfl, HS.out.outp (by simp)⟩
      · have HN := hid (isO_ne ho1)
        rw [ho1, if_pos rfl] at hr
        have HO := hid ho1
        clear ho1
        have HNE := hid (show pP T f' (.lev (k + 1)) (i' + 1) o ≠ .out from fun q => HNR.out (by rw [← hr, q]; rfl))
        generalize hq : pP T f' (.lev (k + 1)) (i' + 1) o = R1 at hr
        have HQ := hid hq
        clear hq
        cases R1 with
        | out => exact absurd HQ.out HNE.out
        | bad n m =>
          simp only [Res.bind] at hr
          subst hr
          go_wp2_with (first
            | (go_at_call 70; refine (isOne_any _ _ (HS.out.ri.bw (by repeat (first | exact Bw.refl _ | apply Bw.alloc | apply Bw.drewN | apply Bw.drew))) (HSG.out.kp (HS.out.ri.kb.bw (by repeat (first | exact Bw.refl _ | apply Bw.alloc | apply Bw.drewN | apply Bw.drew))))).mono ?_; rintro e w3 ⟨rfl, hb3⟩; rw [HO.out]; have HS := hid (HS.out.bw (Bw.trans (by repeat (first | exact Bw.refl _ | apply Bw.alloc | apply Bw.drewN | apply Bw.drew)) hb3)); obtain ⟨_, al, ca⟩ := HA.out.kp HS.out.ri.kb; obtain ⟨_, bl, cb⟩ := HB.out.kp HS.out.ri.kb; obtain ⟨_, cl, cc⟩ := HCC.out.kp HS.out.ri.kb; clear hb3)
            | (go_at_call 71; refine (joined_l pa pb pc f' (k + 1) (HC.out f' (by omega)) (HS.out.ri.bw (by repeat (first | exact Bw.refl _ | apply Bw.alloc | apply Bw.drewN | apply Bw.drew))) ho HN.out x b' (HS.out.ps (x, b') (by simp)) (fun n hn => ⟨(HS.out.ne hn).2, (HS.out.ne hn).1⟩) HNE.out).mono ?_; intro e w4 h4; rw [HQ.out] at h4; obtain ⟨rfl, hk4⟩ := h4; have HK := hid ((HS.out.kp.bw (by repeat (first | exact Bw.refl _ | apply Bw.alloc | apply Bw.drewN | apply Bw.drew))).trans hk4); clear hk4)
            | fail)
          all_goals exact ⟨rfl, rfl, HK.out⟩
        | ok y c' j =>
          simp only [Res.bind] at hr
          have HR := hid hr
          have hj := pP_le HQ.out
          clear hr
          go_wp2_with (first
            | (go_at_call 70; refine (isOne_any _ _ (HS.out.ri.bw (by repeat (first | exact Bw.refl _ | apply Bw.alloc | apply Bw.drewN | apply Bw.drew))) (HSG.out.kp (HS.out.ri.kb.bw (by repeat (first | exact Bw.refl _ | apply Bw.alloc | apply Bw.drewN | apply Bw.drew))))).mono ?_; rintro e w3 ⟨rfl, hb3⟩; rw [HO.out]; have HS := hid (HS.out.bw (Bw.trans (by repeat (first | exact Bw.refl _ | apply Bw.alloc | apply Bw.drewN | apply Bw.drew)) hb3)); obtain ⟨_, al, ca⟩ := HA.out.kp HS.out.ri.kb; obtain ⟨_, bl, cb⟩ := HB.out.kp HS.out.ri.kb; obtain ⟨_, cl, cc⟩ := HCC.out.kp HS.out.ri.kb; clear hb3)
            | (go_at_call 71; refine (joined_l pa pb pc f' (k + 1) (HC.out f' (by omega)) (HS.out.ri.bw (by repeat (first | exact Bw.refl _ | apply Bw.alloc | apply Bw.drewN | apply Bw.drew))) ho HN.out x b' (HS.out.ps (x, b') (by simp)) (fun n hn => ⟨(HS.out.ne hn).2, (HS.out.ne hn).1⟩) HNE.out).mono ?_; intro e w4 h4; rw [HQ.out] at h4; obtain ⟨b4, rfl, hp4, hr4, hk4⟩ := h4; have HS := hid (HS.out.turn hr4 hk4 hp4); clear hp4 hr4 hk4)
            | fail)
          go_roundw
          case rel => exact ⟨f', _, b4, j, by omega, rfl, HR.out, HS.out⟩
          case measure =>
            have h1 := HS.out.ri.nx
            have h2 := HS.out.ri.lt
            rw [h1]
            omega

end

end Go.Proofs.YtlcieebneclmpaaDoor

set_option linter.unusedSimpArgs false
set_option linter.unusedVariables false
namespace Go.Proofs.YtlcieebneclmpaaDoor
open Go Go.RowKit

/-- Three variables that a level has taken along. -/
def c3 (a b c : Nat) : Array Value := #[.pointer (some ⟨a, 0, none⟩), .pointer (some ⟨b, 0, none⟩), .pointer (some ⟨c, 0, none⟩)]

/-- What all promise, at so many steps. -/
structure Con (B : World) (r g cap : Nat) (T : List ATok) (ex : Nat → Value) (f : Nat) : Prop where
  lv : ∀ k a b c, ex k = .func (.func 69) #[] (c3 a b c) → (k = 0 ∨ k = 1 ∨ k = 4 ∨ k = 5) → RdP B r g cap T ex f 69 (c3 a b c) (.lev k)
  l3 : ∀ a b c, ex 3 = .func (.func 75) #[] (c3 a b c) → RdP B r g cap T ex f 75 (c3 a b c) (.lev 3)
  l2 : ∀ a b c, ex 2 = .func (.func 76) #[] (c3 a b c) → RdP B r g cap T ex f 76 (c3 a b c) (.lev 2)
  l6 : RdP B r g cap T ex f 54 #[.pointer (some ⟨r, 0, none⟩)] (.lev 6)
  th : RdT B r g cap T ex f
  si : RdP B r g cap T ex f 87 #[.pointer (some ⟨r, 0, none⟩)] .single
  na : RdN B r g cap T ex f 89 .arg
  np : RdN B r g cap T ex f 90 .par
  ne : RdN B r g cap T ex f 93 .ent
  nk : RdN B r g cap T ex f 94 .key
  ra : RdR B r g cap T ex f 89 .arg
  rp : RdR B r g cap T ex f 90 .par
  re : RdR B r g cap T ex f 93 .ent
  rk : RdR B r g cap T ex f 94 .key
  bd : RdB B r g cap T ex f
  bl : RdP B r g cap T ex f 59 #[.pointer (some ⟨r, 0, none⟩)] .block
  st : RdP B r g cap T ex f 45 #[.pointer (some ⟨r, 0, none⟩)] .stmt
  ch : RdP B r g cap T ex f 61 #[.pointer (some ⟨r, 0, none⟩)] .choice

theorem pP_zero (T : List ATok) (nt : Nt) (i o : Nat) : pP T 0 nt i o = .out := by simp [pP]

theorem con_zero (B : World) (r g cap : Nat) (T : List ATok) (ex : Nat → Value) : Con B r g cap T ex 0 := by
  constructor <;> intros <;> intro <;> intros <;> exact absurd (pP_zero _ _ _ _) (by assumption)

theorem c3_inj {f f' a b c a' b' c' : Nat} (h : Value.func (.func f) #[] #[.pointer (some ⟨a, 0, none⟩), .pointer (some ⟨b, 0, none⟩), .pointer (some ⟨c, 0, none⟩)] = .func (.func f') #[] (c3 a' b' c')) : a = a' ∧ b = b' ∧ c = c' := by
  unfold c3 at h
  injection h with h1 h2 h3
  simp at h3
  exact h3

theorem con_any {B : World} {r g cap : Nat} {T : List ATok} {ex : Nat → Value} (hl : Lvs B r ex) : ∀ f, Con B r g cap T ex f := by
  intro f
  induction f using Nat.strongRecOn with
  | _ f ih =>
  cases f with
  | zero => exact con_zero B r g cap T ex
  | succ f =>
  have C := fun f' (h : f' ≤ f) => ih f' (Nat.lt_succ_of_le h)
  have D := C f (Nat.le_refl f)
  obtain ⟨a5, b5, c5, s5, e5, q5a, q5b, q5c, q5s⟩ := hl.l5
  obtain ⟨a4, b4, c4, s4, e4, q4a, q4b, q4c, q4s⟩ := hl.l4
  obtain ⟨a3, b3, c3', s3, e3, q3a, q3b, q3c, q3s⟩ := hl.l3
  obtain ⟨a2, b2, c2, e2, q2a, q2b, q2c⟩ := hl.l2
  obtain ⟨a1, b1, c1, s1, e1, q1a, q1b, q1c, q1s⟩ := hl.l1
  obtain ⟨a0, b0, c0, s0, e0, q0a, q0b, q0c, q0s⟩ := hl.l0
  rw [hl.l6] at q5a
  rw [e5] at q4a
  rw [e4] at q3a
  rw [e3] at q2b
  rw [e2] at q1a q2c
  rw [e1] at q0a
  have E0 := fun f' (h : f' ≤ f) => (C f' h).lv 0 a0 b0 c0 e0 (.inl rfl)
  constructor
  case lv =>
    intro k a b c e hk
    rcases hk with rfl | rfl | rfl | rfl
    · obtain ⟨rfl, rfl, rfl⟩ := c3_inj (e0.symm.trans e)
      exact fl1_l a1 b1 c1 f 0 (by decide) (by decide) (by decide) _ _ _ s0 q0a q0b q0c q0s (fun f' h => (C f' h).lv 1 a1 b1 c1 e1 (.inr (.inl rfl)))
    · obtain ⟨rfl, rfl, rfl⟩ := c3_inj (e1.symm.trans e)
      exact fl1_d a2 b2 c2 f 1 (by decide) (by decide) (by decide) _ _ _ s1 q1a q1b q1c q1s (fun f' h => (C f' h).l2 a2 b2 c2 e2)
    · obtain ⟨rfl, rfl, rfl⟩ := c3_inj (e4.symm.trans e)
      exact fl1_l a5 b5 c5 f 4 (by decide) (by decide) (by decide) _ _ _ s4 q4a q4b q4c q4s (fun f' h => (C f' h).lv 5 a5 b5 c5 e5 (.inr (.inr (.inr rfl))))
    · obtain ⟨rfl, rfl, rfl⟩ := c3_inj (e5.symm.trans e)
      exact fl1_n f 5 (by decide) (by decide) (by decide) _ _ _ s5 q5a q5b q5c q5s (fun f' h => (C f' h).l6)
  case l3 =>
    intro a b c e
    obtain ⟨rfl, rfl, rfl⟩ := c3_inj (e3.symm.trans e)
    exact cm1_l a4 b4 c4 f _ _ _ s3 q3a q3b q3c q3s (fun f' h => (C f' h).lv 4 a4 b4 c4 e4 (.inr (.inr (.inl rfl))))
  case l2 =>
    intro a b c e
    obtain ⟨rfl, rfl, rfl⟩ := c3_inj (e2.symm.trans e)
    exact dn1_any a3 b3 c3' f _ _ _ q2a q2b q2c (D.l3 a3 b3 c3' e3) (D.l2 _ _ _ e2)
  case l6 => exact negated_any f D.th D.l6
  case th => exact thing_any a0 b0 c0 e0 f D.si (fun f' h => (C f' h).ra) E0
  case si => exact single_any a0 b0 c0 e0 f (E0 f (Nat.le_refl f)) D.re D.rk D.bd
  case na => exact argument_any a0 b0 c0 e0 f (E0 f (Nat.le_refl f))
  case np => exact parameter_any f
  case ne => exact entry_any a0 b0 c0 e0 f (E0 f (Nat.le_refl f))
  case nk => exact key_any a0 b0 c0 e0 f (E0 f (Nat.le_refl f))
  case ra => exact row_a f (fun f' h => (C f' h).na)
  case rp => exact row_p f (fun f' h => (C f' h).np)
  case re => exact row_e f (fun f' h => (C f' h).ne)
  case rk => exact row_k f (fun f' h => (C f' h).nk)
  case bd => exact withBody_any f D.rp D.bl
  case bl => exact block_any f (fun f' h => (C f' h).st)
  case st => exact stmt_any a0 b0 c0 e0 f (E0 f (Nat.le_refl f)) D.bl D.ch D.bd
  case ch => exact choice_any a0 b0 c0 e0 f (E0 f (Nat.le_refl f)) D.bl D.ch

end Go.Proofs.YtlcieebneclmpaaDoor

set_option linter.unusedSimpArgs false
set_option linter.unusedVariables false
namespace Go.Proofs.YtlcieebneclmpaaDoor
open Go Go.RowKit

theorem hmf_ : ∀ (fn : Fn) (first cap : Array Value) (w : World), (Instr.makeFunc fn first cap).run Tryd.prog w = .ok (.func fn first cap) w := fun _ _ _ _ => rfl

theorem ce_at {w : World} {r n : Nat} (hn : w.heap.size = n) (hr : r < n) (v : Value) (e : TypeId) : CeM (w.alloc (.cells #[v] e)) r n v := by
  subst hn
  exact ⟨by omega, (Blk.new w #[v] e).lt, (Blk.new w #[v] e).cell 0⟩

theorem CeM.bw {w w' : World} {r a : Nat} {v : Value} (h : CeM w r a v) (k : Bw w w') : CeM w' r a v := h.kp (Kp.of_bw k)

section
variable {w : World} {r : Nat}

set_option maxRecDepth 100000 in
set_option maxHeartbeats 4000000 in
theorem fromLeft_any (v sv : Value) (ss : List ByteArray) (hv : ∃ fn a c, v = .func (.func fn) a c) (hr : r < w.heap.size) (hs : SgM w r sv ss) :
    Calls Tryd.prog 53 #[.pointer (some ⟨r, 0, none⟩), v, sv] w fun e w' => ∃ v', e = .returned v' ∧ LeM w' r 69 ss v' v ∧ Bw w w' := by
  have hmf := hmf_
  have HS := hid hs
  obtain ⟨fn, a, c, rfl⟩ := hv
  obtain ⟨s, sc, rfl, _⟩ := hs
  go_enter Tryd.func53, Tryd.ntmps53
  go_wp2
  all_goals go_ret
  all_goals exact ⟨_, rfl, ⟨w.heap.size + 1, w.heap.size, w.heap.size + 1 + 1, _, rfl, (ce_at (by simp) (by omega) _ _).bw (Bw.alloc (Bw.refl _) _), (ce_at rfl hr _ _).bw (Bw.alloc (Bw.alloc (Bw.refl _) _) _), ce_at (by simp) (by omega) _ _, HS.out.bw (by repeat (first | exact Bw.refl _ | apply Bw.alloc | apply Bw.drewN | apply Bw.drew))⟩, (by repeat (first | exact Bw.refl _ | apply Bw.alloc | apply Bw.drewN | apply Bw.drew))⟩

set_option maxRecDepth 100000 in
set_option maxHeartbeats 4000000 in
theorem compared_any (v sv : Value) (ss : List ByteArray) (hv : ∃ fn a c, v = .func (.func fn) a c) (hr : r < w.heap.size) (hs : SgM w r sv ss) :
    Calls Tryd.prog 55 #[.pointer (some ⟨r, 0, none⟩), v, sv] w fun e w' => ∃ v', e = .returned v' ∧ LeM w' r 75 ss v' v ∧ Bw w w' := by
  have hmf := hmf_
  have HS := hid hs
  obtain ⟨fn, a, c, rfl⟩ := hv
  obtain ⟨s, sc, rfl, _⟩ := hs
  go_enter Tryd.func55, Tryd.ntmps55
  go_wp2
  all_goals go_ret
  all_goals exact ⟨_, rfl, ⟨w.heap.size + 1, w.heap.size, w.heap.size + 1 + 1, _, rfl, (ce_at (by simp) (by omega) _ _).bw (Bw.alloc (Bw.refl _) _), (ce_at rfl hr _ _).bw (Bw.alloc (Bw.alloc (Bw.refl _) _) _), ce_at (by simp) (by omega) _ _, HS.out.bw (by repeat (first | exact Bw.refl _ | apply Bw.alloc | apply Bw.drewN | apply Bw.drew))⟩, (by repeat (first | exact Bw.refl _ | apply Bw.alloc | apply Bw.drewN | apply Bw.drew))⟩

set_option maxRecDepth 100000 in
set_option maxHeartbeats 4000000 in
theorem denied_any (v : Value) (hv : ∃ fn a c, v = .func (.func fn) a c) (hr : r < w.heap.size) :
    Calls Tryd.prog 56 #[.pointer (some ⟨r, 0, none⟩), v] w fun e w' => ∃ v', e = .returned v' ∧ LnM w' r v' v ∧ Bw w w' := by
  have hmf := hmf_
  obtain ⟨fn, a, c, rfl⟩ := hv
  go_enter Tryd.func56, Tryd.ntmps56
  go_wp2
  all_goals go_ret
  all_goals exact ⟨_, rfl, ⟨w.heap.size, w.heap.size + 1, w.heap.size + 1 + 1, rfl, (ce_at rfl hr _ _).bw (Bw.alloc (Bw.alloc (Bw.refl _) _) _), (ce_at (by simp) (by omega) _ _).bw (Bw.alloc (Bw.refl _) _), ce_at (by simp) (by omega) _ _⟩, (by repeat (first | exact Bw.refl _ | apply Bw.alloc | apply Bw.drewN | apply Bw.drew))⟩

theorem LeM.form {w : World} {r fn : Nat} {ss : List ByteArray} {v v' : Value} (h : LeM w r fn ss v v') : ∃ f a c, v = .func (.func f) a c := by
  obtain ⟨a, b, c, sv, e, _⟩ := h
  exact ⟨_, _, _, e⟩

theorem LnM.form {w : World} {r : Nat} {v v' : Value} (h : LnM w r v v') : ∃ f a c, v = .func (.func f) a c := by
  obtain ⟨a, b, c, e, _⟩ := h
  exact ⟨_, _, _, e⟩

theorem LeM.bw {w w' : World} {r fn : Nat} {ss : List ByteArray} {v v' : Value} (h : LeM w r fn ss v v') (k : Bw w w') : LeM w' r fn ss v v' := h.kp (Kp.of_bw k)
theorem LnM.bw {w w' : World} {r : Nat} {v v' : Value} (h : LnM w r v v') (k : Bw w w') : LnM w' r v v' := h.kp (Kp.of_bw k)

set_option maxRecDepth 100000 in
set_option maxHeartbeats 4000000 in
theorem levels_any (hr : r < w.heap.size) :
    Calls Tryd.prog 42 #[.pointer (some ⟨r, 0, none⟩)] w fun e w' => ∃ ex, e = .returned (ex 0) ∧ Lvs w' r ex ∧ Bw w w' := by
  have hmf := hmf_
  have B := hid (Bw.refl w)
  have HR := hid hr
  clear hr
  go_enter Tryd.func42, Tryd.ntmps42
  go_upto_region 2 with (first
    | (go_at_call 53; refine (fromLeft_any _ _ (sgl 5) ⟨_, _, _, rfl⟩ (by have := B.out.size; have := HR.out; simp; omega) (sgm_new _ (by have := B.out.size; have := HR.out; omega) (sgl 5) (by decide))).mono ?_; rintro e w5 ⟨v5, rfl, h5, hb5⟩; have H5 := hid h5; have B := hid (B.out.trans (Bw.trans (by repeat (first | exact Bw.refl _ | apply Bw.alloc | apply Bw.drewN | apply Bw.drew)) hb5)); clear h5 hb5)
    | fail)
  go_upto_region 3 with (first
    | (go_at_call 53; refine (fromLeft_any v5 _ (sgl 4) H5.out.form (by have := B.out.size; have := HR.out; simp; omega) (sgm_new _ (by have := B.out.size; have := HR.out; omega) (sgl 4) (by decide))).mono ?_; rintro e w4 ⟨v4, rfl, h4, hb4⟩; have H4 := hid h4; have H5 := hid (H5.out.bw (Bw.trans (by repeat (first | exact Bw.refl _ | apply Bw.alloc | apply Bw.drewN | apply Bw.drew)) hb4)); have B := hid (B.out.trans (Bw.trans (by repeat (first | exact Bw.refl _ | apply Bw.alloc | apply Bw.drewN | apply Bw.drew)) hb4)); clear h4 hb4)
    | fail)
  go_upto_region 4 with (first
    | (go_at_call 55; refine (compared_any v4 _ (sgl 3) H4.out.form (by have := B.out.size; have := HR.out; simp; omega) (sgm_new _ (by have := B.out.size; have := HR.out; omega) (sgl 3) (by decide))).mono ?_; rintro e w3 ⟨v3, rfl, h3, hb3⟩; have H3 := hid h3; have H4 := hid (H4.out.bw (Bw.trans (by repeat (first | exact Bw.refl _ | apply Bw.alloc | apply Bw.drewN | apply Bw.drew)) hb3)); have H5 := hid (H5.out.bw (Bw.trans (by repeat (first | exact Bw.refl _ | apply Bw.alloc | apply Bw.drewN | apply Bw.drew)) hb3)); have B := hid (B.out.trans (Bw.trans (by repeat (first | exact Bw.refl _ | apply Bw.alloc | apply Bw.drewN | apply Bw.drew)) hb3)); clear h3 hb3)
    | fail)
  go_upto_region 5 with (first
    | (go_at_call 56; refine (denied_any v3 H3.out.form (by have := B.out.size; have := HR.out; omega)).mono ?_; rintro e w2 ⟨v2, rfl, h2, hb2⟩; have H2 := hid h2; have H3 := hid (H3.out.bw hb2); have H4 := hid (H4.out.bw hb2); have H5 := hid (H5.out.bw hb2); have B := hid (B.out.trans hb2); clear h2 hb2)
    | (go_at_call 53; refine (fromLeft_any v2 _ (sgl 1) H2.out.form (by have := B.out.size; have := HR.out; simp; omega) (sgm_new _ (by have := B.out.size; have := HR.out; omega) (sgl 1) (by decide))).mono ?_; rintro e w1 ⟨v1, rfl, h1, hb1⟩; have H1 := hid h1; have H2 := hid (H2.out.bw (Bw.trans (by repeat (first | exact Bw.refl _ | apply Bw.alloc | apply Bw.drewN | apply Bw.drew)) hb1)); have H3 := hid (H3.out.bw (Bw.trans (by repeat (first | exact Bw.refl _ | apply Bw.alloc | apply Bw.drewN | apply Bw.drew)) hb1)); have H4 := hid (H4.out.bw (Bw.trans (by repeat (first | exact Bw.refl _ | apply Bw.alloc | apply Bw.drewN | apply Bw.drew)) hb1)); have H5 := hid (H5.out.bw (Bw.trans (by repeat (first | exact Bw.refl _ | apply Bw.alloc | apply Bw.drewN | apply Bw.drew)) hb1)); have B := hid (B.out.trans (Bw.trans (by repeat (first | exact Bw.refl _ | apply Bw.alloc | apply Bw.drewN | apply Bw.drew)) hb1)); clear h1 hb1)
    | fail)
  go_wp2_with (first
    | (go_at_call 53; refine (fromLeft_any v1 _ (sgl 0) H1.out.form (by have := B.out.size; have := HR.out; simp; omega) (sgm_new _ (by have := B.out.size; have := HR.out; omega) (sgl 0) (by decide))).mono ?_; rintro e w0 ⟨v0, rfl, h0, hb0⟩; have H0 := hid h0; have H1 := hid (H1.out.bw (Bw.trans (by repeat (first | exact Bw.refl _ | apply Bw.alloc | apply Bw.drewN | apply Bw.drew)) hb0)); have H2 := hid (H2.out.bw (Bw.trans (by repeat (first | exact Bw.refl _ | apply Bw.alloc | apply Bw.drewN | apply Bw.drew)) hb0)); have H3 := hid (H3.out.bw (Bw.trans (by repeat (first | exact Bw.refl _ | apply Bw.alloc | apply Bw.drewN | apply Bw.drew)) hb0)); have H4 := hid (H4.out.bw (Bw.trans (by repeat (first | exact Bw.refl _ | apply Bw.alloc | apply Bw.drewN | apply Bw.drew)) hb0)); have H5 := hid (H5.out.bw (Bw.trans (by repeat (first | exact Bw.refl _ | apply Bw.alloc | apply Bw.drewN | apply Bw.drew)) hb0)); have B := hid (B.out.trans (Bw.trans (by repeat (first | exact Bw.refl _ | apply Bw.alloc | apply Bw.drewN | apply Bw.drew)) hb0)); clear h0 hb0)
    | fail)
  all_goals go_ret
  all_goals exact ⟨fun k => if k = 0 then v0 else if k = 1 then v1 else if k = 2 then v2 else if k = 3 then v3 else if k = 4 then v4 else if k = 5 then v5 else .func (.func 54) #[.pointer (some ⟨r, 0, none⟩)] #[], rfl, ⟨rfl, H5.out, H4.out, H3.out, H2.out, H1.out, H0.out⟩, B.out⟩

set_option maxRecDepth 100000 in
set_option maxHeartbeats 4000000 in
theorem newReader_any {g cap : Nat} {T : List ATok} (ht : TkM w g T) (hl : T.length ≤ 20000) (h0 : 0 < T.length) (he : EndT T) :
    Calls Tryd.prog 26 #[.slice (some ⟨g, 0, none⟩) T.length cap] w fun e w' => ∃ r ex, e = .returned (.pointer (some ⟨r, 0, none⟩)) ∧ RI w' w' r g cap T ex 0 0 ∧ w.heap.size ≤ r ∧ Bw w w' := by
  have HT := hid ht
  have HL := hid hl
  have H0 := hid h0
  have HE := hid he
  clear ht hl h0 he
  go_enter Tryd.func26, Tryd.ntmps26
  go_wp2_with (first
    | (go_at_call 42; refine (levels_any (by simp)).mono ?_; rintro e w1 ⟨ex, rfl, hl1, hb1⟩; have HV := hid hl1; have HK := hid ((Blk.new w _ _).bw hb1); have hkl := HK.out.lt; have zz := HK.out.cell; have zf := HK.out.free; have B1 := hid (Bw.trans (Bw.alloc (Bw.refl w) _) hb1); have hfx : ∃ f a c, ex 0 = .func (.func f) a c := hl1.l0.form; obtain ⟨ff, fa, fc, hfx⟩ := hfx; have HFX := hid hfx; clear hl1 hb1)
    | fail)
  all_goals go_ret
  all_goals
    have hk : Kp w.heap.size w (w1.setCell ⟨w.heap.size, 3, none⟩ (ex 0)) := (Kp.of_bw B1.out).set 3 _
    have hg := HT.out.1
    rw [← HFX.out]
    exact ⟨w.heap.size, ex, rfl, ⟨by simpa using HK.out.set 3 (ex 0), Kp.refl _ _, HT.out.kp hk (by omega), HV.out.kp ((Kp.refl _ _).set 3 _), by omega, H0.out, by omega, HL.out, HE.out⟩, Nat.le_refl _, hk.toBw (Nat.le_refl _)⟩

end

end Go.Proofs.YtlcieebneclmpaaDoor

set_option linter.unusedSimpArgs false
set_option linter.unusedVariables false
namespace Go.Proofs.YtlcieebneclmpaaDoor
open Go Go.RowKit

theorem flat_get : ∀ (l : List ATok) (i : Nat) (hi : i < l.length) (j : Nat) (hj : j < 4), (l.flatMap tkV)[i * 4 + j]? = (tkV l[i])[j]?
  | [], i, hi, _, _ => by simp at hi
  | t :: u, 0, _, j, hj => by
    rw [List.flatMap_cons, Nat.zero_mul, Nat.zero_add, List.getElem?_append_left (by simp [tkV]; omega)]
    rfl
  | t :: u, i + 1, hi, j, hj => by
    have hi' : i < u.length := by simpa using hi
    rw [List.flatMap_cons, List.getElem?_append_right (by simp [tkV]; omega)]
    have e : (i + 1) * 4 + j - (tkV t).length = i * 4 + j := by simp [tkV]; omega
    rw [e, flat_get u i hi' j hj]
    simp

theorem Tk.at {w : World} {base : Nat} {v : Value} {l : List ATok} (h : Tk w base v l) (hl : 0 < l.length) :
    ∃ g cap, v = .slice (some ⟨g, 0, none⟩) l.length cap ∧ base ≤ g ∧ g < w.heap.size ∧ l.length ≤ cap ∧ ∀ i (hi : i < l.length), w.cell? ⟨g, i * 4, none⟩ = some (.int .i64 l[i].1) ∧ w.cell? ⟨g, i * 4 + 1, none⟩ = some (.string (strOfNums l[i].2.1)) ∧ w.cell? ⟨g, i * 4 + 2, none⟩ = some (.int .i64 l[i].2.2.1) ∧ w.cell? ⟨g, i * 4 + 3, none⟩ = some (.int .i64 l[i].2.2.2) := by
  rcases h.2 with ⟨_, h0⟩ | ⟨g, cap, cur, rfl, hb, hg, hnc, hmx, hsz, htake⟩
  · omega
  · refine ⟨g, cap, rfl, hb, (Array.getElem?_eq_some_iff.1 hg).1, hnc, fun i hi => ?_⟩
    have key : ∀ j, j < 4 → w.cell? ⟨g, i * 4 + j, none⟩ = (tkV l[i])[j]? := by
      intro j hj
      rw [cell_of_row w g (i * 4 + j) cur _ (0, 0) hg, ← flat_get l i hi j hj, ← htake, List.getElem?_take, if_pos (by omega)]
      simp
    have k0 := key 0 (by omega)
    have k1 := key 1 (by omega)
    have k2 := key 2 (by omega)
    have k3 := key 3 (by omega)
    exact ⟨k0, k1, k2, k3⟩


theorem Bw.trans' {a b c : World} (h : Bw a b) (k : Below a.heap.size b c) : Bw a c := Below.trans h k

/-- What comes of Parse. -/
def GotP (n : Nat) (w : World) (R : Res) (e : Ending) (w' : World) : Prop :=
  match R with
  | .ok x _ _ => ∃ r, e = .returned (.tuple #[r, .int .i64 0, .int .i64 n]) ∧ Nd w' w.heap.size r x.flat ∧ Bw w w'
  | .bad k a => e = .returned (.tuple #[.slice none 0 0, .int .i64 k, .int .i64 a]) ∧ Bw w w'
  | .out => False

/-- Parse's three results, as they are laid. -/
theorem three_new (w : World) : Blk (((w.alloc (.cells #[.slice none 0 0] 22)).alloc (.cells #[.int .i64 0] 24)).alloc (.cells #[.int .i64 0] 3)) w.heap.size #[.slice none 0 0] 22 ∧
    Blk (((w.alloc (.cells #[.slice none 0 0] 22)).alloc (.cells #[.int .i64 0] 24)).alloc (.cells #[.int .i64 0] 3)) (w.heap.size + 1) #[.int .i64 0] 24 ∧
    Blk (((w.alloc (.cells #[.slice none 0 0] 22)).alloc (.cells #[.int .i64 0] 24)).alloc (.cells #[.int .i64 0] 3)) (w.heap.size + 1 + 1) #[.int .i64 0] 3 := by
  refine ⟨((Blk.new w _ _).alloc _).alloc _, ?_, ?_⟩
  · have := (Blk.new (w.alloc (.cells #[.slice none 0 0] 22)) #[.int .i64 0] 24).alloc (.cells #[.int .i64 0] 3)
    simpa using this
  · have := Blk.new ((w.alloc (.cells #[.slice none 0 0] 22)).alloc (.cells #[.int .i64 0] 24)) #[.int .i64 0] 3
    simpa using this

set_option maxRecDepth 100000 in
set_option maxHeartbeats 8000000 in
theorem parse_good (v : Value) (b : List Int) (w : World) (T : List ATok) (m f : Nat) (R : Res) (h : By w v b) (hs : Sg w) (hm : b.length ≤ 1000000) (hlx : lexA b = (T, 0, m)) (hT0 : 0 < T.length) (hTl : T.length ≤ 20000) (hE : EndT T) (hf : pP T f (.prog []) 0 0 = R) (hR : R ≠ .out) (hsz : ∀ x c j, R = .ok x c j → x.size ≤ 100000) :
    Calls Tryd.prog 15 #[v] w (GotP b.length w R) := by
  have HX := hid (fun w1 (hb : Bw w w1) => xLex_any v b w1 (h.bw hb) (hs.bw hb) hm)
  obtain ⟨av, cv, rfl⟩ := h.form
  rw [hlx] at HX
  dsimp only at HX
  have HE := hid hE
  have HT0 := hid hT0
  have HTL := hid hTl
  have HF := hid hf
  have HR := hid hR
  have HSZ := hid hsz
  have hmf : ∀ (fn : Fn) (first cap : Array Value) (w : World), (Instr.makeFunc fn first cap).run Tryd.prog w = .ok (.func fn first cap) w := fun _ _ _ _ => rfl
  clear h hs hlx hE hT0 hTl hf hR hsz
  go_enter_defers Tryd.func15, Tryd.ntmps15
  go_upto_region 5 with (first
    | (go_at_call 24; refine (HX.out _ (by repeat (first | exact Bw.refl _ | apply Bw.alloc | apply Bw.drewN | apply Bw.drew))).mono ?_; rintro e w1 ⟨rr, rfl, htk, hb1⟩; have h2 := (three_new w).1.bw hb1; have h3 := (three_new w).2.1.bw hb1; have h4 := (three_new w).2.2.bw hb1; have c2 := h2.cell; have c3 := h3.cell; have c4 := h4.cell; have f2 := h2.free; have f3 := h3.free; have f4 := h4.free; have l4 := h4.lt; have l3 := h3.lt; have l2 := h2.lt; have H2 := hid h2; have H3 := hid h3; have H4 := hid h4; have B1 := hid (Bw.trans (show Bw w _ from (by repeat (first | exact Bw.refl _ | apply Bw.alloc | apply Bw.drewN | apply Bw.drew))) hb1); have HTK := hid htk; clear htk hb1 h2 h3 h4)
    | fail)
  have hw3 : (((w.alloc (.cells #[.slice none 0 0] 22)).alloc (.cells #[.int .i64 0] 24)).alloc (.cells #[.int .i64 0] 3)).heap.size = w.heap.size + 3 := by simp
  rw [hw3] at HTK
  obtain ⟨g, cap, hrr, hg1, hg2, _, hgc⟩ := HTK.out.at HT0.out
  subst hrr
  have k2 : Blk ((w1.setCell ⟨w.heap.size + 1, 0, none⟩ (.int .i64 0)).setCell ⟨w.heap.size + 1 + 1, 0, none⟩ (.int .i64 (m : Int))) w.heap.size #[.slice none 0 0] 22 := (H2.out.other (p := ⟨w.heap.size + 1, 0, none⟩) (by dsimp only; omega) _).other (p := ⟨w.heap.size + 1 + 1, 0, none⟩) (by dsimp only; omega) _
  have k3 : Blk ((w1.setCell ⟨w.heap.size + 1, 0, none⟩ (.int .i64 0)).setCell ⟨w.heap.size + 1 + 1, 0, none⟩ (.int .i64 (m : Int))) (w.heap.size + 1) #[.int .i64 0] 24 := (by simpa using (H3.out.set 0 (.int .i64 0)).other (p := ⟨w.heap.size + 1 + 1, 0, none⟩) (by dsimp only; omega) (.int .i64 (m : Int)))
  have k4 : Blk ((w1.setCell ⟨w.heap.size + 1, 0, none⟩ (.int .i64 0)).setCell ⟨w.heap.size + 1 + 1, 0, none⟩ (.int .i64 (m : Int))) (w.heap.size + 1 + 1) #[.int .i64 (m : Int)] 3 := (by simpa using (H4.out.other (p := ⟨w.heap.size + 1, 0, none⟩) (by dsimp only; omega) (.int .i64 0)).set 0 (.int .i64 (m : Int)))
  have hbw : Bw w ((w1.setCell ⟨w.heap.size + 1, 0, none⟩ (.int .i64 0)).setCell ⟨w.heap.size + 1 + 1, 0, none⟩ (.int .i64 (m : Int))) := (B1.out.setCell (p := ⟨w.heap.size + 1, 0, none⟩) (by dsimp only; omega) _).setCell (p := ⟨w.heap.size + 1 + 1, 0, none⟩) (by dsimp only; omega) _
  have htm : TkM ((w1.setCell ⟨w.heap.size + 1, 0, none⟩ (.int .i64 0)).setCell ⟨w.heap.size + 1 + 1, 0, none⟩ (.int .i64 (m : Int))) g T := by
    have e9 := fun j => World.cell?_of_block (w := w1) (w' := (w1.setCell ⟨w.heap.size + 1, 0, none⟩ (.int .i64 0)).setCell ⟨w.heap.size + 1 + 1, 0, none⟩ (.int .i64 (m : Int))) (a := ⟨g, j, none⟩) ((Below.heap_setCell _ ⟨w.heap.size + 1 + 1, 0, none⟩ _ g (by dsimp only; omega)).trans (Below.heap_setCell _ ⟨w.heap.size + 1, 0, none⟩ _ g (by dsimp only; omega)))
    refine ⟨by simpa [World.setCell] using hg2, fun i hi => ?_⟩
    rw [e9, e9, e9, e9]
    exact hgc i hi
  clear c2 c3 c4 f2 f3 f4 H2 H3 H4 B1 HTK hw3 hgc hg2 hg1
  generalize (w1.setCell ⟨w.heap.size + 1, 0, none⟩ (.int .i64 0)).setCell ⟨w.heap.size + 1 + 1, 0, none⟩ (.int .i64 (m : Int)) = W at *
  have K2 := hid k2
  have K3 := hid k3
  have K4 := hid k4
  have BW := hid hbw
  have HTM := hid htm
  clear k2 k3 k4 hbw htm l2 l3 l4
  cases R with
  | out => exact absurd rfl HR.out
  | bad n a =>
    go_wp2_with (first
      | (go_at_call 26; refine (newReader_any HTM.out HTL.out HT0.out HE.out).mono ?_; rintro e w5 ⟨rd, ex, rfl, hri, hrd, hb5⟩; have HRI := hid hri; have HRD := hid hrd; have HB5 := hid hb5; clear hri hrd hb5)
      | (go_at_call 27; refine (prog_any f (fun f' _ => (con_any HRI.out.lv f').st) _ _ _ HRI.out (by omega) (by rw [HF.out]; exact nofun)).mono ?_; intro e w6 h6; rw [HF.out] at h6; obtain ⟨rfl, hk6⟩ := h6; have HK6 := hid hk6; clear hk6)
      | fail)
    have hz := K4.out.lt
    have hrd := HRD.out
    have q2 := (K2.out.bw HB5.out).kp HK6.out (by omega)
    have q3 := (K3.out.bw HB5.out).kp HK6.out (by omega)
    have q4 := (K4.out.bw HB5.out).kp HK6.out (by omega)
    have hb6 : Bw w w6 := BW.out.trans ((Kp.of_bw HB5.out).trans HK6.out |>.toBw (by omega))
    refine leaves_cons (f := 25) (args := #[.pointer (some ⟨w.heap.size, 0, none⟩), .pointer (some ⟨w.heap.size + 1, 0, none⟩), .pointer (some ⟨w.heap.size + 1 + 1, 0, none⟩)]) (by simp) (by simp [go_sem]) ?_
    refine (catch_fault n a w.heap.size _ _ _ [] _ q2 q3 q4).mono ?_
    rintro e u' w'' ⟨rfl, rfl, d2, d3, d4, hb7⟩
    have hbx : Bw w w'' := hb6.trans' hb7
    clear q2 q3 q4 hb6 hb7
    simp [Leaves, settle, results, Tryd.results15, go_sem, d2, d3, d4]
    exact ⟨rfl, hbx⟩
  | ok x c j =>
    have HLB := hid hm
    go_wp2_with (first
      | (go_at_call 26; refine (newReader_any HTM.out HTL.out HT0.out HE.out).mono ?_; rintro e w5 ⟨rd, ex, rfl, hri, hrd, hb5⟩; have HRI := hid hri; have HRD := hid hrd; have HB5 := hid hb5; clear hri hrd hb5)
      | (go_at_call 27; refine (prog_any f (fun f' _ => (con_any HRI.out.lv f').st) _ _ _ HRI.out (by omega) (by rw [HF.out]; exact nofun)).mono ?_; intro e w6 h6; rw [HF.out] at h6; obtain ⟨bp, rfl, hp6, _, hk6⟩ := h6; have HP6 := hid hp6; have HK6 := hid hk6; clear hp6 hk6)
      | (go_at_call 28; refine (append_any x w6 _ bp w6.heap.size (.slice none 0 0) [] HP6.out (World.ownsRow_nil _ _ _ _) (Nat.le_refl _) (fun n hn => hn.elim (fun q => False.elim q) (fun q => q.2)) (by have := HSZ.out x c j rfl; simpa using this)).mono ?_; rintro e w7 ⟨v7, rfl, hn7, hb7⟩; obtain ⟨a7, N7, c7, e7⟩ : ∃ a N c, v7 = .slice a N c := (by obtain ⟨a, c, e⟩ := own_form hn7; exact ⟨a, _, c, e⟩); subst e7; have HN7 := hid hn7; have HB7 := hid hb7; have hz := K4.out.lt; have hrd := HRD.out; have q2 := ((K2.out.bw HB5.out).kp HK6.out (by omega)).bw hb7; have q3 := ((K3.out.bw HB5.out).kp HK6.out (by omega)).bw hb7; have q4 := ((K4.out.bw HB5.out).kp HK6.out (by omega)).bw hb7; have c2 := q2.cell; have c3 := q3.cell; have c4 := q4.cell; have f2 := q2.free; have f3 := q3.free; have f4 := q4.free; have l2 := q2.lt; have l3 := q3.lt; have l4 := q4.lt; have Q2 := hid q2; have Q3 := hid q3; have Q4 := hid q4; clear hn7 hb7 q2 q3 q4)
      | fail)
    refine leaves_cons (f := 25) (args := #[.pointer (some ⟨w.heap.size, 0, none⟩), .pointer (some ⟨w.heap.size + 1, 0, none⟩), .pointer (some ⟨w.heap.size + 1 + 1, 0, none⟩)]) (by simp) (by simp [go_sem]) ?_
    refine (catch_idle _ _ _ _).mono ?_
    rintro e u' w'' ⟨rfl, rfl, hw''⟩
    subst w''
    have h6 := HK6.out.size
    have h5 := HB5.out.size
    have hw6 : w.heap.size + 1 + 1 < w6.heap.size := by omega
    have hnd : Nd (((w7.setCell ⟨w.heap.size, 0, none⟩ (.slice a7 N7 c7)).setCell ⟨w.heap.size + 1, 0, none⟩ (.int .i64 0)).setCell ⟨w.heap.size + 1 + 1, 0, none⟩ (.int .i64 (b.length : Int))) w.heap.size (.slice a7 N7 c7) x.flat := by
      have h9 := HN7.out
      rw [List.nil_append] at h9
      refine own_base (base := w6.heap.size) (own_keep h9 (fun q hq => ?_)) (by omega)
      have hq6 := (h9.lt q hq).1
      exact (Below.heap_setCell _ ⟨w.heap.size + 1 + 1, 0, none⟩ _ q (by dsimp only; omega)).trans ((Below.heap_setCell _ ⟨w.heap.size + 1, 0, none⟩ _ q (by dsimp only; omega)).trans (Below.heap_setCell _ ⟨w.heap.size, 0, none⟩ _ q (by dsimp only; omega)))
    have hb7 : Bw w w7 := BW.out.trans (((Kp.of_bw HB5.out).trans HK6.out |>.toBw (by omega)).trans HB7.out)
    have hbx : Bw w (((w7.setCell ⟨w.heap.size, 0, none⟩ (.slice a7 N7 c7)).setCell ⟨w.heap.size + 1, 0, none⟩ (.int .i64 0)).setCell ⟨w.heap.size + 1 + 1, 0, none⟩ (.int .i64 (b.length : Int))) := ((hb7.setCell (p := ⟨w.heap.size, 0, none⟩) (Nat.le_refl _) _).setCell (p := ⟨w.heap.size + 1, 0, none⟩) (by dsimp only; omega) _).setCell (p := ⟨w.heap.size + 1 + 1, 0, none⟩) (by dsimp only; omega) _
    have HND := hid hnd
    have HBX := hid hbx
    clear hnd hbx hb7
    simp [Leaves, settle, results, Tryd.results15, go_sem, c2, c3, c4, f2, f3, f4, l2, l3, l4]
    exact ⟨_, rfl, HND.out, HBX.out⟩

end Go.Proofs.YtlcieebneclmpaaDoor

