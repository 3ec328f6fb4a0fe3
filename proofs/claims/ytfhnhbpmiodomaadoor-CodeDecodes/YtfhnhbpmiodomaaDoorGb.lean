/- The document's From: lists that are being read; a list of numbers: contracts. -/
import Derived.Test.YtfhnhbpmiodomaaDoorGa
set_option linter.unusedSimpArgs false
set_option linter.unusedVariables false
namespace Go.Proofs.YtfhnhbpmiodomaaDoor
open Go Go.RowKit

/-- So many are still to be read; behind a fault the place stays. -/
def JL {α : Type} (L : List α × St) (one : St → α × St) (k : Nat) (xs : List α) (s : St) : Prop := (s.2 = 0 → L = rep one k xs s) ∧ (s.2 ≠ 0 → L.2 = s)
theorem JL.init {α : Type} {b : List Int} {one : St → α × St} (h : Ok b one) (n : Nat) (s0 : St) : JL (rep one n [] s0) one n [] s0 := ⟨fun _ => rfl, fun h0 => (rep_st b h n [] s0).2.1 h0⟩
theorem JL.step {α : Type} {L : List α × St} {one : St → α × St} {k : Nat} {xs : List α} {s s2 : St} {x : α} (h : JL L one (k + 1) xs s) (h0 : s.2 = 0) (e : (one s).2 = s2) (hx : s2.2 = 0 → x = (one s).1) : JL L one k (xs ++ [x]) s2 := by
  have h1 := h.1 h0
  refine ⟨fun hs => ?_, fun hs => ?_⟩
  · rw [h1, hx hs, ← e]
    exact rep_ok (by rfl) (by rw [e]; exact hs)
  · rw [h1, rep_bad (x := (one s).1) (s2 := s2) (by rw [← e]) hs]
theorem JL.zero {α : Type} {L : List α × St} {one : St → α × St} {xs : List α} {s : St} (h : JL L one 0 xs s) : L.2 = s ∧ (s.2 = 0 → L.1 = xs) := by
  refine ⟨?_, fun h0 => by rw [h.1 h0]; rfl⟩
  by_cases h0 : s.2 = 0
  · rw [h.1 h0]; rfl
  · exact h.2 h0
theorem JL.bad {α : Type} {L : List α × St} {one : St → α × St} {k : Nat} {xs : List α} {s : St} (h : JL L one k xs s) (h0 : s.2 ≠ 0) : L.2 = s := h.2 h0

/-- What a list's reading answers. -/
def FLP (base r : Nat) (vb : Value) (b : List Int) (w : World) (L : List Int × St) (e : Ending) (w' : World) : Prop :=
  ∃ (v : Value) (ms : List Int), e = .returned v ∧ (L.2.2 = 0 → ms = L.1) ∧ RInts w' (fun x => w.heap.size ≤ x) v ms ∧ FB base w' r vb b L.2 ∧ Kp r w w'

section
variable {base r : Nat} {w w' : World} {vb : Value} {b : List Int} {s : St}

set_option maxRecDepth 100000 in
set_option maxHeartbeats 2000000 in
theorem flist_any (h : FB base w r vb b s) :
    Calls Tryd.prog 25 #[.pointer (some ⟨r, 0, none⟩)] w (FLP base r vb b w (lM b (nM b) s)) := by
  have HR := hid h
  have HRL := hid h.k.lt
  have HLN := hid h.len
  have HBY := hid h.bytes
  obtain ⟨i1, hi1, hz1, hs1, hy1⟩ := info_parts infoEI
  have I1 := hid (And.intro hi1 (And.intro hz1 (And.intro hs1 hy1)))
  have hcb := (cM_ok b).1 s h.at_
  have HBA := hid h.base
  obtain ⟨⟨n, s0⟩, hn⟩ : ∃ x, cM b s = x := ⟨_, rfl⟩
  rw [hn] at hcb
  have HN := hid hn
  have HCB := hid (show n ≤ b.length by simp only at hcb; omega)
  have hn63 : n ≤ 9223372036854775807 := by have := h.len; have := HCB.out; omega
  obtain ⟨L, hL⟩ : ∃ L, lM b (nM b) s = L := ⟨_, rfl⟩
  have HJ := hid (show JL L (nM b) n [] s0 from by rw [← hL]; unfold lM; rw [hn]; exact JL.init (nM_ok b) n s0)
  rw [hL]
  clear h hn hi1 hz1 hs1 hy1 hcb hL
  go_enter Tryd.func25, Tryd.ntmps25
  go_wp2_with (first
    | (go_at_call 24; refine (fcount_any HR.out).mono ?_; rintro e w1 ⟨rfl, hr1, hk1⟩; rw [HN.out] at hr1 ⊢; have HR1 := hid hr1; have HK1 := hid hk1; clear hr1 hk1)
    | fail)
  go_loopw [3, 4] (fun l j wr => ∃ (k : Nat) (ms : List Int) (s' : St), j = .int .i64 (k : Nat) ∧ ms.length + k = n ∧ LI (μ := Int) 3 1 (fun n => [.int .i64 n]) (fun _ _ n => I64 n : World → (Nat → Prop) → Int → Prop) w wr l ms ∧ JL L (nM b) k ms s' ∧ FB base wr r vb b s' ∧ Kp r w wr) (fun _ j _ => (intOf j).toNat)
  case atStart => exact ⟨n, [], s0, rfl, by simp, LI.nil _ _, HJ.out, HR1.out, HK1.out⟩
  case round =>
    obtain ⟨k, ms, s', rfl, hml, hli, he, hr, hk⟩ := hrel
    have HLI := hid hli
    have HE := hid he
    have HR2 := hid hr
    have HK2 := hid hk
    have HML := hid hml
    obtain ⟨al, cl, el⟩ := hli.form
    subst el
    have y := hr.k.cell
    have yl := hr.k.lt
    clear hli he hr hk hml
    have FIN := hid (show ∀ wx, Bw wr wx → L.2 = s' → (s'.2 = 0 → L.1 = ms) → FLP base r vb b w L (.returned (.slice al ms.length cl)) wx from fun wx hb e1 e2 =>
      ⟨_, ms, rfl, fun h0 => (e2 (by rw [← e1]; exact h0)).symm, (HLI.out.bw keepI hb).rl keepI (by have := HLN.out; have := HCB.out; have := HML.out; unfold maxLen; omega) (fun _ => rfl), by rw [e1]; exact HR2.out.bw hb, HK2.out.bw hb⟩)
    match k with
    | 0 =>
      have hk0 : ¬ (0 : Int) < ((0 : Nat) : Int) := by omega
      have HZ := hid HE.out.zero
      go_wp2
      all_goals go_ret
      all_goals exact FIN.out _ (by repeat (first | exact Bw.refl _ | apply Bw.alloc | apply Bw.drewN | apply Bw.drew)) HZ.out.1 HZ.out.2
    | k + 1 =>
      have hk0 : (0 : Int) < ((k + 1 : Nat) : Int) := by omega
      by_cases hf : s'.2 = 0
      · have hf2 : ((s'.2 : Int) == 0) = true := by simp [hf]
        have HF := hid hf
        have HJ2 := hid (fun (x : Int) (s2 : St) => JL.step (x := x) (s2 := s2) HE.out hf)
        obtain ⟨⟨x, s2⟩, hx⟩ : ∃ x, nM b s' = x := ⟨_, rfl⟩
        have HX := hid hx
        have hkm : ((k + 1 : Nat) : Int) - 1 = (k : Int) := by omega
        have hkb : k ≤ 9223372036854775807 := by have := HML.out; omega
        have HI := hid (show I64 x by have := nM_bd b HBY.out s'; rw [hx] at this; unfold I64; omega)
        clear hf hx
        go_wp2_with (first
          | (go_at_call 26; refine (fnumber_any HR2.out).mono ?_; rintro e w1 ⟨rfl, hr1, hk1⟩; rw [HX.out] at hr1 ⊢; have HLI1 := hid (HLI.out.kp keepI hk1 HRL.out); have HM2 := hid (HLI.out.fresh (w1 := w1) (m := x) keepI HI.out HK2.out.size); have HR1 := hid hr1; have HK1 := hid (HK2.out.trans hk1); clear hr1 hk1)
          | (at_builtin; refine wpList_append_row _ rfl _ _ 42 rfl 3 i1 (.int .i64 0) 1 8 undLI I1.out.1 I1.out.2.1 I1.out.2.2.1 I1.out.2.2.2 rfl (by decide) (.slice al ms.length cl) ms.length (ms.flatMap (fun n => [.int .i64 n])) rfl (HLI1.out.bw keepI (by repeat (first | exact Bw.refl _ | apply Bw.alloc | apply Bw.drewN | apply Bw.drew))).own _ 1 1 ((fun n => [.int .i64 n] : Int → List Value) x) rfl rfl ?c1 ?c2 ?c3 ?c4 ?_)
          | fail)
        try (case c1 =>
          intro j u hj
          match j, hj with
          | 0, hj => simp at hj; subst hj; simp [Addr.add, go_sem, *])
        case c2 => first | rfl | (simp [go_sem]; done) | (intro u hu; simp at hu; subst hu; rfl)
        case c3 => have := HLN.out; have := HCB.out; have := HML.out; unfold maxLen; omega
        case c4 => have := HLN.out; have := HCB.out; have := HML.out; omega
        intro l' w2 hown hgr hnew
        obtain ⟨al', cl', e⟩ := own_form hown
        subst e
        have HLI2 := hid (HLI1.out.pushB (m := x) keepI HK1.out.size HM2.out (by repeat (first | exact Bw.refl _ | apply Bw.alloc | apply Bw.drewN | apply Bw.drew)) hgr hown (by simpa only [World.size_alloc] using hnew))
        have HR3 := hid ((HR1.out.bw (by repeat (first | exact Bw.refl _ | apply Bw.alloc | apply Bw.drewN | apply Bw.drew))).grown hgr HLI1.out.ob HRL.out HBA.out)
        have HK3 := hid ((HK1.out.bw (by repeat (first | exact Bw.refl _ | apply Bw.alloc | apply Bw.drewN | apply Bw.drew))).grown hgr HLI1.out.ob)
        clear hown hgr hnew
        go_wp2
        go_roundw
        case rel => exact ⟨k, ms ++ [x], s2, by go_num, by have := HML.out; simp; omega, HLI2.out, HJ2.out _ _ (by rw [HX.out]) (fun _ => by rw [HX.out]), HR3.out, HK3.out⟩
        case measure => simp [intOf]
      · have hf2 : ((s'.2 : Int) == 0) = false := by simp [hf]
        have HZ := hid (HE.out.bad hf)
        have HF := hid hf
        clear hf
        go_wp2
        all_goals go_ret
        all_goals exact FIN.out _ (by repeat (first | exact Bw.refl _ | apply Bw.alloc | apply Bw.drewN | apply Bw.drew)) HZ.out (fun h0 => absurd h0 HF.out)

end

end Go.Proofs.YtfhnhbpmiodomaaDoor
