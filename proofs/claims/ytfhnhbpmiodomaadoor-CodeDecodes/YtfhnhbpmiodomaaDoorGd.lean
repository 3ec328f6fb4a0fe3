/- The document's From.function: the contract. -/
import Derived.Test.YtfhnhbpmiodomaaDoorGc
set_option linter.unusedSimpArgs false
set_option linter.unusedVariables false
namespace Go.Proofs.YtfhnhbpmiodomaaDoor
open Go Go.RowKit

/-- What a function's reading answers. -/
def FFP (base r : Nat) (vb : Value) (b : List Int) (w : World) (F : AFn × St) (e : Ending) (w' : World) : Prop :=
  ∃ m : MFn, e = .returned (.agg #[.int .i64 m.f.params, .int .i64 m.f.slots, m.vb, m.vc, m.vo, m.vt]) ∧ (F.2.2 = 0 → m.f = F.1) ∧ RFn w' (fun x => w.heap.size ≤ x) m ∧ FB base w' r vb b F.2 ∧ Kp r w w'

theorem RL.fin {α : Type} {wr wF : World} {r cb rb N : Nat} {v : Value} {k : Nat} {c : α → List Value} {ok : α → Prop} {l : List α} (h : RL wr (fun x => cb < x ∧ x ≠ r) v k c ok l) (hk : Kp rb wr wF) (h1 : rb < cb) (h2 : N ≤ cb) : RL wF (fun x => N ≤ x) v k c ok l :=
  h.keep hk.size (fun x hx hG => hk.block x hx (by have := hG.1; omega)) (fun x _ hG => by have := hG.1; omega)
theorem FB.kpo {base r rb : Nat} {wr wF : World} {vb : Value} {b : List Int} {s : St} (h : FB base wr r vb b s) (hk : Kp rb wr wF) (h1 : rb ≠ r) (h2 : base ≤ rb) : FB base wF r vb b s :=
  ⟨h.k.kp hk (Ne.symm h1), h.sl.keep hk.size (fun x hx hl => hk.block x hx (by omega)) (fun _ _ g => g), h.bytes, h.len, h.at_, h.f, h.base⟩
theorem Kp.two {r rb : Nat} {w wr wF : World} (h : Kp r w wr) (hk : Kp rb wr wF) (h1 : w.heap.size ≤ rb) : Kp r w wF :=
  ⟨hk.os.trans h.os, hk.tape.trans h.tape, hk.output.trans h.output, Nat.le_trans h.size hk.size, fun k hk1 hr => (hk.block k (Nat.lt_of_lt_of_le hk1 h.size) (by omega)).trans (h.block k hk1 hr)⟩
theorem addr_add (g j : Nat) : (⟨g, 0, none⟩ : Addr).add j = ⟨g, j, none⟩ := by
  unfold Addr.add
  split
  · rename_i h; rw [h]
  · simp
theorem zero_of {α : Type} {b : List Int} {f : St → α × St} (h : Ok b f) {s : St} {L : α × St} (e : f s = L) (h0 : L.2.2 = 0) : s.2 = 0 := (h.z (s := s) (by rw [e]; exact h0)).1

section
variable {base r : Nat} {w w' : World} {vb : Value} {b : List Int} {s : St}

set_option maxRecDepth 100000 in
set_option maxHeartbeats 4000000 in
theorem ffun_any (h : FB base w r vb b s) :
    Calls Tryd.prog 27 #[.pointer (some ⟨r, 0, none⟩)] w (FFP base r vb b w (fnM b s)) := by
  have HLN := hid h.len
  have HBY := hid h.bytes
  have hrl := h.k.lt
  have hba := h.base
  have HRL := hid hrl
  have HBB := hid (show base ≤ w.heap.size by omega)
  have HC := hid (show CI base r (w.heap.size + 1) w.heap.size vb b 47 w ((w.alloc (.cells #[.int .i64 0, .int .i64 0, .slice none 0 0, .slice none 0 0, .slice none 0 0, .slice none 0 0] 47)).alloc (.cells #[.int .i64 0, .int .i64 0, .slice none 0 0, .slice none 0 0, .slice none 0 0, .slice none 0 0] 47)) s #[.int .i64 0, .int .i64 0, .slice none 0 0, .slice none 0 0, .slice none 0 0, .slice none 0 0] #[.int .i64 0, .int .i64 0, .slice none 0 0, .slice none 0 0, .slice none 0 0, .slice none 0 0] from
    ⟨h.bw (Bw.alloc (Bw.alloc (Bw.refl w) _) _), by have := Blk.new (w.alloc (.cells #[.int .i64 0, .int .i64 0, .slice none 0 0, .slice none 0 0, .slice none 0 0, .slice none 0 0] 47)) #[.int .i64 0, .int .i64 0, .slice none 0 0, .slice none 0 0, .slice none 0 0, .slice none 0 0] 47; simpa only [World.size_alloc] using this, (Blk.new w #[.int .i64 0, .int .i64 0, .slice none 0 0, .slice none 0 0, .slice none 0 0, .slice none 0 0] 47).alloc _, Kp.of_bw (Bw.alloc (Bw.alloc (Bw.refl w) _) _), by omega, by omega, by omega, by omega, by omega⟩)
  have HATX0 := hid h.at_
  clear h hrl hba
  obtain ⟨⟨x0, s1⟩, hx0⟩ : ∃ x, nM b s = x := ⟨_, rfl⟩
  obtain ⟨⟨x1, s2⟩, hx1⟩ : ∃ x, nM b s1 = x := ⟨_, rfl⟩
  obtain ⟨L2, hx2⟩ : ∃ x, lM b (nM b) s2 = x := ⟨_, rfl⟩
  obtain ⟨L3, hx3⟩ : ∃ x, lM b (capM b) L2.2 = x := ⟨_, rfl⟩
  obtain ⟨L4, hx4⟩ : ∃ x, lM b (insM b) L3.2 = x := ⟨_, rfl⟩
  obtain ⟨L5, hx5⟩ : ∃ x, lM b (tryM b) L4.2 = x := ⟨_, rfl⟩
  have HV := hid (show fnM b s = (⟨x0, x1, L2.1, L3.1, L4.1, L5.1⟩, L5.2) by simp only [fnM, hx0, hx1, hx2, hx3, hx4, hx5])
  have HX0 := hid hx0
  have HI0 := hid (show I64 x0 by have := nM_bd b HBY.out s; rw [hx0] at this; unfold I64; omega)
  have HX1 := hid hx1
  have HI1 := hid (show I64 x1 by have := nM_bd b HBY.out s1; rw [hx1] at this; unfold I64; omega)
  have HX2 := hid hx2
  have HX3 := hid hx3
  have HX4 := hid hx4
  have HX5 := hid hx5
  have ZZ5 := hid (fun h0 => zero_of (lM_ok b (tryM_ok b)) hx5 h0)
  have ZZ4 := hid (fun h0 => zero_of (lM_ok b (insM_ok b)) hx4 h0)
  have ZZ3 := hid (fun h0 => zero_of (lM_ok b (capM_ok b)) hx3 h0)
  have HATX := hid (show s2.1 ≤ b.length from by
    have h1 := (nM_ok b).1 s HATX0.out
    rw [hx0] at h1
    have h2 := (nM_ok b).1 s1 h1
    rw [hx1] at h2
    exact h2)
  clear hx0 hx1 hx2 hx3 hx4 hx5
  obtain ⟨⟨n0, t0⟩, hn⟩ : ∃ x, cM b L2.2 = x := ⟨_, rfl⟩
  have HN0 := hid hn
  clear hn
  have y := HC.out.bl.cell
  have yf := HC.out.bl.free
  have yl := HC.out.bl.lt
  go_enter Tryd.func27, Tryd.ntmps27
  go_wp2_with (first
    | (go_at_call 26; (fail_if_success (have _q := HD1)); refine (fnumber_any HC.out.fb).mono ?_; rintro e w1 ⟨rfl, hr1, hk1⟩; rw [HX0.out] at hr1 ⊢; replace HC := hid (HC.out.kpn hk1 hr1); have y1 := HC.out.bl.cell; have yf1 := HC.out.bl.free; have yl1 := HC.out.bl.lt; replace HC := hid (show CI base r (w.heap.size + 1) w.heap.size vb b 47 w (w1.setCell ⟨(w.heap.size + 1), 0, none⟩ (.int .i64 x0)) s1 #[.int .i64 x0, .int .i64 0, .slice none 0 0, .slice none 0 0, .slice none 0 0, .slice none 0 0] #[.int .i64 0, .int .i64 0, .slice none 0 0, .slice none 0 0, .slice none 0 0, .slice none 0 0] from by simpa using HC.out.set 0 (.int .i64 x0)); have HD1 := hid trivial; clear hr1 hk1)
    | (go_at_call 26; (have _q := HD1; clear _q); (fail_if_success (have _q := HD2)); refine (fnumber_any HC.out.fb).mono ?_; rintro e w2 ⟨rfl, hr1, hk1⟩; rw [HX1.out] at hr1 ⊢; replace HC := hid (HC.out.kpn hk1 hr1); have y2 := HC.out.bl.cell; have yf2 := HC.out.bl.free; have yl2 := HC.out.bl.lt; replace HC := hid (show CI base r (w.heap.size + 1) w.heap.size vb b 47 w (w2.setCell ⟨(w.heap.size + 1), 1, none⟩ (.int .i64 x1)) s2 #[.int .i64 x0, .int .i64 x1, .slice none 0 0, .slice none 0 0, .slice none 0 0, .slice none 0 0] #[.int .i64 0, .int .i64 0, .slice none 0 0, .slice none 0 0, .slice none 0 0, .slice none 0 0] from by simpa using HC.out.set 1 (.int .i64 x1)); have HD2 := hid trivial; clear hr1 hk1)
    | (go_at_call 25; refine (flist_any HC.out.fb).mono ?_; rintro e w3 ⟨v2, ms2, rfl, hv2, hl2, hr1, hk1⟩; rw [HX2.out] at hr1 hv2; have E2 := hid hv2; replace HC := hid (HC.out.kpn hk1 hr1); have y3 := HC.out.bl.cell; have yf3 := HC.out.bl.free; have yl3 := HC.out.bl.lt; obtain ⟨a2, c2, e2⟩ := hl2.form; subst e2; have HL2 := hid ((hl2.up (cb := (w.heap.size + 1)) (r := r) (by have := HC.out.kp.size; simp only [World.size_setCell] at *; omega) (by have := HRL.out; simp only [World.size_setCell] at *; omega)).ups 2 (.slice a2 ms2.length c2)); replace HC := hid (show CI base r (w.heap.size + 1) w.heap.size vb b 47 w (w3.setCell ⟨(w.heap.size + 1), 2, none⟩ (.slice a2 ms2.length c2)) L2.2 #[.int .i64 x0, .int .i64 x1, .slice a2 ms2.length c2, .slice none 0 0, .slice none 0 0, .slice none 0 0] #[.int .i64 0, .int .i64 0, .slice none 0 0, .slice none 0 0, .slice none 0 0, .slice none 0 0] from by simpa using HC.out.set 2 (.slice a2 ms2.length c2)); have HD3 := hid trivial; clear hv2 hl2 hr1 hk1)
    | (go_at_call 24; refine (fcount_any HC.out.fb).mono ?_; rintro e wc0 ⟨rfl, hr1, hk1⟩; rw [HN0.out] at hr1 ⊢; replace HL2 := hid (HL2.out.upk hk1); replace HC := hid (HC.out.kpn hk1 hr1); clear hr1 hk1)
    | fail)
  have HAT0 := hid (show L2.2.1 ≤ b.length from by rw [← HX2.out]; exact (lM_ok b (nM_ok b)).1 _ HATX.out)
  have hcb := (cM_ok b).1 L2.2 HAT0.out
  rw [HN0.out] at hcb
  have HCB := hid (show n0 ≤ b.length by simp only at hcb; omega)
  have hn63 : n0 ≤ 9223372036854775807 := by have := HLN.out; have := HCB.out; omega
  have HJ := hid (show JL L3 (capM b) n0 [] t0 from by rw [← HX3.out]; unfold lM; rw [HN0.out]; exact JL.init (capM_ok b) n0 t0)
  clear hcb
  have HWB := hid HC.out.lt
  go_loopw [4] (fun jj wr => ∃ (k : Nat) (ms : List (Int × Int)) (s' : St) (l : Value), jj = .int .i64 (k : Nat) ∧ ms.length + k = n0 ∧ LI (μ := Int × Int) 90 2 capC (fun _ _ p => I64 p.1 ∧ I64 p.2 : World → (Nat → Prop) → Int × Int → Prop) wc0 wr l ms ∧ JL L3 (capM b) k ms s' ∧ CI base r (w.heap.size + 1) w.heap.size vb b 47 w wr s' #[.int .i64 x0, .int .i64 x1, .slice a2 ms2.length c2, l, .slice none 0 0, .slice none 0 0] #[.int .i64 0, .int .i64 0, .slice none 0 0, .slice none 0 0, .slice none 0 0, .slice none 0 0] ∧ Ol r (w.heap.size + 1) wc0 wr) (fun jj _ => (intOf jj).toNat)
  case atStart => exact ⟨n0, [], t0, _, rfl, by simp, LI.nil _ _, HJ.out, HC.out, Ol.refl _ _ _⟩
  case round =>
    clear HC
    obtain ⟨k, ms3, s', l, rfl, hml, hli, he, hc, hol⟩ := hrel
    have HLI := hid hli
    have HE := hid he
    have HC := hid hc
    have HOL := hid hol
    have HML := hid hml
    obtain ⟨a3, c3, el⟩ := hli.form
    subst el
    have y := hc.fb.k.cell
    have yl := hc.fb.k.lt
    clear hli he hc hol hml
    match k with
    | 0 =>
      have hk0 : ¬ (0 : Int) < ((0 : Nat) : Int) := by omega
      have HZ := hid HE.out.zero.1
      have HZV := hid HE.out.zero.2
      have hz := HZ.out
      subst hz
      have E3 := hid (show L3.2.2 = 0 → ms3 = L3.1 from fun h0 => (HZV.out h0).symm)
      replace HL2 := hid (HL2.out.ol HOL.out)
      have HL3 := hid (((HLI.out.rl keepC (by have := HLN.out; have := HCB.out; have := HML.out; unfold maxLen; omega) (fun _ => rfl))).up (cb := (w.heap.size + 1)) (r := r) HWB.out.2.1 HWB.out.1)
      clear HLI HE HOL HZ HCB HJ
      clear HZV
      obtain ⟨⟨n1, t1⟩, hn⟩ : ∃ x, cM b L3.2 = x := ⟨_, rfl⟩
      have HN1 := hid hn
      have HAT1 := hid HC.out.fb.at_
      clear hn
      go_wp2_with (first
        | (go_at_call 24; refine (fcount_any HC.out.fb).mono ?_; rintro e wc1 ⟨rfl, hr1, hk1⟩; rw [HN1.out] at hr1 ⊢; replace HL2 := hid (HL2.out.upk hk1); replace HL3 := hid (HL3.out.upk hk1); replace HC := hid (HC.out.kpn hk1 hr1); clear hr1 hk1)
        | fail)
      have hcb := (cM_ok b).1 L3.2 HAT1.out
      rw [HN1.out] at hcb
      have HCB := hid (show n1 ≤ b.length by simp only at hcb; omega)
      have hn63 : n1 ≤ 9223372036854775807 := by have := HLN.out; have := HCB.out; omega
      have HJ := hid (show JL L4 (insM b) n1 [] t1 from by rw [← HX4.out]; unfold lM; rw [HN1.out]; exact JL.init (insM_ok b) n1 t1)
      clear hcb
      have HWB := hid HC.out.lt
      go_loopw [6] (fun jj wr => ∃ (k : Nat) (ms : List (Int × Int × Int)) (s' : St) (l : Value), jj = .int .i64 (k : Nat) ∧ ms.length + k = n1 ∧ LI (μ := Int × Int × Int) 51 3 insC (fun _ _ p => I64 p.1 ∧ I64 p.2.1 ∧ I64 p.2.2 : World → (Nat → Prop) → Int × Int × Int → Prop) wc1 wr l ms ∧ JL L4 (insM b) k ms s' ∧ CI base r (w.heap.size + 1) w.heap.size vb b 47 w wr s' #[.int .i64 x0, .int .i64 x1, .slice a2 ms2.length c2, .slice a3 ms3.length c3, l, .slice none 0 0] #[.int .i64 0, .int .i64 0, .slice none 0 0, .slice none 0 0, .slice none 0 0, .slice none 0 0] ∧ Ol r (w.heap.size + 1) wc1 wr) (fun jj _ => (intOf jj).toNat)
      case atStart => exact ⟨n1, [], t1, _, rfl, by simp, LI.nil _ _, HJ.out, HC.out, Ol.refl _ _ _⟩
      case round =>
        clear HC
        obtain ⟨k, ms4, s', l, rfl, hml, hli, he, hc, hol⟩ := hrel
        have HLI := hid hli
        have HE := hid he
        have HC := hid hc
        have HOL := hid hol
        have HML := hid hml
        obtain ⟨a4, c4, el⟩ := hli.form
        subst el
        have y := hc.fb.k.cell
        have yl := hc.fb.k.lt
        clear hli he hc hol hml
        match k with
        | 0 =>
          have hk0 : ¬ (0 : Int) < ((0 : Nat) : Int) := by omega
          have HZ := hid HE.out.zero.1
          have HZV := hid HE.out.zero.2
          have hz := HZ.out
          subst hz
          have E4 := hid (show L4.2.2 = 0 → ms4 = L4.1 from fun h0 => (HZV.out h0).symm)
          replace HL2 := hid (HL2.out.ol HOL.out)
          replace HL3 := hid (HL3.out.ol HOL.out)
          have HL4 := hid (((HLI.out.rl keepN (by have := HLN.out; have := HCB.out; have := HML.out; unfold maxLen; omega) (fun _ => rfl))).up (cb := (w.heap.size + 1)) (r := r) HWB.out.2.1 HWB.out.1)
          clear HLI HE HOL HZ HCB HJ
          clear HZV
          obtain ⟨⟨n2, t2⟩, hn⟩ : ∃ x, cM b L4.2 = x := ⟨_, rfl⟩
          have HN2 := hid hn
          have HAT2 := hid HC.out.fb.at_
          clear hn
          go_wp2_with (first
            | (go_at_call 24; refine (fcount_any HC.out.fb).mono ?_; rintro e wc2 ⟨rfl, hr1, hk1⟩; rw [HN2.out] at hr1 ⊢; replace HL2 := hid (HL2.out.upk hk1); replace HL3 := hid (HL3.out.upk hk1); replace HL4 := hid (HL4.out.upk hk1); replace HC := hid (HC.out.kpn hk1 hr1); clear hr1 hk1)
            | fail)
          have hcb := (cM_ok b).1 L4.2 HAT2.out
          rw [HN2.out] at hcb
          have HCB := hid (show n2 ≤ b.length by simp only at hcb; omega)
          have hn63 : n2 ≤ 9223372036854775807 := by have := HLN.out; have := HCB.out; omega
          have HJ := hid (show JL L5 (tryM b) n2 [] t2 from by rw [← HX5.out]; unfold lM; rw [HN2.out]; exact JL.init (tryM_ok b) n2 t2)
          clear hcb
          have HWB := hid HC.out.lt
          go_loopw [9] (fun jj wr => ∃ (k : Nat) (ms : List (Int × Int × Int × Int)) (s' : St) (l : Value), jj = .int .i64 (k : Nat) ∧ ms.length + k = n2 ∧ LI (μ := Int × Int × Int × Int) 92 4 tryC (fun _ _ p => I64 p.1 ∧ I64 p.2.1 ∧ I64 p.2.2.1 ∧ I64 p.2.2.2 : World → (Nat → Prop) → Int × Int × Int × Int → Prop) wc2 wr l ms ∧ JL L5 (tryM b) k ms s' ∧ CI base r (w.heap.size + 1) w.heap.size vb b 47 w wr s' #[.int .i64 x0, .int .i64 x1, .slice a2 ms2.length c2, .slice a3 ms3.length c3, .slice a4 ms4.length c4, l] #[.int .i64 0, .int .i64 0, .slice none 0 0, .slice none 0 0, .slice none 0 0, .slice none 0 0] ∧ Ol r (w.heap.size + 1) wc2 wr) (fun jj _ => (intOf jj).toNat)
          case atStart => exact ⟨n2, [], t2, _, rfl, by simp, LI.nil _ _, HJ.out, HC.out, Ol.refl _ _ _⟩
          case round =>
            clear HC
            obtain ⟨k, ms5, s', l, rfl, hml, hli, he, hc, hol⟩ := hrel
            have HLI := hid hli
            have HE := hid he
            have HC := hid hc
            have HOL := hid hol
            have HML := hid hml
            obtain ⟨a5, c5, el⟩ := hli.form
            subst el
            have y := hc.fb.k.cell
            have yl := hc.fb.k.lt
            clear hli he hc hol hml
            match k with
            | 0 =>
              have hk0 : ¬ (0 : Int) < ((0 : Nat) : Int) := by omega
              have HZ := hid HE.out.zero.1
              have HZV := hid HE.out.zero.2
              have hz := HZ.out
              subst hz
              have E5 := hid (show L5.2.2 = 0 → ms5 = L5.1 from fun h0 => (HZV.out h0).symm)
              replace HL2 := hid (HL2.out.ol HOL.out)
              replace HL3 := hid (HL3.out.ol HOL.out)
              replace HL4 := hid (HL4.out.ol HOL.out)
              have HL5 := hid (((HLI.out.rl keepT (by have := HLN.out; have := HCB.out; have := HML.out; unfold maxLen; omega) (fun _ => rfl))).up (cb := (w.heap.size + 1)) (r := r) HWB.out.2.1 HWB.out.1)
              clear HLI HE HOL HZ HCB HJ
              clear HZV
              have yc := HC.out.bl.cell
              have ycl := HC.out.bl.lt
              have z := HC.out.rs.cell
              have zf := HC.out.rs.free
              have zl := HC.out.rs.lt
              have HKF := hid (((((((Kp.refl w.heap.size wr).set 0 (.int .i64 x0)).set 1 (.int .i64 x1)).set 2 (.slice a2 ms2.length c2)).set 3 (.slice a3 ms3.length c3)).set 4 (.slice a4 ms4.length c4)).set 5 (.slice a5 ms5.length c5))
              have bfc := ((((((HC.out.rs.set 0 (.int .i64 x0)).set 1 (.int .i64 x1)).set 2 (.slice a2 ms2.length c2)).set 3 (.slice a3 ms3.length c3)).set 4 (.slice a4 ms4.length c4)).set 5 (.slice a5 ms5.length c5)).cell
              have HFIN := hid (show FFP base r vb b w (fnM b s) (.returned (.agg #[.int .i64 x0, .int .i64 x1, .slice a2 ms2.length c2, .slice a3 ms3.length c3, .slice a4 ms4.length c4, .slice a5 ms5.length c5])) (((((((((((wr.setCell ⟨w.heap.size, 0, none⟩ (.int .i64 x0))).setCell ⟨w.heap.size, 1, none⟩ (.int .i64 x1))).setCell ⟨w.heap.size, 2, none⟩ (.slice a2 ms2.length c2))).setCell ⟨w.heap.size, 3, none⟩ (.slice a3 ms3.length c3))).setCell ⟨w.heap.size, 4, none⟩ (.slice a4 ms4.length c4))).setCell ⟨w.heap.size, 5, none⟩ (.slice a5 ms5.length c5)) from by
                rw [HV.out]
                refine ⟨⟨⟨x0, x1, ms2, ms3, ms4, ms5⟩, .slice a2 ms2.length c2, .slice a3 ms3.length c3, .slice a4 ms4.length c4, .slice a5 ms5.length c5⟩, rfl, fun h0 => ?_, ⟨HI0.out, HI1.out, HL2.out.fin HKF.out (by omega) (by omega), HL3.out.fin HKF.out (by omega) (by omega), HL4.out.fin HKF.out (by omega) (by omega), HL5.out.fin HKF.out (by omega) (by omega)⟩, HC.out.fb.kpo HKF.out (Ne.symm HC.out.rr) HBB.out, HC.out.kp.two HKF.out (Nat.le_refl _)⟩
                have z4 := ZZ5.out h0
                have z3 := ZZ4.out z4
                have z2 := ZZ3.out z3
                simp only [E2.out z2, E3.out z3, E4.out z4, E5.out h0])
              go_wp2
              all_goals
                refine bodyPost_ret (v := .agg #[.int .i64 x0, .int .i64 x1, .slice a2 ms2.length c2, .slice a3 ms3.length c3, .slice a4 ms4.length c4, .slice a5 ms5.length c5]) (by simp [results, Tryd.results27, go_sem, bfc]) rfl ?_
                exact HFIN.out
            | k + 1 =>
              have hk0 : (0 : Int) < ((k + 1 : Nat) : Int) := by omega
              by_cases hf : s'.2 = 0
              · have hf2 : ((s'.2 : Int) == 0) = true := by simp [hf]
                have HJ2 := hid (fun (x : Int × Int × Int × Int) (s2 : St) => JL.step (x := x) (s2 := s2) HE.out hf)
                have hkm : ((k + 1 : Nat) : Int) - 1 = (k : Int) := by omega
                have hkb : k ≤ 9223372036854775807 := by have := HML.out; omega
                obtain ⟨⟨q0, r0⟩, hq0⟩ : ∃ x, nM b s' = x := ⟨_, rfl⟩
                have HQ0 := hid hq0
                have HQI0 := hid (show I64 q0 by have := nM_bd b HBY.out s'; rw [hq0] at this; unfold I64; simp only at this; omega)
                obtain ⟨⟨q1, r1⟩, hq1⟩ : ∃ x, nM b r0 = x := ⟨_, rfl⟩
                have HQ1 := hid hq1
                have HQI1 := hid (show I64 q1 by have := nM_bd b HBY.out r0; rw [hq1] at this; unfold I64; simp only at this; omega)
                obtain ⟨⟨q2, r2⟩, hq2⟩ : ∃ x, nM b r1 = x := ⟨_, rfl⟩
                have HQ2 := hid hq2
                have HQI2 := hid (show I64 q2 by have := nM_bd b HBY.out r1; rw [hq2] at this; unfold I64; simp only at this; omega)
                obtain ⟨⟨q3, r3⟩, hq3⟩ : ∃ x, nM b r2 = x := ⟨_, rfl⟩
                have HQ3 := hid hq3
                have HQI3 := hid (show I64 q3 by have := nM_bd b HBY.out r2; rw [hq3] at this; unfold I64; simp only at this; omega)
                have HONE := hid (show tryM b s' = ((q0, q1, q2, q3), r3) by simp only [tryM, hq0, hq1, hq2, hq3])
                obtain ⟨i1, hi1, hz1, hs1, hy1⟩ := info_parts infoET
                have I1 := hid (And.intro hi1 (And.intro hz1 (And.intro hs1 hy1)))
                clear hi1 hz1 hs1 hy1 hf hq0 hq1 hq2 hq3
                have HLT := hid HOL.out.size
                go_upto_region 22 with (first
                  | (go_at_call 26; (fail_if_success (have _q := HG0)); refine (fnumber_any HC.out.fb).mono ?_; rintro e wq0 ⟨rfl, hr1, hk1⟩; rw [HQ0.out] at hr1 ⊢; replace HC := hid (HC.out.kpn hk1 hr1); replace HLI := hid (HLI.out.kp keepT hk1 HWB.out.1); replace HOL := hid (HOL.out.kp hk1); have HG0 := hid trivial; clear hr1 hk1)
                  | (go_at_call 26; (have _q := HG0; clear _q); (fail_if_success (have _q := HG1)); refine (fnumber_any HC.out.fb).mono ?_; rintro e wq1 ⟨rfl, hr1, hk1⟩; rw [HQ1.out] at hr1 ⊢; replace HC := hid (HC.out.kpn hk1 hr1); replace HLI := hid (HLI.out.kp keepT hk1 HWB.out.1); replace HOL := hid (HOL.out.kp hk1); have HG1 := hid trivial; clear hr1 hk1)
                  | (go_at_call 26; (have _q := HG1; clear _q); (fail_if_success (have _q := HG2)); refine (fnumber_any HC.out.fb).mono ?_; rintro e wq2 ⟨rfl, hr1, hk1⟩; rw [HQ2.out] at hr1 ⊢; replace HC := hid (HC.out.kpn hk1 hr1); replace HLI := hid (HLI.out.kp keepT hk1 HWB.out.1); replace HOL := hid (HOL.out.kp hk1); have HG2 := hid trivial; clear hr1 hk1)
                  | fail)
                have HCL := hid (show ∀ wx, CI base r (w.heap.size + 1) w.heap.size vb b 47 w wx r2 #[.int .i64 x0, .int .i64 x1, .slice a2 ms2.length c2, .slice a3 ms3.length c3, .slice a4 ms4.length c4, .slice a5 ms5.length c5] #[.int .i64 0, .int .i64 0, .slice none 0 0, .slice none 0 0, .slice none 0 0, .slice none 0 0] → wx.cell? ⟨(w.heap.size + 1), 5, none⟩ = some (.slice a5 ms5.length c5) from fun wx hx => hx.bl.cell 5)
                have HCL2 := hid (show ∀ wx sx, CI base r (w.heap.size + 1) w.heap.size vb b 47 w wx sx #[.int .i64 x0, .int .i64 x1, .slice a2 ms2.length c2, .slice a3 ms3.length c3, .slice a4 ms4.length c4, .slice a5 ms5.length c5] #[.int .i64 0, .int .i64 0, .slice none 0 0, .slice none 0 0, .slice none 0 0, .slice none 0 0] → wx.cell? ⟨(w.heap.size + 1), 5, none⟩ = some (.slice a5 ms5.length c5) from fun wx sx hx => hx.bl.cell 5)
                refine wp_region_W (fun w' => w'.cell? ⟨(w.heap.size + 1), 5, none⟩ = some (.slice a5 ms5.length c5)) (fun j => if j == 6 || j == 8 || j == 9 then 0 else if j == 11 then 2 else 1) (by kernel_rfl) ?_
                refine wpAnyW_take (i := 0) (oi := { dst := some 92, op := Op.fieldAddr 47 (Operand.tmp 3) 5, type := 0, pos := "ref.go:265", after := #[], guard := none }) (v := ?_) rfl (by kernel_rfl) (by kernel_rfl) (by kernel_rfl) (by kernel_rfl) (fun _ _ _ h => h) (Or.inl ⟨by rfl, fun w _ => ?_⟩) ?_
                rotate_left
                · (go_simp; first | done | with_reducible rfl)
                try simp only [Act.put, List.setIfInBounds_toArray, List.set_cons_zero, List.set_cons_succ]
                refine wpAnyW_load (i := 1) (oi := { dst := some 93, op := Op.load 45 (Operand.tmp 92), type := 45, pos := "ref.go:265", after := #[{ on := 0, ground := Ground.data }], guard := none }) (v := ?_) rfl (by kernel_rfl) (by kernel_rfl) (by kernel_rfl) (by kernel_rfl) (by kernel_rfl) (fun _ _ _ h => h) (Or.inl ⟨by rfl, fun w hS => ?_⟩) (HCL2.out _ _ (HC.out.bw (by repeat (first | exact Bw.refl _ | apply Bw.alloc | apply Bw.drewN | apply Bw.drew)))) ?_
                rotate_left
                · (skip; go_simp; first | done | with_reducible rfl)
                try simp only [Act.put, List.setIfInBounds_toArray, List.set_cons_zero, List.set_cons_succ]
                refine wpAnyW_take (i := 2) (oi := { dst := some 94, op := Op.move (Operand.tmp 10), type := 3, pos := "ref.go:265", after := #[], guard := none }) (v := ?_) rfl (by kernel_rfl) (by kernel_rfl) (by kernel_rfl) (by kernel_rfl) (fun _ _ _ h => h) (Or.inl ⟨by rfl, fun w _ => ?_⟩) ?_
                rotate_left
                · (go_simp; first | done | with_reducible rfl)
                try simp only [Act.put, List.setIfInBounds_toArray, List.set_cons_zero, List.set_cons_succ]
                refine wpAnyW_take (i := 3) (oi := { dst := some 95, op := Op.move (Operand.tmp 11), type := 3, pos := "ref.go:265", after := #[], guard := none }) (v := ?_) rfl (by kernel_rfl) (by kernel_rfl) (by kernel_rfl) (by kernel_rfl) (fun _ _ _ h => h) (Or.inl ⟨by rfl, fun w _ => ?_⟩) ?_
                rotate_left
                · (go_simp; first | done | with_reducible rfl)
                try simp only [Act.put, List.setIfInBounds_toArray, List.set_cons_zero, List.set_cons_succ]
                refine wpAnyW_take (i := 4) (oi := { dst := some 96, op := Op.move (Operand.tmp 12), type := 3, pos := "ref.go:265", after := #[], guard := none }) (v := ?_) rfl (by kernel_rfl) (by kernel_rfl) (by kernel_rfl) (by kernel_rfl) (fun _ _ _ h => h) (Or.inl ⟨by rfl, fun w _ => ?_⟩) ?_
                rotate_left
                · (go_simp; first | done | with_reducible rfl)
                try simp only [Act.put, List.setIfInBounds_toArray, List.set_cons_zero, List.set_cons_succ]
                refine wpAnyW_take (i := 5) (oi := { dst := some 97, op := Op.move (Operand.tmp 0), type := 68, pos := "ref.go:265", after := #[], guard := none }) (v := ?_) rfl (by kernel_rfl) (by kernel_rfl) (by kernel_rfl) (by kernel_rfl) (fun _ _ _ h => h) (Or.inl ⟨by rfl, fun w _ => ?_⟩) ?_
                rotate_left
                · (go_simp; first | done | with_reducible rfl)
                try simp only [Act.put, List.setIfInBounds_toArray, List.set_cons_zero, List.set_cons_succ]
                refine wpAnyW_ready (rs := [6]) (by kernel_rfl) (by simp) ?_
                refine (AllReadyW.cons (o := { dst := some 98, op := Op.call { callee := Callee.value (Operand.func 26), args := #[Operand.tmp 97], argTypes := #[68] }, type := 3, pos := "ref.go:265", after := #[{ on := 5, ground := Ground.data }], guard := none }) rfl (fun K hK => ?_) AllReadyW.nil)
                go_simp
                refine (fnumber_any (HC.out.bw (by repeat (first | exact Bw.refl _ | apply Bw.alloc | apply Bw.drewN | apply Bw.drew))).fb).mono ?_
                rintro e wq3 ⟨rfl, hr1, hk1⟩
                rw [HQ3.out] at hr1 ⊢
                replace HC := hid ((HC.out.bw (by repeat (first | exact Bw.refl _ | apply Bw.alloc | apply Bw.drewN | apply Bw.drew))).kpn hk1 hr1)
                have HFR := hid (HLI.out.fresh (w1 := wq3) (m := ((q0, q1, q2, q3) : Int × Int × Int × Int)) keepT ⟨HQI0.out, HQI1.out, HQI2.out, HQI3.out⟩ HOL.out.size)
                replace HLI := hid ((HLI.out.bw keepT (by repeat (first | exact Bw.refl _ | apply Bw.alloc | apply Bw.drewN | apply Bw.drew))).kp keepT hk1 HWB.out.1)
                replace HOL := hid ((HOL.out.bw (by repeat (first | exact Bw.refl _ | apply Bw.alloc | apply Bw.drewN | apply Bw.drew))).kp hk1)
                clear hr1 hk1
                refine hK.out _ _ (HCL2.out _ _ HC.out) ?_
                clear hK K
                try simp only [Act.put, List.setIfInBounds_toArray, List.set_cons_zero, List.set_cons_succ]
                refine wpAnyW_take (i := 7) (oi := { dst := some 99, op := Op.build 92 #[(0, Operand.tmp 94), (1, Operand.tmp 95), (2, Operand.tmp 96), (3, Operand.tmp 98)], type := 92, pos := "ref.go:265", after := #[{ on := 2, ground := Ground.data }, { on := 3, ground := Ground.data }, { on := 4, ground := Ground.data }, { on := 6, ground := Ground.data }], guard := none }) (v := ?_) rfl (by kernel_rfl) (by kernel_rfl) (by kernel_rfl) (by kernel_rfl) (fun _ _ _ h => h) (Or.inl ⟨by rfl, fun w _ => ?_⟩) ?_
                rotate_left
                · (go_simp; first | done | with_reducible rfl)
                try simp only [Act.put, List.setIfInBounds_toArray, List.set_cons_zero, List.set_cons_succ]
                refine wpAnyW_ready (rs := [8]) (by kernel_rfl) (by simp) ?_
                refine (AllReadyW.cons (o := { dst := some 100, op := Op.buildSlice 45 1 #[(0, Operand.tmp 99)], type := 45, pos := "ref.go:265", after := #[{ on := 7, ground := Ground.data }], guard := none }) rfl (fun K hK => ?_) AllReadyW.nil)
                go_simp
                refine hK.out _ _ (HCL2.out _ _ (HC.out.bw (by repeat (first | exact Bw.refl _ | apply Bw.alloc | apply Bw.drewN | apply Bw.drew)))) ?_
                clear hK K
                try simp only [Act.put, List.setIfInBounds_toArray, List.set_cons_zero, List.set_cons_succ]
                refine wpAnyW_ready (rs := [9]) (by kernel_rfl) (by simp) ?_
                refine (AllReadyW.cons (o := { dst := some 101, op := Op.call { callee := Callee.builtin Builtin.append, args := #[Operand.tmp 93, Operand.tmp 100], argTypes := #[45, 45] }, type := 45, pos := "ref.go:265", after := #[{ on := 1, ground := Ground.data }, { on := 8, ground := Ground.data }, { on := 6, ground := Ground.chain }], guard := none }) rfl (fun K hK => ?_) AllReadyW.nil)
                refine step_append_row (by rfl) (.tmp 93) (.tmp 100) 45 (by rfl) 92 i1 (.agg #[.int .i64 0, .int .i64 0, .int .i64 0, .int .i64 0]) 4 32 undLT I1.out.1 I1.out.2.1 I1.out.2.2.1 I1.out.2.2.2 (by rfl) (by decide) (.slice a5 ms5.length c5) ms5.length (ms5.flatMap tryC) (by rfl) (HLI.out.bw keepT (by repeat (first | exact Bw.refl _ | apply Bw.alloc | apply Bw.drewN | apply Bw.drew))).own ⟨wq3.heap.size, 0, none⟩ 1 1 (tryC ((q0, q1, q2, q3) : Int × Int × Int × Int)) (by rfl) (by rfl) ?c1 ?c2 (by have := HLN.out; have := HCB.out; have := HML.out; unfold maxLen; omega) (by have := HLN.out; have := HCB.out; have := HML.out; omega) ?_
                case c1 =>
                  intro jx u hj
                  have hjl := (List.getElem?_eq_some_iff.1 hj).1
                  have hb0 := (Blk.new wq3 #[.int .i64 q0, .int .i64 q1, .int .i64 q2, .int .i64 q3] 92).cell jx
                  rw [addr_add, ← hj]
                  exact hb0.trans (by simp [tryC])
                case c2 => intro u hu; simp [tryC] at hu; rcases hu with rfl | rfl | rfl | rfl <;> rfl
                intro l4 w4 hown hgr hnew
                obtain ⟨a9, c9, e9⟩ := own_form hown
                subst e9
                obtain ⟨p1, p2, p3, p4⟩ := push3 HC.out HLI.out HOL.out keepT HWB.out.1 HWB.out.2.1 HWB.out.2.2.1 HWB.out.2.2.2 HFR.out (by repeat (first | exact Bw.refl _ | apply Bw.alloc | apply Bw.drewN | apply Bw.drew)) hgr hown (by simpa only [World.size_alloc] using hnew) 5
                have y4 := p1.bl.cell
                have yf4 := p1.bl.free
                have yl4 := p1.bl.lt
                have HC3 := hid (show CI base r (w.heap.size + 1) w.heap.size vb b 47 w (w4.setCell ⟨(w.heap.size + 1), 5, none⟩ (.slice a9 (ms5.length + 1) c9)) r3 #[.int .i64 x0, .int .i64 x1, .slice a2 ms2.length c2, .slice a3 ms3.length c3, .slice a4 ms4.length c4, .slice a9 (ms5.length + 1) c9] #[.int .i64 0, .int .i64 0, .slice none 0 0, .slice none 0 0, .slice none 0 0, .slice none 0 0] from by simpa using p2)
                have HLI3 := hid p3
                have HOL3 := hid p4
                clear hown hgr hnew p1 p2 p3 p4
                refine hK.out _ _ (y4 5) ?_
                clear hK K
                try simp only [Act.put, List.setIfInBounds_toArray, List.set_cons_zero, List.set_cons_succ]
                refine wpAnyW_take (i := 10) (oi := { dst := some 102, op := Op.fieldAddr 47 (Operand.tmp 3) 5, type := 0, pos := "ref.go:265", after := #[{ on := 0, ground := Ground.phase }, { on := 1, ground := Ground.phase }, { on := 2, ground := Ground.phase }, { on := 3, ground := Ground.phase }, { on := 4, ground := Ground.phase }, { on := 5, ground := Ground.phase }, { on := 6, ground := Ground.phase }, { on := 7, ground := Ground.phase }, { on := 8, ground := Ground.phase }, { on := 9, ground := Ground.phase }], guard := none }) (v := ?_) rfl (by kernel_rfl) (by kernel_rfl) (by kernel_rfl) (by kernel_rfl) (fun _ _ _ h => h) (Or.inl ⟨by rfl, fun w _ => ?_⟩) ?_
                rotate_left
                · (go_simp; first | done | with_reducible rfl)
                try simp only [Act.put, List.setIfInBounds_toArray, List.set_cons_zero, List.set_cons_succ]
                refine wpAnyW_ready (rs := [11]) (by kernel_rfl) (by simp) ?_
                refine (AllReadyW.cons (o := { dst := none, op := Op.store 45 (Operand.tmp 102) (Operand.tmp 101), type := 0, pos := "ref.go:265", after := #[{ on := 10, ground := Ground.data }, { on := 9, ground := Ground.data }, { on := 9, ground := Ground.chain }, { on := 0, ground := Ground.phase }, { on := 1, ground := Ground.phase }, { on := 2, ground := Ground.phase }, { on := 3, ground := Ground.phase }, { on := 4, ground := Ground.phase }, { on := 5, ground := Ground.phase }, { on := 6, ground := Ground.phase }, { on := 7, ground := Ground.phase }, { on := 8, ground := Ground.phase }, { on := 9, ground := Ground.phase }], guard := none }) rfl (fun K hK => ?_) AllReadyW.nil)
                go_simp
                refine hK.out _ _ trivial ?_
                clear hK K
                try simp only [Act.put, List.setIfInBounds_toArray, List.set_cons_zero, List.set_cons_succ]
                refine wpAnyW_done (by kernel_rfl) ?_ _
                go_wp2
                go_roundw
                case rel => exact ⟨k, ms5 ++ [(q0, q1, q2, q3)], r3, _, by go_num, by have := HML.out; simp; omega, HLI3.out, HJ2.out _ _ (by rw [HONE.out]) (fun _ => by rw [HONE.out]), HC3.out, HOL3.out⟩
                case measure => simp [intOf]
              · have hf2 : ((s'.2 : Int) == 0) = false := by simp [hf]
                have HZ := hid (HE.out.bad hf)
                have HBAD0 := hid hf
                clear hf
                have hz := HZ.out
                subst hz
                have E5 := hid (show L5.2.2 = 0 → ms5 = L5.1 from fun h0 => absurd h0 HBAD0.out)
                replace HL2 := hid (HL2.out.ol HOL.out)
                replace HL3 := hid (HL3.out.ol HOL.out)
                replace HL4 := hid (HL4.out.ol HOL.out)
                have HL5 := hid (((HLI.out.rl keepT (by have := HLN.out; have := HCB.out; have := HML.out; unfold maxLen; omega) (fun _ => rfl))).up (cb := (w.heap.size + 1)) (r := r) HWB.out.2.1 HWB.out.1)
                clear HLI HE HOL HZ HCB HJ
                have HBAD := hid (show L5.2.2 ≠ 0 from HBAD0.out)
                have yc := HC.out.bl.cell
                have ycl := HC.out.bl.lt
                have z := HC.out.rs.cell
                have zf := HC.out.rs.free
                have zl := HC.out.rs.lt
                have HKF := hid (((((((Kp.refl w.heap.size wr).set 0 (.int .i64 x0)).set 1 (.int .i64 x1)).set 2 (.slice a2 ms2.length c2)).set 3 (.slice a3 ms3.length c3)).set 4 (.slice a4 ms4.length c4)).set 5 (.slice a5 ms5.length c5))
                have bfc := ((((((HC.out.rs.set 0 (.int .i64 x0)).set 1 (.int .i64 x1)).set 2 (.slice a2 ms2.length c2)).set 3 (.slice a3 ms3.length c3)).set 4 (.slice a4 ms4.length c4)).set 5 (.slice a5 ms5.length c5)).cell
                have HFIN := hid (show FFP base r vb b w (fnM b s) (.returned (.agg #[.int .i64 x0, .int .i64 x1, .slice a2 ms2.length c2, .slice a3 ms3.length c3, .slice a4 ms4.length c4, .slice a5 ms5.length c5])) (((((((((((wr.setCell ⟨w.heap.size, 0, none⟩ (.int .i64 x0))).setCell ⟨w.heap.size, 1, none⟩ (.int .i64 x1))).setCell ⟨w.heap.size, 2, none⟩ (.slice a2 ms2.length c2))).setCell ⟨w.heap.size, 3, none⟩ (.slice a3 ms3.length c3))).setCell ⟨w.heap.size, 4, none⟩ (.slice a4 ms4.length c4))).setCell ⟨w.heap.size, 5, none⟩ (.slice a5 ms5.length c5)) from by
                  rw [HV.out]
                  refine ⟨⟨⟨x0, x1, ms2, ms3, ms4, ms5⟩, .slice a2 ms2.length c2, .slice a3 ms3.length c3, .slice a4 ms4.length c4, .slice a5 ms5.length c5⟩, rfl, fun h0 => ?_, ⟨HI0.out, HI1.out, HL2.out.fin HKF.out (by omega) (by omega), HL3.out.fin HKF.out (by omega) (by omega), HL4.out.fin HKF.out (by omega) (by omega), HL5.out.fin HKF.out (by omega) (by omega)⟩, HC.out.fb.kpo HKF.out (Ne.symm HC.out.rr) HBB.out, HC.out.kp.two HKF.out (Nat.le_refl _)⟩
                  have z4 := ZZ5.out h0
                  have z3 := ZZ4.out z4
                  have z2 := ZZ3.out z3
                  simp only [E2.out z2, E3.out z3, E4.out z4, E5.out h0])
                go_wp2
                all_goals
                  refine bodyPost_ret (v := .agg #[.int .i64 x0, .int .i64 x1, .slice a2 ms2.length c2, .slice a3 ms3.length c3, .slice a4 ms4.length c4, .slice a5 ms5.length c5]) (by simp [results, Tryd.results27, go_sem, bfc]) rfl ?_
                  exact HFIN.out
        | k + 1 =>
          have hk0 : (0 : Int) < ((k + 1 : Nat) : Int) := by omega
          by_cases hf : s'.2 = 0
          · have hf2 : ((s'.2 : Int) == 0) = true := by simp [hf]
            have HJ2 := hid (fun (x : Int × Int × Int) (s2 : St) => JL.step (x := x) (s2 := s2) HE.out hf)
            have hkm : ((k + 1 : Nat) : Int) - 1 = (k : Int) := by omega
            have hkb : k ≤ 9223372036854775807 := by have := HML.out; omega
            obtain ⟨⟨q0, r0⟩, hq0⟩ : ∃ x, nM b s' = x := ⟨_, rfl⟩
            have HQ0 := hid hq0
            have HQI0 := hid (show I64 q0 by have := nM_bd b HBY.out s'; rw [hq0] at this; unfold I64; simp only at this; omega)
            obtain ⟨⟨q1, r1⟩, hq1⟩ : ∃ x, zM b r0 = x := ⟨_, rfl⟩
            have HQ1 := hid hq1
            have HQI1 := hid (show I64 q1 by have := sz_bd (nM_bd b HBY.out r0); have e : (zM b r0).1 = sz (nM b r0).1 := rfl; rw [← e] at this; rw [hq1] at this; unfold I64; simp only at this; omega)
            obtain ⟨⟨q2, r2⟩, hq2⟩ : ∃ x, zM b r1 = x := ⟨_, rfl⟩
            have HQ2 := hid hq2
            have HQI2 := hid (show I64 q2 by have := sz_bd (nM_bd b HBY.out r1); have e : (zM b r1).1 = sz (nM b r1).1 := rfl; rw [← e] at this; rw [hq2] at this; unfold I64; simp only at this; omega)
            have HONE := hid (show insM b s' = ((q0, q1, q2), r2) by simp only [insM, hq0, hq1, hq2])
            obtain ⟨i1, hi1, hz1, hs1, hy1⟩ := info_parts infoEN
            have I1 := hid (And.intro hi1 (And.intro hz1 (And.intro hs1 hy1)))
            clear hi1 hz1 hs1 hy1 hf hq0 hq1 hq2
            have HLT := hid HOL.out.size
            go_upto_region 15 with (first
              | (go_at_call 26; (fail_if_success (have _q := HG0)); refine (fnumber_any HC.out.fb).mono ?_; rintro e wq0 ⟨rfl, hr1, hk1⟩; rw [HQ0.out] at hr1 ⊢; replace HC := hid (HC.out.kpn hk1 hr1); replace HLI := hid (HLI.out.kp keepN hk1 HWB.out.1); replace HOL := hid (HOL.out.kp hk1); have HG0 := hid trivial; clear hr1 hk1)
              | (go_at_call 57; (have _q := HG0; clear _q); (fail_if_success (have _q := HG1)); refine (fsigned_any HC.out.fb).mono ?_; rintro e wq1 ⟨rfl, hr1, hk1⟩; rw [HQ1.out] at hr1 ⊢; replace HC := hid (HC.out.kpn hk1 hr1); replace HLI := hid (HLI.out.kp keepN hk1 HWB.out.1); replace HOL := hid (HOL.out.kp hk1); have HG1 := hid trivial; clear hr1 hk1)
              | fail)
            have HCL := hid (show ∀ wx, CI base r (w.heap.size + 1) w.heap.size vb b 47 w wx r1 #[.int .i64 x0, .int .i64 x1, .slice a2 ms2.length c2, .slice a3 ms3.length c3, .slice a4 ms4.length c4, .slice none 0 0] #[.int .i64 0, .int .i64 0, .slice none 0 0, .slice none 0 0, .slice none 0 0, .slice none 0 0] → wx.cell? ⟨(w.heap.size + 1), 4, none⟩ = some (.slice a4 ms4.length c4) from fun wx hx => hx.bl.cell 4)
            have HCL2 := hid (show ∀ wx sx, CI base r (w.heap.size + 1) w.heap.size vb b 47 w wx sx #[.int .i64 x0, .int .i64 x1, .slice a2 ms2.length c2, .slice a3 ms3.length c3, .slice a4 ms4.length c4, .slice none 0 0] #[.int .i64 0, .int .i64 0, .slice none 0 0, .slice none 0 0, .slice none 0 0, .slice none 0 0] → wx.cell? ⟨(w.heap.size + 1), 4, none⟩ = some (.slice a4 ms4.length c4) from fun wx sx hx => hx.bl.cell 4)
            refine wp_region_W (fun w' => w'.cell? ⟨(w.heap.size + 1), 4, none⟩ = some (.slice a4 ms4.length c4)) (fun j => if j == 5 || j == 7 || j == 8 then 0 else if j == 10 then 2 else 1) (by kernel_rfl) ?_
            refine wpAnyW_take (i := 0) (oi := { dst := some 63, op := Op.fieldAddr 47 (Operand.tmp 3) 4, type := 0, pos := "ref.go:259", after := #[], guard := none }) (v := ?_) rfl (by kernel_rfl) (by kernel_rfl) (by kernel_rfl) (by kernel_rfl) (fun _ _ _ h => h) (Or.inl ⟨by rfl, fun w _ => ?_⟩) ?_
            rotate_left
            · (go_simp; first | done | with_reducible rfl)
            try simp only [Act.put, List.setIfInBounds_toArray, List.set_cons_zero, List.set_cons_succ]
            refine wpAnyW_load (i := 1) (oi := { dst := some 64, op := Op.load 44 (Operand.tmp 63), type := 44, pos := "ref.go:259", after := #[{ on := 0, ground := Ground.data }], guard := none }) (v := ?_) rfl (by kernel_rfl) (by kernel_rfl) (by kernel_rfl) (by kernel_rfl) (by kernel_rfl) (fun _ _ _ h => h) (Or.inl ⟨by rfl, fun w hS => ?_⟩) (HCL2.out _ _ (HC.out.bw (by repeat (first | exact Bw.refl _ | apply Bw.alloc | apply Bw.drewN | apply Bw.drew)))) ?_
            rotate_left
            · (skip; go_simp; first | done | with_reducible rfl)
            try simp only [Act.put, List.setIfInBounds_toArray, List.set_cons_zero, List.set_cons_succ]
            refine wpAnyW_take (i := 2) (oi := { dst := some 65, op := Op.move (Operand.tmp 7), type := 3, pos := "ref.go:259", after := #[], guard := none }) (v := ?_) rfl (by kernel_rfl) (by kernel_rfl) (by kernel_rfl) (by kernel_rfl) (fun _ _ _ h => h) (Or.inl ⟨by rfl, fun w _ => ?_⟩) ?_
            rotate_left
            · (go_simp; first | done | with_reducible rfl)
            try simp only [Act.put, List.setIfInBounds_toArray, List.set_cons_zero, List.set_cons_succ]
            refine wpAnyW_take (i := 3) (oi := { dst := some 66, op := Op.move (Operand.tmp 8), type := 3, pos := "ref.go:259", after := #[], guard := none }) (v := ?_) rfl (by kernel_rfl) (by kernel_rfl) (by kernel_rfl) (by kernel_rfl) (fun _ _ _ h => h) (Or.inl ⟨by rfl, fun w _ => ?_⟩) ?_
            rotate_left
            · (go_simp; first | done | with_reducible rfl)
            try simp only [Act.put, List.setIfInBounds_toArray, List.set_cons_zero, List.set_cons_succ]
            refine wpAnyW_take (i := 4) (oi := { dst := some 67, op := Op.move (Operand.tmp 0), type := 68, pos := "ref.go:259", after := #[], guard := none }) (v := ?_) rfl (by kernel_rfl) (by kernel_rfl) (by kernel_rfl) (by kernel_rfl) (fun _ _ _ h => h) (Or.inl ⟨by rfl, fun w _ => ?_⟩) ?_
            rotate_left
            · (go_simp; first | done | with_reducible rfl)
            try simp only [Act.put, List.setIfInBounds_toArray, List.set_cons_zero, List.set_cons_succ]
            refine wpAnyW_ready (rs := [5]) (by kernel_rfl) (by simp) ?_
            refine (AllReadyW.cons (o := { dst := some 68, op := Op.call { callee := Callee.value (Operand.func 57), args := #[Operand.tmp 67], argTypes := #[68] }, type := 3, pos := "ref.go:259", after := #[{ on := 4, ground := Ground.data }], guard := none }) rfl (fun K hK => ?_) AllReadyW.nil)
            go_simp
            refine (fsigned_any (HC.out.bw (by repeat (first | exact Bw.refl _ | apply Bw.alloc | apply Bw.drewN | apply Bw.drew))).fb).mono ?_
            rintro e wq2 ⟨rfl, hr1, hk1⟩
            rw [HQ2.out] at hr1 ⊢
            replace HC := hid ((HC.out.bw (by repeat (first | exact Bw.refl _ | apply Bw.alloc | apply Bw.drewN | apply Bw.drew))).kpn hk1 hr1)
            have HFR := hid (HLI.out.fresh (w1 := wq2) (m := ((q0, q1, q2) : Int × Int × Int)) keepN ⟨HQI0.out, HQI1.out, HQI2.out⟩ HOL.out.size)
            replace HLI := hid ((HLI.out.bw keepN (by repeat (first | exact Bw.refl _ | apply Bw.alloc | apply Bw.drewN | apply Bw.drew))).kp keepN hk1 HWB.out.1)
            replace HOL := hid ((HOL.out.bw (by repeat (first | exact Bw.refl _ | apply Bw.alloc | apply Bw.drewN | apply Bw.drew))).kp hk1)
            clear hr1 hk1
            refine hK.out _ _ (HCL2.out _ _ HC.out) ?_
            clear hK K
            try simp only [Act.put, List.setIfInBounds_toArray, List.set_cons_zero, List.set_cons_succ]
            refine wpAnyW_take (i := 6) (oi := { dst := some 69, op := Op.build 51 #[(0, Operand.tmp 65), (1, Operand.tmp 66), (2, Operand.tmp 68)], type := 51, pos := "ref.go:259", after := #[{ on := 2, ground := Ground.data }, { on := 3, ground := Ground.data }, { on := 5, ground := Ground.data }], guard := none }) (v := ?_) rfl (by kernel_rfl) (by kernel_rfl) (by kernel_rfl) (by kernel_rfl) (fun _ _ _ h => h) (Or.inl ⟨by rfl, fun w _ => ?_⟩) ?_
            rotate_left
            · (go_simp; first | done | with_reducible rfl)
            try simp only [Act.put, List.setIfInBounds_toArray, List.set_cons_zero, List.set_cons_succ]
            refine wpAnyW_ready (rs := [7]) (by kernel_rfl) (by simp) ?_
            refine (AllReadyW.cons (o := { dst := some 70, op := Op.buildSlice 44 1 #[(0, Operand.tmp 69)], type := 44, pos := "ref.go:259", after := #[{ on := 6, ground := Ground.data }], guard := none }) rfl (fun K hK => ?_) AllReadyW.nil)
            go_simp
            refine hK.out _ _ (HCL2.out _ _ (HC.out.bw (by repeat (first | exact Bw.refl _ | apply Bw.alloc | apply Bw.drewN | apply Bw.drew)))) ?_
            clear hK K
            try simp only [Act.put, List.setIfInBounds_toArray, List.set_cons_zero, List.set_cons_succ]
            refine wpAnyW_ready (rs := [8]) (by kernel_rfl) (by simp) ?_
            refine (AllReadyW.cons (o := { dst := some 71, op := Op.call { callee := Callee.builtin Builtin.append, args := #[Operand.tmp 64, Operand.tmp 70], argTypes := #[44, 44] }, type := 44, pos := "ref.go:259", after := #[{ on := 1, ground := Ground.data }, { on := 7, ground := Ground.data }, { on := 5, ground := Ground.chain }], guard := none }) rfl (fun K hK => ?_) AllReadyW.nil)
            refine step_append_row (by rfl) (.tmp 64) (.tmp 70) 44 (by rfl) 51 i1 (.agg #[.int .i64 0, .int .i64 0, .int .i64 0]) 3 24 undLN I1.out.1 I1.out.2.1 I1.out.2.2.1 I1.out.2.2.2 (by rfl) (by decide) (.slice a4 ms4.length c4) ms4.length (ms4.flatMap insC) (by rfl) (HLI.out.bw keepN (by repeat (first | exact Bw.refl _ | apply Bw.alloc | apply Bw.drewN | apply Bw.drew))).own ⟨wq2.heap.size, 0, none⟩ 1 1 (insC ((q0, q1, q2) : Int × Int × Int)) (by rfl) (by rfl) ?c1 ?c2 (by have := HLN.out; have := HCB.out; have := HML.out; unfold maxLen; omega) (by have := HLN.out; have := HCB.out; have := HML.out; omega) ?_
            case c1 =>
              intro jx u hj
              have hjl := (List.getElem?_eq_some_iff.1 hj).1
              have hb0 := (Blk.new wq2 #[.int .i64 q0, .int .i64 q1, .int .i64 q2] 51).cell jx
              rw [addr_add, ← hj]
              exact hb0.trans (by simp [insC])
            case c2 => intro u hu; simp [insC] at hu; rcases hu with rfl | rfl | rfl <;> rfl
            intro l4 w4 hown hgr hnew
            obtain ⟨a9, c9, e9⟩ := own_form hown
            subst e9
            obtain ⟨p1, p2, p3, p4⟩ := push3 HC.out HLI.out HOL.out keepN HWB.out.1 HWB.out.2.1 HWB.out.2.2.1 HWB.out.2.2.2 HFR.out (by repeat (first | exact Bw.refl _ | apply Bw.alloc | apply Bw.drewN | apply Bw.drew)) hgr hown (by simpa only [World.size_alloc] using hnew) 4
            have y4 := p1.bl.cell
            have yf4 := p1.bl.free
            have yl4 := p1.bl.lt
            have HC3 := hid (show CI base r (w.heap.size + 1) w.heap.size vb b 47 w (w4.setCell ⟨(w.heap.size + 1), 4, none⟩ (.slice a9 (ms4.length + 1) c9)) r2 #[.int .i64 x0, .int .i64 x1, .slice a2 ms2.length c2, .slice a3 ms3.length c3, .slice a9 (ms4.length + 1) c9, .slice none 0 0] #[.int .i64 0, .int .i64 0, .slice none 0 0, .slice none 0 0, .slice none 0 0, .slice none 0 0] from by simpa using p2)
            have HLI3 := hid p3
            have HOL3 := hid p4
            clear hown hgr hnew p1 p2 p3 p4
            refine hK.out _ _ (y4 4) ?_
            clear hK K
            try simp only [Act.put, List.setIfInBounds_toArray, List.set_cons_zero, List.set_cons_succ]
            refine wpAnyW_take (i := 9) (oi := { dst := some 72, op := Op.fieldAddr 47 (Operand.tmp 3) 4, type := 0, pos := "ref.go:259", after := #[{ on := 0, ground := Ground.phase }, { on := 1, ground := Ground.phase }, { on := 2, ground := Ground.phase }, { on := 3, ground := Ground.phase }, { on := 4, ground := Ground.phase }, { on := 5, ground := Ground.phase }, { on := 6, ground := Ground.phase }, { on := 7, ground := Ground.phase }, { on := 8, ground := Ground.phase }], guard := none }) (v := ?_) rfl (by kernel_rfl) (by kernel_rfl) (by kernel_rfl) (by kernel_rfl) (fun _ _ _ h => h) (Or.inl ⟨by rfl, fun w _ => ?_⟩) ?_
            rotate_left
            · (go_simp; first | done | with_reducible rfl)
            try simp only [Act.put, List.setIfInBounds_toArray, List.set_cons_zero, List.set_cons_succ]
            refine wpAnyW_ready (rs := [10]) (by kernel_rfl) (by simp) ?_
            refine (AllReadyW.cons (o := { dst := none, op := Op.store 44 (Operand.tmp 72) (Operand.tmp 71), type := 0, pos := "ref.go:259", after := #[{ on := 9, ground := Ground.data }, { on := 8, ground := Ground.data }, { on := 8, ground := Ground.chain }, { on := 0, ground := Ground.phase }, { on := 1, ground := Ground.phase }, { on := 2, ground := Ground.phase }, { on := 3, ground := Ground.phase }, { on := 4, ground := Ground.phase }, { on := 5, ground := Ground.phase }, { on := 6, ground := Ground.phase }, { on := 7, ground := Ground.phase }, { on := 8, ground := Ground.phase }], guard := none }) rfl (fun K hK => ?_) AllReadyW.nil)
            go_simp
            refine hK.out _ _ trivial ?_
            clear hK K
            try simp only [Act.put, List.setIfInBounds_toArray, List.set_cons_zero, List.set_cons_succ]
            refine wpAnyW_done (by kernel_rfl) ?_ _
            go_wp2
            go_roundw
            case rel => exact ⟨k, ms4 ++ [(q0, q1, q2)], r2, _, by go_num, by have := HML.out; simp; omega, HLI3.out, HJ2.out _ _ (by rw [HONE.out]) (fun _ => by rw [HONE.out]), HC3.out, HOL3.out⟩
            case measure => simp [intOf]
          · have hf2 : ((s'.2 : Int) == 0) = false := by simp [hf]
            have HZ := hid (HE.out.bad hf)
            have HBAD0 := hid hf
            clear hf
            have hz := HZ.out
            subst hz
            have E4 := hid (show L4.2.2 = 0 → ms4 = L4.1 from fun h0 => absurd h0 HBAD0.out)
            replace HL2 := hid (HL2.out.ol HOL.out)
            replace HL3 := hid (HL3.out.ol HOL.out)
            have HL4 := hid (((HLI.out.rl keepN (by have := HLN.out; have := HCB.out; have := HML.out; unfold maxLen; omega) (fun _ => rfl))).up (cb := (w.heap.size + 1)) (r := r) HWB.out.2.1 HWB.out.1)
            clear HLI HE HOL HZ HCB HJ
            have HBAD := hid (show L4.2.2 ≠ 0 from HBAD0.out)
            obtain ⟨⟨n2, t2⟩, hn⟩ : ∃ x, cM b L4.2 = x := ⟨_, rfl⟩
            have HN2 := hid hn
            have HAT2 := hid HC.out.fb.at_
            have hbd := cM_bad b (s := L4.2) HBAD.out HC.out.fb.at_
            rw [hn] at hbd
            obtain ⟨rfl, ht⟩ : n2 = 0 ∧ t2 = L4.2 := ⟨congrArg Prod.fst hbd, congrArg Prod.snd hbd⟩
            subst ht
            clear hbd
            clear hn
            go_wp2_with (first
              | (go_at_call 24; refine (fcount_any HC.out.fb).mono ?_; rintro e wc2 ⟨rfl, hr1, hk1⟩; rw [HN2.out] at hr1 ⊢; replace HL2 := hid (HL2.out.upk hk1); replace HL3 := hid (HL3.out.upk hk1); replace HL4 := hid (HL4.out.upk hk1); replace HC := hid (HC.out.kpn hk1 hr1); clear hr1 hk1)
              | fail)
            have HLZ := hid (show L5.2 = L4.2 from by rw [← HX5.out]; unfold lM; rw [HN2.out]; rfl)
            go_loopw [9] (fun jj wr => jj = .int .i64 0 ∧ wr = wc2) (fun jj _ => (intOf jj).toNat)
            case atStart => exact ⟨rfl, rfl⟩
            case round =>
              obtain ⟨rfl, hw⟩ := hrel
              subst hw
              have hk0 : ¬ (0 : Int) < (0 : Int) := by omega
              obtain ⟨ms5, a5, c5, hmn⟩ : ∃ (ms : List (Int × Int × Int × Int)) (a : Option Addr) (c : Nat), ms = [] ∧ a = none ∧ c = 0 := ⟨[], none, 0, rfl, rfl, rfl⟩
              have E5 := hid (show L5.2.2 = 0 → ms5 = L5.1 from fun h0 => absurd (by rw [← HLZ.out]; exact h0) HBAD.out)
              replace HBAD := hid (show L5.2.2 ≠ 0 from by rw [HLZ.out]; exact HBAD.out)
              replace HC := hid (show CI base r (w.heap.size + 1) w.heap.size vb b 47 w wr L5.2 #[.int .i64 x0, .int .i64 x1, .slice a2 ms2.length c2, .slice a3 ms3.length c3, .slice a4 ms4.length c4, .slice a5 ms5.length c5] #[.int .i64 0, .int .i64 0, .slice none 0 0, .slice none 0 0, .slice none 0 0, .slice none 0 0] from by obtain ⟨rfl, rfl, rfl⟩ := hmn; rw [HLZ.out]; exact HC.out)
              have HL5 := hid (show RL wr (fun x => (w.heap.size + 1) < x ∧ x ≠ r) (.slice a5 ms5.length c5) 4 tryC (fun m => (fun _ _ p => I64 p.1 ∧ I64 p.2.1 ∧ I64 p.2.2.1 ∧ I64 p.2.2.2 : World → (Nat → Prop) → Int × Int × Int × Int → Prop) wr (fun _ => True) m) ms5 from by obtain ⟨rfl, rfl, rfl⟩ := hmn; exact ⟨Sl.nil _ _ _, by simp, by simp, fun _ => rfl⟩)
              clear hmn HLZ
              have yc := HC.out.bl.cell
              have ycl := HC.out.bl.lt
              have z := HC.out.rs.cell
              have zf := HC.out.rs.free
              have zl := HC.out.rs.lt
              have HKF := hid (((((((Kp.refl w.heap.size wr).set 0 (.int .i64 x0)).set 1 (.int .i64 x1)).set 2 (.slice a2 ms2.length c2)).set 3 (.slice a3 ms3.length c3)).set 4 (.slice a4 ms4.length c4)).set 5 (.slice a5 ms5.length c5))
              have bfc := ((((((HC.out.rs.set 0 (.int .i64 x0)).set 1 (.int .i64 x1)).set 2 (.slice a2 ms2.length c2)).set 3 (.slice a3 ms3.length c3)).set 4 (.slice a4 ms4.length c4)).set 5 (.slice a5 ms5.length c5)).cell
              have HFIN := hid (show FFP base r vb b w (fnM b s) (.returned (.agg #[.int .i64 x0, .int .i64 x1, .slice a2 ms2.length c2, .slice a3 ms3.length c3, .slice a4 ms4.length c4, .slice a5 ms5.length c5])) (((((((((((wr.setCell ⟨w.heap.size, 0, none⟩ (.int .i64 x0))).setCell ⟨w.heap.size, 1, none⟩ (.int .i64 x1))).setCell ⟨w.heap.size, 2, none⟩ (.slice a2 ms2.length c2))).setCell ⟨w.heap.size, 3, none⟩ (.slice a3 ms3.length c3))).setCell ⟨w.heap.size, 4, none⟩ (.slice a4 ms4.length c4))).setCell ⟨w.heap.size, 5, none⟩ (.slice a5 ms5.length c5)) from by
                rw [HV.out]
                refine ⟨⟨⟨x0, x1, ms2, ms3, ms4, ms5⟩, .slice a2 ms2.length c2, .slice a3 ms3.length c3, .slice a4 ms4.length c4, .slice a5 ms5.length c5⟩, rfl, fun h0 => ?_, ⟨HI0.out, HI1.out, HL2.out.fin HKF.out (by omega) (by omega), HL3.out.fin HKF.out (by omega) (by omega), HL4.out.fin HKF.out (by omega) (by omega), HL5.out.fin HKF.out (by omega) (by omega)⟩, HC.out.fb.kpo HKF.out (Ne.symm HC.out.rr) HBB.out, HC.out.kp.two HKF.out (Nat.le_refl _)⟩
                have z4 := ZZ5.out h0
                have z3 := ZZ4.out z4
                have z2 := ZZ3.out z3
                simp only [E2.out z2, E3.out z3, E4.out z4, E5.out h0])
              go_wp2
              all_goals
                refine bodyPost_ret (v := .agg #[.int .i64 x0, .int .i64 x1, .slice a2 ms2.length c2, .slice a3 ms3.length c3, .slice a4 ms4.length c4, .slice a5 ms5.length c5]) (by simp [results, Tryd.results27, go_sem, bfc]) rfl ?_
                exact HFIN.out
    | k + 1 =>
      have hk0 : (0 : Int) < ((k + 1 : Nat) : Int) := by omega
      by_cases hf : s'.2 = 0
      · have hf2 : ((s'.2 : Int) == 0) = true := by simp [hf]
        have HJ2 := hid (fun (x : Int × Int) (s2 : St) => JL.step (x := x) (s2 := s2) HE.out hf)
        have hkm : ((k + 1 : Nat) : Int) - 1 = (k : Int) := by omega
        have hkb : k ≤ 9223372036854775807 := by have := HML.out; omega
        obtain ⟨⟨q0, r0⟩, hq0⟩ : ∃ x, nM b s' = x := ⟨_, rfl⟩
        have HQ0 := hid hq0
        have HQI0 := hid (show I64 q0 by have := nM_bd b HBY.out s'; rw [hq0] at this; unfold I64; simp only at this; omega)
        obtain ⟨⟨q1, r1⟩, hq1⟩ : ∃ x, nM b r0 = x := ⟨_, rfl⟩
        have HQ1 := hid hq1
        have HQI1 := hid (show I64 q1 by have := nM_bd b HBY.out r0; rw [hq1] at this; unfold I64; simp only at this; omega)
        have HONE := hid (show capM b s' = ((q0, q1), r1) by simp only [capM, hq0, hq1])
        obtain ⟨i1, hi1, hz1, hs1, hy1⟩ := info_parts infoEC
        have I1 := hid (And.intro hi1 (And.intro hz1 (And.intro hs1 hy1)))
        clear hi1 hz1 hs1 hy1 hf hq0 hq1
        have HLT := hid HOL.out.size
        go_upto_region 9 with (first
          | (go_at_call 26; (fail_if_success (have _q := HG0)); refine (fnumber_any HC.out.fb).mono ?_; rintro e wq0 ⟨rfl, hr1, hk1⟩; rw [HQ0.out] at hr1 ⊢; replace HC := hid (HC.out.kpn hk1 hr1); replace HLI := hid (HLI.out.kp keepC hk1 HWB.out.1); replace HOL := hid (HOL.out.kp hk1); have HG0 := hid trivial; clear hr1 hk1)
          | fail)
        have HCL := hid (show ∀ wx, CI base r (w.heap.size + 1) w.heap.size vb b 47 w wx r0 #[.int .i64 x0, .int .i64 x1, .slice a2 ms2.length c2, .slice a3 ms3.length c3, .slice none 0 0, .slice none 0 0] #[.int .i64 0, .int .i64 0, .slice none 0 0, .slice none 0 0, .slice none 0 0, .slice none 0 0] → wx.cell? ⟨(w.heap.size + 1), 3, none⟩ = some (.slice a3 ms3.length c3) from fun wx hx => hx.bl.cell 3)
        have HCL2 := hid (show ∀ wx sx, CI base r (w.heap.size + 1) w.heap.size vb b 47 w wx sx #[.int .i64 x0, .int .i64 x1, .slice a2 ms2.length c2, .slice a3 ms3.length c3, .slice none 0 0, .slice none 0 0] #[.int .i64 0, .int .i64 0, .slice none 0 0, .slice none 0 0, .slice none 0 0, .slice none 0 0] → wx.cell? ⟨(w.heap.size + 1), 3, none⟩ = some (.slice a3 ms3.length c3) from fun wx sx hx => hx.bl.cell 3)
        refine wp_region_W (fun w' => w'.cell? ⟨(w.heap.size + 1), 3, none⟩ = some (.slice a3 ms3.length c3)) (fun j => if j == 4 || j == 6 || j == 7 then 0 else if j == 9 then 2 else 1) (by kernel_rfl) ?_
        refine wpAnyW_take (i := 0) (oi := { dst := some 37, op := Op.fieldAddr 47 (Operand.tmp 3) 3, type := 0, pos := "ref.go:254", after := #[], guard := none }) (v := ?_) rfl (by kernel_rfl) (by kernel_rfl) (by kernel_rfl) (by kernel_rfl) (fun _ _ _ h => h) (Or.inl ⟨by rfl, fun w _ => ?_⟩) ?_
        rotate_left
        · (go_simp; first | done | with_reducible rfl)
        try simp only [Act.put, List.setIfInBounds_toArray, List.set_cons_zero, List.set_cons_succ]
        refine wpAnyW_load (i := 1) (oi := { dst := some 38, op := Op.load 43 (Operand.tmp 37), type := 43, pos := "ref.go:254", after := #[{ on := 0, ground := Ground.data }], guard := none }) (v := ?_) rfl (by kernel_rfl) (by kernel_rfl) (by kernel_rfl) (by kernel_rfl) (by kernel_rfl) (fun _ _ _ h => h) (Or.inl ⟨by rfl, fun w hS => ?_⟩) (HCL2.out _ _ (HC.out.bw (by repeat (first | exact Bw.refl _ | apply Bw.alloc | apply Bw.drewN | apply Bw.drew)))) ?_
        rotate_left
        · (skip; go_simp; first | done | with_reducible rfl)
        try simp only [Act.put, List.setIfInBounds_toArray, List.set_cons_zero, List.set_cons_succ]
        refine wpAnyW_take (i := 2) (oi := { dst := some 39, op := Op.move (Operand.tmp 5), type := 3, pos := "ref.go:254", after := #[], guard := none }) (v := ?_) rfl (by kernel_rfl) (by kernel_rfl) (by kernel_rfl) (by kernel_rfl) (fun _ _ _ h => h) (Or.inl ⟨by rfl, fun w _ => ?_⟩) ?_
        rotate_left
        · (go_simp; first | done | with_reducible rfl)
        try simp only [Act.put, List.setIfInBounds_toArray, List.set_cons_zero, List.set_cons_succ]
        refine wpAnyW_take (i := 3) (oi := { dst := some 40, op := Op.move (Operand.tmp 0), type := 68, pos := "ref.go:254", after := #[], guard := none }) (v := ?_) rfl (by kernel_rfl) (by kernel_rfl) (by kernel_rfl) (by kernel_rfl) (fun _ _ _ h => h) (Or.inl ⟨by rfl, fun w _ => ?_⟩) ?_
        rotate_left
        · (go_simp; first | done | with_reducible rfl)
        try simp only [Act.put, List.setIfInBounds_toArray, List.set_cons_zero, List.set_cons_succ]
        refine wpAnyW_ready (rs := [4]) (by kernel_rfl) (by simp) ?_
        refine (AllReadyW.cons (o := { dst := some 41, op := Op.call { callee := Callee.value (Operand.func 26), args := #[Operand.tmp 40], argTypes := #[68] }, type := 3, pos := "ref.go:254", after := #[{ on := 3, ground := Ground.data }], guard := none }) rfl (fun K hK => ?_) AllReadyW.nil)
        go_simp
        refine (fnumber_any (HC.out.bw (by repeat (first | exact Bw.refl _ | apply Bw.alloc | apply Bw.drewN | apply Bw.drew))).fb).mono ?_
        rintro e wq1 ⟨rfl, hr1, hk1⟩
        rw [HQ1.out] at hr1 ⊢
        replace HC := hid ((HC.out.bw (by repeat (first | exact Bw.refl _ | apply Bw.alloc | apply Bw.drewN | apply Bw.drew))).kpn hk1 hr1)
        have HFR := hid (HLI.out.fresh (w1 := wq1) (m := ((q0, q1) : Int × Int)) keepC ⟨HQI0.out, HQI1.out⟩ HOL.out.size)
        replace HLI := hid ((HLI.out.bw keepC (by repeat (first | exact Bw.refl _ | apply Bw.alloc | apply Bw.drewN | apply Bw.drew))).kp keepC hk1 HWB.out.1)
        replace HOL := hid ((HOL.out.bw (by repeat (first | exact Bw.refl _ | apply Bw.alloc | apply Bw.drewN | apply Bw.drew))).kp hk1)
        clear hr1 hk1
        refine hK.out _ _ (HCL2.out _ _ HC.out) ?_
        clear hK K
        try simp only [Act.put, List.setIfInBounds_toArray, List.set_cons_zero, List.set_cons_succ]
        refine wpAnyW_take (i := 5) (oi := { dst := some 42, op := Op.build 90 #[(0, Operand.tmp 39), (1, Operand.tmp 41)], type := 90, pos := "ref.go:254", after := #[{ on := 2, ground := Ground.data }, { on := 4, ground := Ground.data }], guard := none }) (v := ?_) rfl (by kernel_rfl) (by kernel_rfl) (by kernel_rfl) (by kernel_rfl) (fun _ _ _ h => h) (Or.inl ⟨by rfl, fun w _ => ?_⟩) ?_
        rotate_left
        · (go_simp; first | done | with_reducible rfl)
        try simp only [Act.put, List.setIfInBounds_toArray, List.set_cons_zero, List.set_cons_succ]
        refine wpAnyW_ready (rs := [6]) (by kernel_rfl) (by simp) ?_
        refine (AllReadyW.cons (o := { dst := some 43, op := Op.buildSlice 43 1 #[(0, Operand.tmp 42)], type := 43, pos := "ref.go:254", after := #[{ on := 5, ground := Ground.data }], guard := none }) rfl (fun K hK => ?_) AllReadyW.nil)
        go_simp
        refine hK.out _ _ (HCL2.out _ _ (HC.out.bw (by repeat (first | exact Bw.refl _ | apply Bw.alloc | apply Bw.drewN | apply Bw.drew)))) ?_
        clear hK K
        try simp only [Act.put, List.setIfInBounds_toArray, List.set_cons_zero, List.set_cons_succ]
        refine wpAnyW_ready (rs := [7]) (by kernel_rfl) (by simp) ?_
        refine (AllReadyW.cons (o := { dst := some 44, op := Op.call { callee := Callee.builtin Builtin.append, args := #[Operand.tmp 38, Operand.tmp 43], argTypes := #[43, 43] }, type := 43, pos := "ref.go:254", after := #[{ on := 1, ground := Ground.data }, { on := 6, ground := Ground.data }, { on := 4, ground := Ground.chain }], guard := none }) rfl (fun K hK => ?_) AllReadyW.nil)
        refine step_append_row (by rfl) (.tmp 38) (.tmp 43) 43 (by rfl) 90 i1 (.agg #[.int .i64 0, .int .i64 0]) 2 16 undLC I1.out.1 I1.out.2.1 I1.out.2.2.1 I1.out.2.2.2 (by rfl) (by decide) (.slice a3 ms3.length c3) ms3.length (ms3.flatMap capC) (by rfl) (HLI.out.bw keepC (by repeat (first | exact Bw.refl _ | apply Bw.alloc | apply Bw.drewN | apply Bw.drew))).own ⟨wq1.heap.size, 0, none⟩ 1 1 (capC ((q0, q1) : Int × Int)) (by rfl) (by rfl) ?c1 ?c2 (by have := HLN.out; have := HCB.out; have := HML.out; unfold maxLen; omega) (by have := HLN.out; have := HCB.out; have := HML.out; omega) ?_
        case c1 =>
          intro jx u hj
          have hjl := (List.getElem?_eq_some_iff.1 hj).1
          have hb0 := (Blk.new wq1 #[.int .i64 q0, .int .i64 q1] 90).cell jx
          rw [addr_add, ← hj]
          exact hb0.trans (by simp [capC])
        case c2 => intro u hu; simp [capC] at hu; rcases hu with rfl | rfl <;> rfl
        intro l4 w4 hown hgr hnew
        obtain ⟨a9, c9, e9⟩ := own_form hown
        subst e9
        obtain ⟨p1, p2, p3, p4⟩ := push3 HC.out HLI.out HOL.out keepC HWB.out.1 HWB.out.2.1 HWB.out.2.2.1 HWB.out.2.2.2 HFR.out (by repeat (first | exact Bw.refl _ | apply Bw.alloc | apply Bw.drewN | apply Bw.drew)) hgr hown (by simpa only [World.size_alloc] using hnew) 3
        have y4 := p1.bl.cell
        have yf4 := p1.bl.free
        have yl4 := p1.bl.lt
        have HC3 := hid (show CI base r (w.heap.size + 1) w.heap.size vb b 47 w (w4.setCell ⟨(w.heap.size + 1), 3, none⟩ (.slice a9 (ms3.length + 1) c9)) r1 #[.int .i64 x0, .int .i64 x1, .slice a2 ms2.length c2, .slice a9 (ms3.length + 1) c9, .slice none 0 0, .slice none 0 0] #[.int .i64 0, .int .i64 0, .slice none 0 0, .slice none 0 0, .slice none 0 0, .slice none 0 0] from by simpa using p2)
        have HLI3 := hid p3
        have HOL3 := hid p4
        clear hown hgr hnew p1 p2 p3 p4
        refine hK.out _ _ (y4 3) ?_
        clear hK K
        try simp only [Act.put, List.setIfInBounds_toArray, List.set_cons_zero, List.set_cons_succ]
        refine wpAnyW_take (i := 8) (oi := { dst := some 45, op := Op.fieldAddr 47 (Operand.tmp 3) 3, type := 0, pos := "ref.go:254", after := #[{ on := 0, ground := Ground.phase }, { on := 1, ground := Ground.phase }, { on := 2, ground := Ground.phase }, { on := 3, ground := Ground.phase }, { on := 4, ground := Ground.phase }, { on := 5, ground := Ground.phase }, { on := 6, ground := Ground.phase }, { on := 7, ground := Ground.phase }], guard := none }) (v := ?_) rfl (by kernel_rfl) (by kernel_rfl) (by kernel_rfl) (by kernel_rfl) (fun _ _ _ h => h) (Or.inl ⟨by rfl, fun w _ => ?_⟩) ?_
        rotate_left
        · (go_simp; first | done | with_reducible rfl)
        try simp only [Act.put, List.setIfInBounds_toArray, List.set_cons_zero, List.set_cons_succ]
        refine wpAnyW_ready (rs := [9]) (by kernel_rfl) (by simp) ?_
        refine (AllReadyW.cons (o := { dst := none, op := Op.store 43 (Operand.tmp 45) (Operand.tmp 44), type := 0, pos := "ref.go:254", after := #[{ on := 8, ground := Ground.data }, { on := 7, ground := Ground.data }, { on := 7, ground := Ground.chain }, { on := 0, ground := Ground.phase }, { on := 1, ground := Ground.phase }, { on := 2, ground := Ground.phase }, { on := 3, ground := Ground.phase }, { on := 4, ground := Ground.phase }, { on := 5, ground := Ground.phase }, { on := 6, ground := Ground.phase }, { on := 7, ground := Ground.phase }], guard := none }) rfl (fun K hK => ?_) AllReadyW.nil)
        go_simp
        refine hK.out _ _ trivial ?_
        clear hK K
        try simp only [Act.put, List.setIfInBounds_toArray, List.set_cons_zero, List.set_cons_succ]
        refine wpAnyW_done (by kernel_rfl) ?_ _
        go_wp2
        go_roundw
        case rel => exact ⟨k, ms3 ++ [(q0, q1)], r1, _, by go_num, by have := HML.out; simp; omega, HLI3.out, HJ2.out _ _ (by rw [HONE.out]) (fun _ => by rw [HONE.out]), HC3.out, HOL3.out⟩
        case measure => simp [intOf]
      · have hf2 : ((s'.2 : Int) == 0) = false := by simp [hf]
        have HZ := hid (HE.out.bad hf)
        have HBAD0 := hid hf
        clear hf
        have hz := HZ.out
        subst hz
        have E3 := hid (show L3.2.2 = 0 → ms3 = L3.1 from fun h0 => absurd h0 HBAD0.out)
        replace HL2 := hid (HL2.out.ol HOL.out)
        have HL3 := hid (((HLI.out.rl keepC (by have := HLN.out; have := HCB.out; have := HML.out; unfold maxLen; omega) (fun _ => rfl))).up (cb := (w.heap.size + 1)) (r := r) HWB.out.2.1 HWB.out.1)
        clear HLI HE HOL HZ HCB HJ
        have HBAD := hid (show L3.2.2 ≠ 0 from HBAD0.out)
        obtain ⟨⟨n1, t1⟩, hn⟩ : ∃ x, cM b L3.2 = x := ⟨_, rfl⟩
        have HN1 := hid hn
        have HAT1 := hid HC.out.fb.at_
        have hbd := cM_bad b (s := L3.2) HBAD.out HC.out.fb.at_
        rw [hn] at hbd
        obtain ⟨rfl, ht⟩ : n1 = 0 ∧ t1 = L3.2 := ⟨congrArg Prod.fst hbd, congrArg Prod.snd hbd⟩
        subst ht
        clear hbd
        clear hn
        go_wp2_with (first
          | (go_at_call 24; refine (fcount_any HC.out.fb).mono ?_; rintro e wc1 ⟨rfl, hr1, hk1⟩; rw [HN1.out] at hr1 ⊢; replace HL2 := hid (HL2.out.upk hk1); replace HL3 := hid (HL3.out.upk hk1); replace HC := hid (HC.out.kpn hk1 hr1); clear hr1 hk1)
          | fail)
        have HLZ := hid (show L4.2 = L3.2 from by rw [← HX4.out]; unfold lM; rw [HN1.out]; rfl)
        go_loopw [6] (fun jj wr => jj = .int .i64 0 ∧ wr = wc1) (fun jj _ => (intOf jj).toNat)
        case atStart => exact ⟨rfl, rfl⟩
        case round =>
          obtain ⟨rfl, hw⟩ := hrel
          subst hw
          have hk0 : ¬ (0 : Int) < (0 : Int) := by omega
          obtain ⟨ms4, a4, c4, hmn⟩ : ∃ (ms : List (Int × Int × Int)) (a : Option Addr) (c : Nat), ms = [] ∧ a = none ∧ c = 0 := ⟨[], none, 0, rfl, rfl, rfl⟩
          have E4 := hid (show L4.2.2 = 0 → ms4 = L4.1 from fun h0 => absurd (by rw [← HLZ.out]; exact h0) HBAD.out)
          replace HBAD := hid (show L4.2.2 ≠ 0 from by rw [HLZ.out]; exact HBAD.out)
          replace HC := hid (show CI base r (w.heap.size + 1) w.heap.size vb b 47 w wr L4.2 #[.int .i64 x0, .int .i64 x1, .slice a2 ms2.length c2, .slice a3 ms3.length c3, .slice a4 ms4.length c4, .slice none 0 0] #[.int .i64 0, .int .i64 0, .slice none 0 0, .slice none 0 0, .slice none 0 0, .slice none 0 0] from by obtain ⟨rfl, rfl, rfl⟩ := hmn; rw [HLZ.out]; exact HC.out)
          have HL4 := hid (show RL wr (fun x => (w.heap.size + 1) < x ∧ x ≠ r) (.slice a4 ms4.length c4) 3 insC (fun m => (fun _ _ p => I64 p.1 ∧ I64 p.2.1 ∧ I64 p.2.2 : World → (Nat → Prop) → Int × Int × Int → Prop) wr (fun _ => True) m) ms4 from by obtain ⟨rfl, rfl, rfl⟩ := hmn; exact ⟨Sl.nil _ _ _, by simp, by simp, fun _ => rfl⟩)
          clear hmn HLZ
          obtain ⟨⟨n2, t2⟩, hn⟩ : ∃ x, cM b L4.2 = x := ⟨_, rfl⟩
          have HN2 := hid hn
          have HAT2 := hid HC.out.fb.at_
          have hbd := cM_bad b (s := L4.2) HBAD.out HC.out.fb.at_
          rw [hn] at hbd
          obtain ⟨rfl, ht⟩ : n2 = 0 ∧ t2 = L4.2 := ⟨congrArg Prod.fst hbd, congrArg Prod.snd hbd⟩
          subst ht
          clear hbd
          clear hn
          go_wp2_with (first
            | (go_at_call 24; refine (fcount_any HC.out.fb).mono ?_; rintro e wc2 ⟨rfl, hr1, hk1⟩; rw [HN2.out] at hr1 ⊢; replace HL2 := hid (HL2.out.upk hk1); replace HL3 := hid (HL3.out.upk hk1); replace HL4 := hid (HL4.out.upk hk1); replace HC := hid (HC.out.kpn hk1 hr1); clear hr1 hk1)
            | fail)
          have HLZ := hid (show L5.2 = L4.2 from by rw [← HX5.out]; unfold lM; rw [HN2.out]; rfl)
          go_loopw [9] (fun jj wr => jj = .int .i64 0 ∧ wr = wc2) (fun jj _ => (intOf jj).toNat)
          case atStart => exact ⟨rfl, rfl⟩
          case round =>
            obtain ⟨rfl, hw⟩ := hrel
            subst hw
            have hk0 : ¬ (0 : Int) < (0 : Int) := by omega
            obtain ⟨ms5, a5, c5, hmn⟩ : ∃ (ms : List (Int × Int × Int × Int)) (a : Option Addr) (c : Nat), ms = [] ∧ a = none ∧ c = 0 := ⟨[], none, 0, rfl, rfl, rfl⟩
            have E5 := hid (show L5.2.2 = 0 → ms5 = L5.1 from fun h0 => absurd (by rw [← HLZ.out]; exact h0) HBAD.out)
            replace HBAD := hid (show L5.2.2 ≠ 0 from by rw [HLZ.out]; exact HBAD.out)
            replace HC := hid (show CI base r (w.heap.size + 1) w.heap.size vb b 47 w wr L5.2 #[.int .i64 x0, .int .i64 x1, .slice a2 ms2.length c2, .slice a3 ms3.length c3, .slice a4 ms4.length c4, .slice a5 ms5.length c5] #[.int .i64 0, .int .i64 0, .slice none 0 0, .slice none 0 0, .slice none 0 0, .slice none 0 0] from by obtain ⟨rfl, rfl, rfl⟩ := hmn; rw [HLZ.out]; exact HC.out)
            have HL5 := hid (show RL wr (fun x => (w.heap.size + 1) < x ∧ x ≠ r) (.slice a5 ms5.length c5) 4 tryC (fun m => (fun _ _ p => I64 p.1 ∧ I64 p.2.1 ∧ I64 p.2.2.1 ∧ I64 p.2.2.2 : World → (Nat → Prop) → Int × Int × Int × Int → Prop) wr (fun _ => True) m) ms5 from by obtain ⟨rfl, rfl, rfl⟩ := hmn; exact ⟨Sl.nil _ _ _, by simp, by simp, fun _ => rfl⟩)
            clear hmn HLZ
            have yc := HC.out.bl.cell
            have ycl := HC.out.bl.lt
            have z := HC.out.rs.cell
            have zf := HC.out.rs.free
            have zl := HC.out.rs.lt
            have HKF := hid (((((((Kp.refl w.heap.size wr).set 0 (.int .i64 x0)).set 1 (.int .i64 x1)).set 2 (.slice a2 ms2.length c2)).set 3 (.slice a3 ms3.length c3)).set 4 (.slice a4 ms4.length c4)).set 5 (.slice a5 ms5.length c5))
            have bfc := ((((((HC.out.rs.set 0 (.int .i64 x0)).set 1 (.int .i64 x1)).set 2 (.slice a2 ms2.length c2)).set 3 (.slice a3 ms3.length c3)).set 4 (.slice a4 ms4.length c4)).set 5 (.slice a5 ms5.length c5)).cell
            have HFIN := hid (show FFP base r vb b w (fnM b s) (.returned (.agg #[.int .i64 x0, .int .i64 x1, .slice a2 ms2.length c2, .slice a3 ms3.length c3, .slice a4 ms4.length c4, .slice a5 ms5.length c5])) (((((((((((wr.setCell ⟨w.heap.size, 0, none⟩ (.int .i64 x0))).setCell ⟨w.heap.size, 1, none⟩ (.int .i64 x1))).setCell ⟨w.heap.size, 2, none⟩ (.slice a2 ms2.length c2))).setCell ⟨w.heap.size, 3, none⟩ (.slice a3 ms3.length c3))).setCell ⟨w.heap.size, 4, none⟩ (.slice a4 ms4.length c4))).setCell ⟨w.heap.size, 5, none⟩ (.slice a5 ms5.length c5)) from by
              rw [HV.out]
              refine ⟨⟨⟨x0, x1, ms2, ms3, ms4, ms5⟩, .slice a2 ms2.length c2, .slice a3 ms3.length c3, .slice a4 ms4.length c4, .slice a5 ms5.length c5⟩, rfl, fun h0 => ?_, ⟨HI0.out, HI1.out, HL2.out.fin HKF.out (by omega) (by omega), HL3.out.fin HKF.out (by omega) (by omega), HL4.out.fin HKF.out (by omega) (by omega), HL5.out.fin HKF.out (by omega) (by omega)⟩, HC.out.fb.kpo HKF.out (Ne.symm HC.out.rr) HBB.out, HC.out.kp.two HKF.out (Nat.le_refl _)⟩
              have z4 := ZZ5.out h0
              have z3 := ZZ4.out z4
              have z2 := ZZ3.out z3
              simp only [E2.out z2, E3.out z3, E4.out z4, E5.out h0])
            go_wp2
            all_goals
              refine bodyPost_ret (v := .agg #[.int .i64 x0, .int .i64 x1, .slice a2 ms2.length c2, .slice a3 ms3.length c3, .slice a4 ms4.length c4, .slice a5 ms5.length c5]) (by simp [results, Tryd.results27, go_sem, bfc]) rfl ?_
              exact HFIN.out

end

end Go.Proofs.YtfhnhbpmiodomaaDoor
