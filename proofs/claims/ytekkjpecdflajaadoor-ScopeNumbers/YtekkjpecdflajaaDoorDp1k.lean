/- The document's parser: primary: contracts, by steps. -/
import Derived.Test.YtekkjpecdflajaaDoorM6
set_option linter.unusedSimpArgs false
set_option linter.unusedVariables false
namespace Go.Proofs.YtekkjpecdflajaaDoor
open Go Go.RowKit

section
variable {w w' : World} {r f : Nat} {T : List ATok} {o : Int} {s s' : DS} {l : List ANode} {k : Int}

theorem RdM.nx2 (h : RdM w r T o s) (hk : (dtk T s.i).1 ≠ 0) : RdM (w.setCell ⟨r, 1, none⟩ (.int .i64 ((s.i + 1 : Nat) : Int))) r T o (dNx s) := by
  obtain ⟨g, c, q, x⟩ := h.x
  refine h.kp ((Kp.refl r w).set 1 _) (vt := .slice (some ⟨g, 0, none⟩) T.length c) (q := q) ?_ x.t (h.n s.i h.i hk) (fun e => ⟨x.q e, h.o e⟩)
  exact x.b.set 1 _
/-- A list of one node, made new. -/
theorem Nd.lit {w : World} {g base : Nat} (n : ANode) {u : ByteArray} (hu : strOfNums n.2.2.1 = u) (h : Blk w g #[.int .i64 n.1, .int .i64 n.2.1, .string u, .int .i64 n.2.2.2.1, .int .i64 n.2.2.2.2] 60) (hb : base ≤ g) : Nd w base (.slice (some ⟨g, 0, none⟩) 1 1) [n] := by
  subst hu
  exact ⟨rfl, .inr ⟨g, 1, _, rfl, hb, h, Nat.le_refl _, by decide, rfl, rfl⟩⟩
theorem Blk.newH {w : World} {g : Nat} (cur : Array Value) (e : TypeId) (h : w.heap.size = g) : Blk (w.alloc (.cells cur e)) g cur e := h ▸ Blk.new w cur e
theorem Blk.drh {w : World} {g : Nat} {cur : Array Value} {e : TypeId} (h : Blk w g cur e) : Blk w.drew g cur e := h

set_option maxRecDepth 100000 in
set_option maxHeartbeats 8000000 in
theorem prim_step (hc : ∀ g, g ≤ f → Con T r g) (h : dR T (f + 1) .prim o s = some (l, k, s')) (hr : RdM w r T o s) : Calls Tryd.prog 62 #[.pointer (some ⟨r, 0, none⟩)] w (DG w r T o l s') := by
  unfold dR at h
  have HR := hid hr
  have hrl := hr.lt
  obtain ⟨g, c, q, x⟩ := hr.x
  have z := x.b.cell
  have zf := x.b.free
  have zl := x.b.lt
  have gl := x.gl
  have gn := x.ne
  have c0 := x.c0 s.i hr.i
  have c1 := x.c1 s.i hr.i
  have c2 := x.c2 s.i hr.i
  have c3 := x.c3 s.i hr.i
  have l1 := x.l
  have hi1 : (0 : Int) ≤ (s.i : Int) := by omega
  have hi2 : (s.i : Int) < (T.length : Int) := by have := hr.i; omega
  rcases ite_some h with ⟨hk, h⟩ | ⟨hk1, h⟩
  · have k1 : (dtk T s.i).1 = 1 := hk
    obtain ⟨rfl, rfl, hlen⟩ := rete3 h
    have HN := hid (fun w1 (hw : RdM w1 r T o s) => hw.nx2 (by rw [k1]; decide))
    unfold DG dAt
    clear hr h x hlen hc
    generalize hkk : dtk T s.i = kt at c0 c1 c2 c3 k1 ⊢
    clear hkk
    obtain ⟨k0, kx, k2, k3⟩ := kt
    simp only at c0 c1 c2 c3 k1 ⊢
    subst k1
    have HST := hid (show strOfNums kx = strOfNums kx from rfl)
    obtain ⟨u, hu⟩ : ∃ u, strOfNums kx = u := ⟨_, rfl⟩
    rw [hu] at c1
    have HU := hid hu
    clear hu
    go_enter Tryd.func62, Tryd.ntmps62
    go_upto_region 1 with fail
    go_region
    all_goals go_wp2
    all_goals go_region
    all_goals go_wp2
    all_goals go_ret
    all_goals refine ⟨_, _, rfl, Nd.lit (19, 0, kx, 0, k3) HU.out ?_ (by first | (simp; done) | (simp; omega)), RdM.bw (HN.out _ HR.out) (by repeat (first | exact Bw.refl _ | apply Bw.alloc | apply Bw.drewN | apply Bw.drew)), (by repeat (first | exact Kp.refl _ _ | apply Kp.set | apply Kp.alloc | apply Kp.drew | apply Kp.drewN | (refine Kp.setNew ?_ (by first | (simp; done) | (simp; omega)) _ _))), by decide⟩
    all_goals repeat (first | exact Blk.newH _ _ (by simp) | apply Blk.drh | apply Blk.alloc)
  rcases ite_some h with ⟨hk, h⟩ | ⟨hk3, h⟩
  · have k1 : (dtk T s.i).1 = 3 := hk
    obtain ⟨rfl, rfl, hlen⟩ := rete3 h
    have HN := hid (fun w1 (hw : RdM w1 r T o s) => hw.nx2 (by rw [k1]; decide))
    unfold DG dAt
    clear hr h x hlen hc
    generalize hkk : dtk T s.i = kt at c0 c1 c2 c3 k1 ⊢
    clear hkk
    obtain ⟨k0, kx, k2, k3⟩ := kt
    simp only at c0 c1 c2 c3 k1 ⊢
    subst k1
    have HST := hid (show strOfNums kx = strOfNums kx from rfl)
    obtain ⟨u, hu⟩ : ∃ u, strOfNums kx = u := ⟨_, rfl⟩
    rw [hu] at c1
    have HU := hid hu
    clear hu
    go_enter Tryd.func62, Tryd.ntmps62
    go_upto_region 1 with fail
    go_region
    all_goals go_wp2
    all_goals go_region
    all_goals go_wp2
    all_goals go_ret
    all_goals refine ⟨_, _, rfl, Nd.lit (14, 0, [], k2, k3) rfl ?_ (by first | (simp; done) | (simp; omega)), RdM.bw (HN.out _ HR.out) (by repeat (first | exact Bw.refl _ | apply Bw.alloc | apply Bw.drewN | apply Bw.drew)), (by repeat (first | exact Kp.refl _ _ | apply Kp.set | apply Kp.alloc | apply Kp.drew | apply Kp.drewN | (refine Kp.setNew ?_ (by first | (simp; done) | (simp; omega)) _ _))), by decide⟩
    all_goals repeat (first | exact Blk.newH _ _ (by simp) | apply Blk.drh | apply Blk.alloc)
  rcases ite_some h with ⟨hk, h⟩ | ⟨hk4, h⟩
  · have k1 : (dtk T s.i).1 = 4 := hk
    obtain ⟨rfl, rfl, hlen⟩ := rete3 h
    have HN := hid (fun w1 (hw : RdM w1 r T o s) => hw.nx2 (by rw [k1]; decide))
    unfold DG dAt
    clear hr h x hlen hc
    generalize hkk : dtk T s.i = kt at c0 c1 c2 c3 k1 ⊢
    clear hkk
    obtain ⟨k0, kx, k2, k3⟩ := kt
    simp only at c0 c1 c2 c3 k1 ⊢
    subst k1
    have HST := hid (show strOfNums kx = strOfNums kx from rfl)
    obtain ⟨u, hu⟩ : ∃ u, strOfNums kx = u := ⟨_, rfl⟩
    rw [hu] at c1
    have HU := hid hu
    clear hu
    go_enter Tryd.func62, Tryd.ntmps62
    go_upto_region 1 with fail
    go_region
    all_goals go_wp2
    all_goals go_region
    all_goals go_wp2
    all_goals go_ret
    all_goals refine ⟨_, _, rfl, Nd.lit (15, 0, kx, 0, k3) HU.out ?_ (by first | (simp; done) | (simp; omega)), RdM.bw (HN.out _ HR.out) (by repeat (first | exact Bw.refl _ | apply Bw.alloc | apply Bw.drewN | apply Bw.drew)), (by repeat (first | exact Kp.refl _ _ | apply Kp.set | apply Kp.alloc | apply Kp.drew | apply Kp.drewN | (refine Kp.setNew ?_ (by first | (simp; done) | (simp; omega)) _ _))), by decide⟩
    all_goals repeat (first | exact Blk.newH _ _ (by simp) | apply Blk.drh | apply Blk.alloc)
  have HA := hid (fun w1 (hw : RdM w1 r T o s) => (hc f (Nat.le_refl _)).about (0, 0, [], 0, dAt T s) h hw)
  unfold DG dAt at *
  have e1 : ((dtk T s.i).1 == 1) = false := by simpa using hk1
  have e3 : ((dtk T s.i).1 == 3) = false := by simpa using hk3
  have e4 : ((dtk T s.i).1 == 4) = false := by simpa using hk4
  clear hr h x hc hk1 hk3 hk4
  generalize hkk : dtk T s.i = kt at c0 c1 c2 c3 e1 e3 e4 HA ⊢
  clear hkk
  obtain ⟨k0, kx, k2, k3⟩ := kt
  simp only at c0 c1 c2 c3 e1 e3 e4 HA ⊢
  obtain ⟨u, hu⟩ : ∃ u, strOfNums kx = u := ⟨_, rfl⟩
  rw [hu] at c1
  clear hu
  go_enter Tryd.func62, Tryd.ntmps62
  go_upto_region 1 with fail
  go_region
  all_goals go_wp2_with (first
    | (go_at_call 74; refine (HA.out _ (HR.out.bw (by repeat (first | exact Bw.refl _ | apply Bw.alloc | apply Bw.drewN | apply Bw.drew)))).mono ?_; rintro e w3 ⟨a3, c3', rfl, hn3, hr3, hk3, hl3⟩; have N3 := hid (hn3.low (b' := w.heap.size) (by first | (simp; done) | (simp; omega))); have R3 := hid hr3; have K3 := hid (show Kp r w w3 from Kp.trans (Kp.of_bw (by repeat (first | exact Bw.refl _ | apply Bw.alloc | apply Bw.drewN | apply Bw.drew))) hk3); have L3 := hid hl3; clear hn3 hr3 hk3 hl3)
    | fail)
  all_goals go_ret
  all_goals exact ⟨_, _, rfl, N3.out, R3.out, K3.out, L3.out⟩

end

end Go.Proofs.YtekkjpecdflajaaDoor

