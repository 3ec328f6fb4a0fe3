/- The document's parser: about: contracts, by steps. · The document's parser: about: contracts, by steps. -/
import Derived.Test.YtdhkcdehedbpcaaDoorM7
import Derived.Test.YtdhkcdehedbpcaaDoorM6
set_option linter.unusedSimpArgs false
set_option linter.unusedVariables false
namespace Go.Proofs.YtdhkcdehedbpcaaDoor
open Go Go.RowKit

section
variable {w w' : World} {r f : Nat} {T : List ATok} {o : Int} {s s' : DS} {l : List ANode} {k : Int}

theorem eat_no (t : ByteArray) (h : RdM w r T o s) (hi : dIs T s t = false) : Calls Tryd.prog 47 #[.pointer (some ⟨r, 0, none⟩), .string t] w fun e w' => e = .returned (.bool false) ∧ RdM w' r T o (s) ∧ Kp r w w' := by
  refine (deat_any t h).mono ?_
  rintro e w1 ⟨rfl, h1, h2⟩
  unfold dEat at h1
  rw [hi] at h1 ⊢
  exact ⟨rfl, h1, h2⟩
theorem eat_yes (t : ByteArray) (h : RdM w r T o s) (hi : dIs T s t = true) : Calls Tryd.prog 47 #[.pointer (some ⟨r, 0, none⟩), .string t] w fun e w' => e = .returned (.bool true) ∧ RdM w' r T o (dNx s) ∧ Kp r w w' := by
  refine (deat_any t h).mono ?_
  rintro e w1 ⟨rfl, h1, h2⟩
  unfold dEat at h1
  rw [hi] at h1 ⊢
  exact ⟨rfl, h1, h2⟩
theorem is_no (t : ByteArray) (h : RdM w r T o s) (hi : dIs T s t = false) : Calls Tryd.prog 42 #[.pointer (some ⟨r, 0, none⟩), .string t] w fun e w' => e = .returned (.bool false) ∧ RdM w' r T o (s) ∧ Kp r w w' := by
  refine (dis_any t h).mono ?_
  rintro e w1 ⟨rfl, h1⟩
  rw [hi]
  exact ⟨rfl, h.bw h1, Kp.of_bw h1⟩
theorem is_yes (t : ByteArray) (h : RdM w r T o s) (hi : dIs T s t = true) : Calls Tryd.prog 42 #[.pointer (some ⟨r, 0, none⟩), .string t] w fun e w' => e = .returned (.bool true) ∧ RdM w' r T o (s) ∧ Kp r w w' := by
  refine (dis_any t h).mono ?_
  rintro e w1 ⟨rfl, h1⟩
  rw [hi]
  exact ⟨rfl, h.bw h1, Kp.of_bw h1⟩
end

end Go.Proofs.YtdhkcdehedbpcaaDoor

set_option linter.unusedSimpArgs false
set_option linter.unusedVariables false
namespace Go.Proofs.YtdhkcdehedbpcaaDoor
open Go Go.RowKit

section
attribute [local irreducible] dIs
variable {w w' : World} {r f : Nat} {T : List ATok} {o : Int} {s s' : DS} {l : List ANode} {k : Int}

set_option maxRecDepth 100000 in
set_option maxHeartbeats 8000000 in
theorem about_true (n : ANode)  (y : dIs T s ⟨#[116, 114, 117, 101]⟩ = true) (hr : RdM w r T o s) : Calls Tryd.prog 97 #[.pointer (some ⟨r, 0, none⟩), nodeV n] w (DG w r T o [(16, n.2)] (dNx s)) := by
  obtain ⟨n0, n1, n2, n3, n4⟩ := n
  simp only [nodeV] at *
  obtain ⟨u, hu⟩ : ∃ u, strOfNums n2 = u := ⟨_, rfl⟩
  rw [hu]
  have HU := hid hu
  have R := hid hr
  have hrl := hr.lt
  have K := hid (Kp.refl r w)
  have y := hid y
  clear hr hu
  unfold DG at *
  go_enter Tryd.func97, Tryd.ntmps97
  go_wp2_with (first
    | (go_at_call 47; (fail_if_success (have _g := m0)); have m0 := hid trivial; refine (eat_yes ⟨#[116, 114, 117, 101]⟩ (R.out.bw bq) y.out).mono ?_; rintro e w1 ⟨rfl, hr1, hk1⟩; have K := hid (show Kp r w w1 from Kp.trans (Kp.of_bw bq) hk1); have R := hid hr1; have P := hid (show Blk w1 w.heap.size #[.int .i64 n0, .int .i64 n1, .string u, .int .i64 n3, .int .i64 n4] 43 from (Blk.new w _ _).kp hk1 (by omega)); have ul := P.out.lt; have uc := P.out.cell; have uf := P.out.free; have ur : r < w1.heap.size := R.out.lt; clear hr1 hk1)
    | fail)
  all_goals go_ret
  all_goals refine ⟨_, _, rfl, Nd.lit (16, n1, n2, n3, n4) HU.out ?_ (by first | (simp; done) | (simp; omega) | (have := K.out.size; simp; omega)), RdM.bw (R.out.setO P.out 0 _) bq, Kp.bw (K.out.setNew (Nat.le_refl _) 0 _) bq, by simp⟩
  all_goals repeat (first | exact Blk.newH _ _ (by simp) | apply Blk.drh | apply Blk.alloc)

set_option maxRecDepth 100000 in
set_option maxHeartbeats 8000000 in
theorem about_false (n : ANode) (i0 : dIs T s ⟨#[116, 114, 117, 101]⟩ = false) (y : dIs T s ⟨#[102, 97, 108, 115, 101]⟩ = true) (hr : RdM w r T o s) : Calls Tryd.prog 97 #[.pointer (some ⟨r, 0, none⟩), nodeV n] w (DG w r T o [(17, n.2)] (dNx s)) := by
  obtain ⟨n0, n1, n2, n3, n4⟩ := n
  simp only [nodeV] at *
  obtain ⟨u, hu⟩ : ∃ u, strOfNums n2 = u := ⟨_, rfl⟩
  rw [hu]
  have HU := hid hu
  have R := hid hr
  have hrl := hr.lt
  have K := hid (Kp.refl r w)
  have i0 := hid i0
  have y := hid y
  clear hr hu
  unfold DG at *
  go_enter Tryd.func97, Tryd.ntmps97
  go_wp2_with (first
    | (go_at_call 47; (fail_if_success (have _g := m0)); have m0 := hid trivial; refine (eat_no ⟨#[116, 114, 117, 101]⟩ (R.out.bw bq) i0.out).mono ?_; rintro e w1 ⟨rfl, hr1, hk1⟩; have K := hid (show Kp r w w1 from Kp.trans (Kp.of_bw bq) hk1); have R := hid hr1; have P := hid (show Blk w1 w.heap.size #[.int .i64 n0, .int .i64 n1, .string u, .int .i64 n3, .int .i64 n4] 43 from (Blk.new w _ _).kp hk1 (by omega)); have ul := P.out.lt; have uc := P.out.cell; have uf := P.out.free; have ur : r < w1.heap.size := R.out.lt; clear hr1 hk1)
    | (go_at_call 47; have _g := m0; clear _g; (fail_if_success (have _g := m1)); have m1 := hid trivial; refine (eat_yes ⟨#[102, 97, 108, 115, 101]⟩ (R.out.bw bq) y.out).mono ?_; clear ul uc uf ur; rintro e w1 ⟨rfl, hr1, hk1⟩; have K := hid (show Kp r w w1 from K.out.trans (Kp.trans (Kp.of_bw bq) hk1)); have P := hid (show Blk w1 w.heap.size #[.int .i64 n0, .int .i64 n1, .string u, .int .i64 n3, .int .i64 n4] 43 from P.out.kp (Kp.trans (Kp.of_bw bq) hk1) (by omega)); have R := hid hr1; have ul := P.out.lt; have uc := P.out.cell; have uf := P.out.free; have ur : r < w1.heap.size := R.out.lt; clear hr1 hk1)
    | fail)
  all_goals go_ret
  all_goals refine ⟨_, _, rfl, Nd.lit (17, n1, n2, n3, n4) HU.out ?_ (by first | (simp; done) | (simp; omega) | (have := K.out.size; simp; omega)), RdM.bw (R.out.setO P.out 0 _) bq, Kp.bw (K.out.setNew (Nat.le_refl _) 0 _) bq, by simp⟩
  all_goals repeat (first | exact Blk.newH _ _ (by simp) | apply Blk.drh | apply Blk.alloc)

set_option maxRecDepth 100000 in
set_option maxHeartbeats 8000000 in
theorem about_nil (n : ANode) (i0 : dIs T s ⟨#[116, 114, 117, 101]⟩ = false) (i1 : dIs T s ⟨#[102, 97, 108, 115, 101]⟩ = false) (y : dIs T s ⟨#[110, 105, 108]⟩ = true) (hr : RdM w r T o s) : Calls Tryd.prog 97 #[.pointer (some ⟨r, 0, none⟩), nodeV n] w (DG w r T o [(18, n.2)] (dNx s)) := by
  obtain ⟨n0, n1, n2, n3, n4⟩ := n
  simp only [nodeV] at *
  obtain ⟨u, hu⟩ : ∃ u, strOfNums n2 = u := ⟨_, rfl⟩
  rw [hu]
  have HU := hid hu
  have R := hid hr
  have hrl := hr.lt
  have K := hid (Kp.refl r w)
  have i0 := hid i0
  have i1 := hid i1
  have y := hid y
  clear hr hu
  unfold DG at *
  go_enter Tryd.func97, Tryd.ntmps97
  go_wp2_with (first
    | (go_at_call 47; (fail_if_success (have _g := m0)); have m0 := hid trivial; refine (eat_no ⟨#[116, 114, 117, 101]⟩ (R.out.bw bq) i0.out).mono ?_; rintro e w1 ⟨rfl, hr1, hk1⟩; have K := hid (show Kp r w w1 from Kp.trans (Kp.of_bw bq) hk1); have R := hid hr1; have P := hid (show Blk w1 w.heap.size #[.int .i64 n0, .int .i64 n1, .string u, .int .i64 n3, .int .i64 n4] 43 from (Blk.new w _ _).kp hk1 (by omega)); have ul := P.out.lt; have uc := P.out.cell; have uf := P.out.free; have ur : r < w1.heap.size := R.out.lt; clear hr1 hk1)
    | (go_at_call 47; have _g := m0; clear _g; (fail_if_success (have _g := m1)); have m1 := hid trivial; refine (eat_no ⟨#[102, 97, 108, 115, 101]⟩ (R.out.bw bq) i1.out).mono ?_; clear ul uc uf ur; rintro e w1 ⟨rfl, hr1, hk1⟩; have K := hid (show Kp r w w1 from K.out.trans (Kp.trans (Kp.of_bw bq) hk1)); have P := hid (show Blk w1 w.heap.size #[.int .i64 n0, .int .i64 n1, .string u, .int .i64 n3, .int .i64 n4] 43 from P.out.kp (Kp.trans (Kp.of_bw bq) hk1) (by omega)); have R := hid hr1; have ul := P.out.lt; have uc := P.out.cell; have uf := P.out.free; have ur : r < w1.heap.size := R.out.lt; clear hr1 hk1)
    | (go_at_call 47; have _g := m1; clear _g; (fail_if_success (have _g := m2)); have m2 := hid trivial; refine (eat_yes ⟨#[110, 105, 108]⟩ (R.out.bw bq) y.out).mono ?_; clear ul uc uf ur; rintro e w1 ⟨rfl, hr1, hk1⟩; have K := hid (show Kp r w w1 from K.out.trans (Kp.trans (Kp.of_bw bq) hk1)); have P := hid (show Blk w1 w.heap.size #[.int .i64 n0, .int .i64 n1, .string u, .int .i64 n3, .int .i64 n4] 43 from P.out.kp (Kp.trans (Kp.of_bw bq) hk1) (by omega)); have R := hid hr1; have ul := P.out.lt; have uc := P.out.cell; have uf := P.out.free; have ur : r < w1.heap.size := R.out.lt; clear hr1 hk1)
    | fail)
  all_goals go_ret
  all_goals refine ⟨_, _, rfl, Nd.lit (18, n1, n2, n3, n4) HU.out ?_ (by first | (simp; done) | (simp; omega) | (have := K.out.size; simp; omega)), RdM.bw (R.out.setO P.out 0 _) bq, Kp.bw (K.out.setNew (Nat.le_refl _) 0 _) bq, by simp⟩
  all_goals repeat (first | exact Blk.newH _ _ (by simp) | apply Blk.drh | apply Blk.alloc)

set_option maxRecDepth 100000 in
set_option maxHeartbeats 8000000 in
theorem about_fn (n : ANode) (i0 : dIs T s ⟨#[116, 114, 117, 101]⟩ = false) (i1 : dIs T s ⟨#[102, 97, 108, 115, 101]⟩ = false) (i2 : dIs T s ⟨#[110, 105, 108]⟩ = false) (y : dIs T s ⟨#[102, 110]⟩ = true) (HV : ∀ w1 : World, RdM w1 r T o (dNx s) → Calls Tryd.prog 46 #[.pointer (some ⟨r, 0, none⟩), nodeV (31, n.2)] w1 (DG w1 r T o l s')) (hr : RdM w r T o s) : Calls Tryd.prog 97 #[.pointer (some ⟨r, 0, none⟩), nodeV n] w (DG w r T o l s') := by
  obtain ⟨n0, n1, n2, n3, n4⟩ := n
  simp only [nodeV] at *
  obtain ⟨u, hu⟩ : ∃ u, strOfNums n2 = u := ⟨_, rfl⟩
  rw [hu] at HV ⊢
  have HU := hid hu
  have R := hid hr
  have hrl := hr.lt
  have K := hid (Kp.refl r w)
  have i0 := hid i0
  have i1 := hid i1
  have i2 := hid i2
  have y := hid y
  have HV := hid HV
  clear hr hu
  unfold DG at *
  go_enter Tryd.func97, Tryd.ntmps97
  go_wp2_with (first
    | (go_at_call 47; (fail_if_success (have _g := m0)); have m0 := hid trivial; refine (eat_no ⟨#[116, 114, 117, 101]⟩ (R.out.bw bq) i0.out).mono ?_; rintro e w1 ⟨rfl, hr1, hk1⟩; have K := hid (show Kp r w w1 from Kp.trans (Kp.of_bw bq) hk1); have R := hid hr1; have P := hid (show Blk w1 w.heap.size #[.int .i64 n0, .int .i64 n1, .string u, .int .i64 n3, .int .i64 n4] 43 from (Blk.new w _ _).kp hk1 (by omega)); have ul := P.out.lt; have uc := P.out.cell; have uf := P.out.free; have ur : r < w1.heap.size := R.out.lt; clear hr1 hk1)
    | (go_at_call 47; have _g := m0; clear _g; (fail_if_success (have _g := m1)); have m1 := hid trivial; refine (eat_no ⟨#[102, 97, 108, 115, 101]⟩ (R.out.bw bq) i1.out).mono ?_; clear ul uc uf ur; rintro e w1 ⟨rfl, hr1, hk1⟩; have K := hid (show Kp r w w1 from K.out.trans (Kp.trans (Kp.of_bw bq) hk1)); have P := hid (show Blk w1 w.heap.size #[.int .i64 n0, .int .i64 n1, .string u, .int .i64 n3, .int .i64 n4] 43 from P.out.kp (Kp.trans (Kp.of_bw bq) hk1) (by omega)); have R := hid hr1; have ul := P.out.lt; have uc := P.out.cell; have uf := P.out.free; have ur : r < w1.heap.size := R.out.lt; clear hr1 hk1)
    | (go_at_call 47; have _g := m1; clear _g; (fail_if_success (have _g := m2)); have m2 := hid trivial; refine (eat_no ⟨#[110, 105, 108]⟩ (R.out.bw bq) i2.out).mono ?_; clear ul uc uf ur; rintro e w1 ⟨rfl, hr1, hk1⟩; have K := hid (show Kp r w w1 from K.out.trans (Kp.trans (Kp.of_bw bq) hk1)); have P := hid (show Blk w1 w.heap.size #[.int .i64 n0, .int .i64 n1, .string u, .int .i64 n3, .int .i64 n4] 43 from P.out.kp (Kp.trans (Kp.of_bw bq) hk1) (by omega)); have R := hid hr1; have ul := P.out.lt; have uc := P.out.cell; have uf := P.out.free; have ur : r < w1.heap.size := R.out.lt; clear hr1 hk1)
    | (go_at_call 47; have _g := m2; clear _g; (fail_if_success (have _g := m3)); have m3 := hid trivial; refine (eat_yes ⟨#[102, 110]⟩ (R.out.bw bq) y.out).mono ?_; clear ul uc uf ur; rintro e w1 ⟨rfl, hr1, hk1⟩; have K := hid (show Kp r w w1 from K.out.trans (Kp.trans (Kp.of_bw bq) hk1)); have P := hid (show Blk w1 w.heap.size #[.int .i64 n0, .int .i64 n1, .string u, .int .i64 n3, .int .i64 n4] 43 from P.out.kp (Kp.trans (Kp.of_bw bq) hk1) (by omega)); have R := hid hr1; have ul := P.out.lt; have uc := P.out.cell; have uf := P.out.free; have ur : r < w1.heap.size := R.out.lt; clear hr1 hk1)
    | (go_at_call 46; refine (HV.out _ (R.out.setO P.out 0 _)).mono ?_; rintro e w2 ⟨a2, c2, rfl, hn2, hr2, hk2, hl2⟩; have N := hid (hn2.low (b' := w.heap.size) (by have := K.out.size; simp only [World.size_setCell]; omega)); have K := hid (show Kp r w w2 from Kp.trans (K.out.setNew (Nat.le_refl _) 0 _) hk2); have R := hid hr2; have L := hid hl2; clear hn2 hr2 hk2 hl2)
    | fail)
  all_goals go_ret
  all_goals exact ⟨_, _, rfl, N.out, R.out, K.out, L.out⟩

set_option maxRecDepth 100000 in
set_option maxHeartbeats 8000000 in
theorem about_row (n : ANode) (i0 : dIs T s ⟨#[116, 114, 117, 101]⟩ = false) (i1 : dIs T s ⟨#[102, 97, 108, 115, 101]⟩ = false) (i2 : dIs T s ⟨#[110, 105, 108]⟩ = false) (i3 : dIs T s ⟨#[102, 110]⟩ = false) (i4 : dIs T s ⟨#[40]⟩ = false) (y : dIs T s ⟨#[91]⟩ = true) (HV : ∀ w1 : World, RdM w1 r T o s → Calls Tryd.prog 101 #[.pointer (some ⟨r, 0, none⟩), nodeV n, .string ⟨#[91]⟩, .string ⟨#[93]⟩] w1 (DG w1 r T o l s')) (hr : RdM w r T o s) : Calls Tryd.prog 97 #[.pointer (some ⟨r, 0, none⟩), nodeV n] w (DG w r T o l s') := by
  obtain ⟨n0, n1, n2, n3, n4⟩ := n
  simp only [nodeV] at *
  obtain ⟨u, hu⟩ : ∃ u, strOfNums n2 = u := ⟨_, rfl⟩
  rw [hu] at HV ⊢
  have HU := hid hu
  have R := hid hr
  have hrl := hr.lt
  have K := hid (Kp.refl r w)
  have i0 := hid i0
  have i1 := hid i1
  have i2 := hid i2
  have i3 := hid i3
  have i4 := hid i4
  have y := hid y
  have HV := hid HV
  clear hr hu
  unfold DG at *
  go_enter Tryd.func97, Tryd.ntmps97
  go_wp2_with (first
    | (go_at_call 47; (fail_if_success (have _g := m0)); have m0 := hid trivial; refine (eat_no ⟨#[116, 114, 117, 101]⟩ (R.out.bw bq) i0.out).mono ?_; rintro e w1 ⟨rfl, hr1, hk1⟩; have K := hid (show Kp r w w1 from Kp.trans (Kp.of_bw bq) hk1); have R := hid hr1; have P := hid (show Blk w1 w.heap.size #[.int .i64 n0, .int .i64 n1, .string u, .int .i64 n3, .int .i64 n4] 43 from (Blk.new w _ _).kp hk1 (by omega)); have ul := P.out.lt; have uc := P.out.cell; have uf := P.out.free; have ur : r < w1.heap.size := R.out.lt; clear hr1 hk1)
    | (go_at_call 47; have _g := m0; clear _g; (fail_if_success (have _g := m1)); have m1 := hid trivial; refine (eat_no ⟨#[102, 97, 108, 115, 101]⟩ (R.out.bw bq) i1.out).mono ?_; clear ul uc uf ur; rintro e w1 ⟨rfl, hr1, hk1⟩; have K := hid (show Kp r w w1 from K.out.trans (Kp.trans (Kp.of_bw bq) hk1)); have P := hid (show Blk w1 w.heap.size #[.int .i64 n0, .int .i64 n1, .string u, .int .i64 n3, .int .i64 n4] 43 from P.out.kp (Kp.trans (Kp.of_bw bq) hk1) (by omega)); have R := hid hr1; have ul := P.out.lt; have uc := P.out.cell; have uf := P.out.free; have ur : r < w1.heap.size := R.out.lt; clear hr1 hk1)
    | (go_at_call 47; have _g := m1; clear _g; (fail_if_success (have _g := m2)); have m2 := hid trivial; refine (eat_no ⟨#[110, 105, 108]⟩ (R.out.bw bq) i2.out).mono ?_; clear ul uc uf ur; rintro e w1 ⟨rfl, hr1, hk1⟩; have K := hid (show Kp r w w1 from K.out.trans (Kp.trans (Kp.of_bw bq) hk1)); have P := hid (show Blk w1 w.heap.size #[.int .i64 n0, .int .i64 n1, .string u, .int .i64 n3, .int .i64 n4] 43 from P.out.kp (Kp.trans (Kp.of_bw bq) hk1) (by omega)); have R := hid hr1; have ul := P.out.lt; have uc := P.out.cell; have uf := P.out.free; have ur : r < w1.heap.size := R.out.lt; clear hr1 hk1)
    | (go_at_call 47; have _g := m2; clear _g; (fail_if_success (have _g := m3)); have m3 := hid trivial; refine (eat_no ⟨#[102, 110]⟩ (R.out.bw bq) i3.out).mono ?_; clear ul uc uf ur; rintro e w1 ⟨rfl, hr1, hk1⟩; have K := hid (show Kp r w w1 from K.out.trans (Kp.trans (Kp.of_bw bq) hk1)); have P := hid (show Blk w1 w.heap.size #[.int .i64 n0, .int .i64 n1, .string u, .int .i64 n3, .int .i64 n4] 43 from P.out.kp (Kp.trans (Kp.of_bw bq) hk1) (by omega)); have R := hid hr1; have ul := P.out.lt; have uc := P.out.cell; have uf := P.out.free; have ur : r < w1.heap.size := R.out.lt; clear hr1 hk1)
    | (go_at_call 42; have _g := m3; clear _g; (fail_if_success (have _g := m4)); have m4 := hid trivial; refine (is_no ⟨#[40]⟩ (R.out.bw bq) i4.out).mono ?_; clear ul uc uf ur; rintro e w1 ⟨rfl, hr1, hk1⟩; have K := hid (show Kp r w w1 from K.out.trans (Kp.trans (Kp.of_bw bq) hk1)); have P := hid (show Blk w1 w.heap.size #[.int .i64 n0, .int .i64 n1, .string u, .int .i64 n3, .int .i64 n4] 43 from P.out.kp (Kp.trans (Kp.of_bw bq) hk1) (by omega)); have R := hid hr1; have ul := P.out.lt; have uc := P.out.cell; have uf := P.out.free; have ur : r < w1.heap.size := R.out.lt; clear hr1 hk1)
    | (go_at_call 42; have _g := m4; clear _g; (fail_if_success (have _g := m5)); have m5 := hid trivial; refine (is_yes ⟨#[91]⟩ (R.out.bw bq) y.out).mono ?_; clear ul uc uf ur; rintro e w1 ⟨rfl, hr1, hk1⟩; have K := hid (show Kp r w w1 from K.out.trans (Kp.trans (Kp.of_bw bq) hk1)); have P := hid (show Blk w1 w.heap.size #[.int .i64 n0, .int .i64 n1, .string u, .int .i64 n3, .int .i64 n4] 43 from P.out.kp (Kp.trans (Kp.of_bw bq) hk1) (by omega)); have R := hid hr1; have ul := P.out.lt; have uc := P.out.cell; have uf := P.out.free; have ur : r < w1.heap.size := R.out.lt; clear hr1 hk1)
    | (go_at_call 101; refine (HV.out _ (R.out.bw bq)).mono ?_; rintro e w2 ⟨a2, c2, rfl, hn2, hr2, hk2, hl2⟩; have N := hid (hn2.low (b' := w.heap.size) (Nat.le_trans K.out.size (by first | (simp; done) | exact Nat.le_refl _))); have K := hid (show Kp r w w2 from K.out.trans (Kp.trans (Kp.of_bw bq) hk2)); have R := hid hr2; have L := hid hl2; clear hn2 hr2 hk2 hl2)
    | fail)
  all_goals go_ret
  all_goals exact ⟨_, _, rfl, N.out, R.out, K.out, L.out⟩

set_option maxRecDepth 100000 in
set_option maxHeartbeats 8000000 in
theorem about_rec (n : ANode) (i0 : dIs T s ⟨#[116, 114, 117, 101]⟩ = false) (i1 : dIs T s ⟨#[102, 97, 108, 115, 101]⟩ = false) (i2 : dIs T s ⟨#[110, 105, 108]⟩ = false) (i3 : dIs T s ⟨#[102, 110]⟩ = false) (i4 : dIs T s ⟨#[40]⟩ = false) (i5 : dIs T s ⟨#[91]⟩ = false) (y : dIs T s ⟨#[123]⟩ = true) (HV : ∀ w1 : World, RdM w1 r T o s → Calls Tryd.prog 101 #[.pointer (some ⟨r, 0, none⟩), nodeV n, .string ⟨#[123]⟩, .string ⟨#[125]⟩] w1 (DG w1 r T o l s')) (hr : RdM w r T o s) : Calls Tryd.prog 97 #[.pointer (some ⟨r, 0, none⟩), nodeV n] w (DG w r T o l s') := by
  obtain ⟨n0, n1, n2, n3, n4⟩ := n
  simp only [nodeV] at *
  obtain ⟨u, hu⟩ : ∃ u, strOfNums n2 = u := ⟨_, rfl⟩
  rw [hu] at HV ⊢
  have HU := hid hu
  have R := hid hr
  have hrl := hr.lt
  have K := hid (Kp.refl r w)
  have i0 := hid i0
  have i1 := hid i1
  have i2 := hid i2
  have i3 := hid i3
  have i4 := hid i4
  have i5 := hid i5
  have y := hid y
  have HV := hid HV
  clear hr hu
  unfold DG at *
  go_enter Tryd.func97, Tryd.ntmps97
  go_wp2_with (first
    | (go_at_call 47; (fail_if_success (have _g := m0)); have m0 := hid trivial; refine (eat_no ⟨#[116, 114, 117, 101]⟩ (R.out.bw bq) i0.out).mono ?_; rintro e w1 ⟨rfl, hr1, hk1⟩; have K := hid (show Kp r w w1 from Kp.trans (Kp.of_bw bq) hk1); have R := hid hr1; have P := hid (show Blk w1 w.heap.size #[.int .i64 n0, .int .i64 n1, .string u, .int .i64 n3, .int .i64 n4] 43 from (Blk.new w _ _).kp hk1 (by omega)); have ul := P.out.lt; have uc := P.out.cell; have uf := P.out.free; have ur : r < w1.heap.size := R.out.lt; clear hr1 hk1)
    | (go_at_call 47; have _g := m0; clear _g; (fail_if_success (have _g := m1)); have m1 := hid trivial; refine (eat_no ⟨#[102, 97, 108, 115, 101]⟩ (R.out.bw bq) i1.out).mono ?_; clear ul uc uf ur; rintro e w1 ⟨rfl, hr1, hk1⟩; have K := hid (show Kp r w w1 from K.out.trans (Kp.trans (Kp.of_bw bq) hk1)); have P := hid (show Blk w1 w.heap.size #[.int .i64 n0, .int .i64 n1, .string u, .int .i64 n3, .int .i64 n4] 43 from P.out.kp (Kp.trans (Kp.of_bw bq) hk1) (by omega)); have R := hid hr1; have ul := P.out.lt; have uc := P.out.cell; have uf := P.out.free; have ur : r < w1.heap.size := R.out.lt; clear hr1 hk1)
    | (go_at_call 47; have _g := m1; clear _g; (fail_if_success (have _g := m2)); have m2 := hid trivial; refine (eat_no ⟨#[110, 105, 108]⟩ (R.out.bw bq) i2.out).mono ?_; clear ul uc uf ur; rintro e w1 ⟨rfl, hr1, hk1⟩; have K := hid (show Kp r w w1 from K.out.trans (Kp.trans (Kp.of_bw bq) hk1)); have P := hid (show Blk w1 w.heap.size #[.int .i64 n0, .int .i64 n1, .string u, .int .i64 n3, .int .i64 n4] 43 from P.out.kp (Kp.trans (Kp.of_bw bq) hk1) (by omega)); have R := hid hr1; have ul := P.out.lt; have uc := P.out.cell; have uf := P.out.free; have ur : r < w1.heap.size := R.out.lt; clear hr1 hk1)
    | (go_at_call 47; have _g := m2; clear _g; (fail_if_success (have _g := m3)); have m3 := hid trivial; refine (eat_no ⟨#[102, 110]⟩ (R.out.bw bq) i3.out).mono ?_; clear ul uc uf ur; rintro e w1 ⟨rfl, hr1, hk1⟩; have K := hid (show Kp r w w1 from K.out.trans (Kp.trans (Kp.of_bw bq) hk1)); have P := hid (show Blk w1 w.heap.size #[.int .i64 n0, .int .i64 n1, .string u, .int .i64 n3, .int .i64 n4] 43 from P.out.kp (Kp.trans (Kp.of_bw bq) hk1) (by omega)); have R := hid hr1; have ul := P.out.lt; have uc := P.out.cell; have uf := P.out.free; have ur : r < w1.heap.size := R.out.lt; clear hr1 hk1)
    | (go_at_call 42; have _g := m3; clear _g; (fail_if_success (have _g := m4)); have m4 := hid trivial; refine (is_no ⟨#[40]⟩ (R.out.bw bq) i4.out).mono ?_; clear ul uc uf ur; rintro e w1 ⟨rfl, hr1, hk1⟩; have K := hid (show Kp r w w1 from K.out.trans (Kp.trans (Kp.of_bw bq) hk1)); have P := hid (show Blk w1 w.heap.size #[.int .i64 n0, .int .i64 n1, .string u, .int .i64 n3, .int .i64 n4] 43 from P.out.kp (Kp.trans (Kp.of_bw bq) hk1) (by omega)); have R := hid hr1; have ul := P.out.lt; have uc := P.out.cell; have uf := P.out.free; have ur : r < w1.heap.size := R.out.lt; clear hr1 hk1)
    | (go_at_call 42; have _g := m4; clear _g; (fail_if_success (have _g := m5)); have m5 := hid trivial; refine (is_no ⟨#[91]⟩ (R.out.bw bq) i5.out).mono ?_; clear ul uc uf ur; rintro e w1 ⟨rfl, hr1, hk1⟩; have K := hid (show Kp r w w1 from K.out.trans (Kp.trans (Kp.of_bw bq) hk1)); have P := hid (show Blk w1 w.heap.size #[.int .i64 n0, .int .i64 n1, .string u, .int .i64 n3, .int .i64 n4] 43 from P.out.kp (Kp.trans (Kp.of_bw bq) hk1) (by omega)); have R := hid hr1; have ul := P.out.lt; have uc := P.out.cell; have uf := P.out.free; have ur : r < w1.heap.size := R.out.lt; clear hr1 hk1)
    | (go_at_call 42; have _g := m5; clear _g; (fail_if_success (have _g := m6)); have m6 := hid trivial; refine (is_yes ⟨#[123]⟩ (R.out.bw bq) y.out).mono ?_; clear ul uc uf ur; rintro e w1 ⟨rfl, hr1, hk1⟩; have K := hid (show Kp r w w1 from K.out.trans (Kp.trans (Kp.of_bw bq) hk1)); have P := hid (show Blk w1 w.heap.size #[.int .i64 n0, .int .i64 n1, .string u, .int .i64 n3, .int .i64 n4] 43 from P.out.kp (Kp.trans (Kp.of_bw bq) hk1) (by omega)); have R := hid hr1; have ul := P.out.lt; have uc := P.out.cell; have uf := P.out.free; have ur : r < w1.heap.size := R.out.lt; clear hr1 hk1)
    | (go_at_call 101; refine (HV.out _ (R.out.bw bq)).mono ?_; rintro e w2 ⟨a2, c2, rfl, hn2, hr2, hk2, hl2⟩; have N := hid (hn2.low (b' := w.heap.size) (Nat.le_trans K.out.size (by first | (simp; done) | exact Nat.le_refl _))); have K := hid (show Kp r w w2 from K.out.trans (Kp.trans (Kp.of_bw bq) hk2)); have R := hid hr2; have L := hid hl2; clear hn2 hr2 hk2 hl2)
    | fail)
  all_goals go_ret
  all_goals exact ⟨_, _, rfl, N.out, R.out, K.out, L.out⟩

set_option maxRecDepth 100000 in
set_option maxHeartbeats 8000000 in
theorem about_bad (n : ANode) (i0 : dIs T s ⟨#[116, 114, 117, 101]⟩ = false) (i1 : dIs T s ⟨#[102, 97, 108, 115, 101]⟩ = false) (i2 : dIs T s ⟨#[110, 105, 108]⟩ = false) (i3 : dIs T s ⟨#[102, 110]⟩ = false) (i4 : dIs T s ⟨#[40]⟩ = false) (i5 : dIs T s ⟨#[91]⟩ = false) (i6 : dIs T s ⟨#[123]⟩ = false) (i7 : dIs T s ⟨#[115, 112, 97, 119, 110]⟩ = false) (hr : RdM w r T o s) : Calls Tryd.prog 97 #[.pointer (some ⟨r, 0, none⟩), nodeV n] w (DG w r T o [n] (dBad T s 6)) := by
  obtain ⟨n0, n1, n2, n3, n4⟩ := n
  simp only [nodeV] at *
  obtain ⟨u, hu⟩ : ∃ u, strOfNums n2 = u := ⟨_, rfl⟩
  rw [hu]
  have HU := hid hu
  have R := hid hr
  have hrl := hr.lt
  have K := hid (Kp.refl r w)
  have i0 := hid i0
  have i1 := hid i1
  have i2 := hid i2
  have i3 := hid i3
  have i4 := hid i4
  have i5 := hid i5
  have i6 := hid i6
  have i7 := hid i7
  clear hr hu
  unfold DG at *
  go_enter Tryd.func97, Tryd.ntmps97
  go_wp2_with (first
    | (go_at_call 47; (fail_if_success (have _g := m0)); have m0 := hid trivial; refine (eat_no ⟨#[116, 114, 117, 101]⟩ (R.out.bw bq) i0.out).mono ?_; rintro e w1 ⟨rfl, hr1, hk1⟩; have K := hid (show Kp r w w1 from Kp.trans (Kp.of_bw bq) hk1); have R := hid hr1; have P := hid (show Blk w1 w.heap.size #[.int .i64 n0, .int .i64 n1, .string u, .int .i64 n3, .int .i64 n4] 43 from (Blk.new w _ _).kp hk1 (by omega)); have ul := P.out.lt; have uc := P.out.cell; have uf := P.out.free; have ur : r < w1.heap.size := R.out.lt; clear hr1 hk1)
    | (go_at_call 47; have _g := m0; clear _g; (fail_if_success (have _g := m1)); have m1 := hid trivial; refine (eat_no ⟨#[102, 97, 108, 115, 101]⟩ (R.out.bw bq) i1.out).mono ?_; clear ul uc uf ur; rintro e w1 ⟨rfl, hr1, hk1⟩; have K := hid (show Kp r w w1 from K.out.trans (Kp.trans (Kp.of_bw bq) hk1)); have P := hid (show Blk w1 w.heap.size #[.int .i64 n0, .int .i64 n1, .string u, .int .i64 n3, .int .i64 n4] 43 from P.out.kp (Kp.trans (Kp.of_bw bq) hk1) (by omega)); have R := hid hr1; have ul := P.out.lt; have uc := P.out.cell; have uf := P.out.free; have ur : r < w1.heap.size := R.out.lt; clear hr1 hk1)
    | (go_at_call 47; have _g := m1; clear _g; (fail_if_success (have _g := m2)); have m2 := hid trivial; refine (eat_no ⟨#[110, 105, 108]⟩ (R.out.bw bq) i2.out).mono ?_; clear ul uc uf ur; rintro e w1 ⟨rfl, hr1, hk1⟩; have K := hid (show Kp r w w1 from K.out.trans (Kp.trans (Kp.of_bw bq) hk1)); have P := hid (show Blk w1 w.heap.size #[.int .i64 n0, .int .i64 n1, .string u, .int .i64 n3, .int .i64 n4] 43 from P.out.kp (Kp.trans (Kp.of_bw bq) hk1) (by omega)); have R := hid hr1; have ul := P.out.lt; have uc := P.out.cell; have uf := P.out.free; have ur : r < w1.heap.size := R.out.lt; clear hr1 hk1)
    | (go_at_call 47; have _g := m2; clear _g; (fail_if_success (have _g := m3)); have m3 := hid trivial; refine (eat_no ⟨#[102, 110]⟩ (R.out.bw bq) i3.out).mono ?_; clear ul uc uf ur; rintro e w1 ⟨rfl, hr1, hk1⟩; have K := hid (show Kp r w w1 from K.out.trans (Kp.trans (Kp.of_bw bq) hk1)); have P := hid (show Blk w1 w.heap.size #[.int .i64 n0, .int .i64 n1, .string u, .int .i64 n3, .int .i64 n4] 43 from P.out.kp (Kp.trans (Kp.of_bw bq) hk1) (by omega)); have R := hid hr1; have ul := P.out.lt; have uc := P.out.cell; have uf := P.out.free; have ur : r < w1.heap.size := R.out.lt; clear hr1 hk1)
    | (go_at_call 42; have _g := m3; clear _g; (fail_if_success (have _g := m4)); have m4 := hid trivial; refine (is_no ⟨#[40]⟩ (R.out.bw bq) i4.out).mono ?_; clear ul uc uf ur; rintro e w1 ⟨rfl, hr1, hk1⟩; have K := hid (show Kp r w w1 from K.out.trans (Kp.trans (Kp.of_bw bq) hk1)); have P := hid (show Blk w1 w.heap.size #[.int .i64 n0, .int .i64 n1, .string u, .int .i64 n3, .int .i64 n4] 43 from P.out.kp (Kp.trans (Kp.of_bw bq) hk1) (by omega)); have R := hid hr1; have ul := P.out.lt; have uc := P.out.cell; have uf := P.out.free; have ur : r < w1.heap.size := R.out.lt; clear hr1 hk1)
    | (go_at_call 42; have _g := m4; clear _g; (fail_if_success (have _g := m5)); have m5 := hid trivial; refine (is_no ⟨#[91]⟩ (R.out.bw bq) i5.out).mono ?_; clear ul uc uf ur; rintro e w1 ⟨rfl, hr1, hk1⟩; have K := hid (show Kp r w w1 from K.out.trans (Kp.trans (Kp.of_bw bq) hk1)); have P := hid (show Blk w1 w.heap.size #[.int .i64 n0, .int .i64 n1, .string u, .int .i64 n3, .int .i64 n4] 43 from P.out.kp (Kp.trans (Kp.of_bw bq) hk1) (by omega)); have R := hid hr1; have ul := P.out.lt; have uc := P.out.cell; have uf := P.out.free; have ur : r < w1.heap.size := R.out.lt; clear hr1 hk1)
    | (go_at_call 42; have _g := m5; clear _g; (fail_if_success (have _g := m6)); have m6 := hid trivial; refine (is_no ⟨#[123]⟩ (R.out.bw bq) i6.out).mono ?_; clear ul uc uf ur; rintro e w1 ⟨rfl, hr1, hk1⟩; have K := hid (show Kp r w w1 from K.out.trans (Kp.trans (Kp.of_bw bq) hk1)); have P := hid (show Blk w1 w.heap.size #[.int .i64 n0, .int .i64 n1, .string u, .int .i64 n3, .int .i64 n4] 43 from P.out.kp (Kp.trans (Kp.of_bw bq) hk1) (by omega)); have R := hid hr1; have ul := P.out.lt; have uc := P.out.cell; have uf := P.out.free; have ur : r < w1.heap.size := R.out.lt; clear hr1 hk1)
    | (go_at_call 42; have _g := m6; clear _g; (fail_if_success (have _g := m7)); have m7 := hid trivial; refine (is_no ⟨#[115, 112, 97, 119, 110]⟩ (R.out.bw bq) i7.out).mono ?_; clear ul uc uf ur; rintro e w1 ⟨rfl, hr1, hk1⟩; have K := hid (show Kp r w w1 from K.out.trans (Kp.trans (Kp.of_bw bq) hk1)); have P := hid (show Blk w1 w.heap.size #[.int .i64 n0, .int .i64 n1, .string u, .int .i64 n3, .int .i64 n4] 43 from P.out.kp (Kp.trans (Kp.of_bw bq) hk1) (by omega)); have R := hid hr1; have ul := P.out.lt; have uc := P.out.cell; have uf := P.out.free; have ur : r < w1.heap.size := R.out.lt; clear hr1 hk1)
    | (go_at_call 69; refine (dbad_any 6 (by decide) (R.out.bw bq)).mono ?_; clear ul uc uf ur; rintro e w1 ⟨rfl, hr1, hk1⟩; have K := hid (show Kp r w w1 from K.out.trans (Kp.trans (Kp.of_bw bq) hk1)); have P := hid (show Blk w1 w.heap.size #[.int .i64 n0, .int .i64 n1, .string u, .int .i64 n3, .int .i64 n4] 43 from P.out.kp (Kp.trans (Kp.of_bw bq) hk1) (by omega)); have R := hid hr1; have ul := P.out.lt; have uc := P.out.cell; have uf := P.out.free; have ur : r < w1.heap.size := R.out.lt; clear hr1 hk1)
    | fail)
  all_goals go_ret
  all_goals refine ⟨_, _, rfl, Nd.lit (n0, n1, n2, n3, n4) HU.out ?_ (by first | (simp; done) | (simp; omega) | (have := K.out.size; simp; omega)), RdM.bw R.out bq, Kp.bw K.out bq, by simp⟩
  all_goals repeat (first | exact Blk.newH _ _ (by simp) | apply Blk.drh | apply Blk.alloc)

set_option maxRecDepth 100000 in
set_option maxHeartbeats 8000000 in
theorem about_par (n : ANode) (i0 : dIs T s ⟨#[116, 114, 117, 101]⟩ = false) (i1 : dIs T s ⟨#[102, 97, 108, 115, 101]⟩ = false) (i2 : dIs T s ⟨#[110, 105, 108]⟩ = false) (i3 : dIs T s ⟨#[102, 110]⟩ = false) (y : dIs T s ⟨#[40]⟩ = true) {l1 : List ANode} {s1 : DS} (HV : ∀ w1 : World, RdM w1 r T (o + 1) (dEnter T o s ⟨#[40]⟩) → Calls Tryd.prog 49 #[.pointer (some ⟨r, 0, none⟩), .int .i64 0] w1 (DG w1 r T (o + 1) l1 s1)) (ho : (dWant T s1 ⟨#[41]⟩).e = 0 → 0 ≤ o) (hr : RdM w r T o s) : Calls Tryd.prog 97 #[.pointer (some ⟨r, 0, none⟩), nodeV n] w (DG w r T o l1 (dWant T s1 ⟨#[41]⟩)) := by
  obtain ⟨n0, n1, n2, n3, n4⟩ := n
  simp only [nodeV] at *
  obtain ⟨u, hu⟩ : ∃ u, strOfNums n2 = u := ⟨_, rfl⟩
  rw [hu]
  have HU := hid hu
  have R := hid hr
  have hrl := hr.lt
  have K := hid (Kp.refl r w)
  have i0 := hid i0
  have i1 := hid i1
  have i2 := hid i2
  have i3 := hid i3
  have y := hid y
  have HV := hid HV
  have HOW := hid ho
  have HW := hid (fun w1 (hw : RdM w1 r T (o + 1) s1) => dwant_any ⟨#[41]⟩ hw)
  clear ho
  clear hr hu
  unfold DG at *
  go_enter Tryd.func97, Tryd.ntmps97
  go_wp2_with (first
    | (go_at_call 47; (fail_if_success (have _g := m0)); have m0 := hid trivial; refine (eat_no ⟨#[116, 114, 117, 101]⟩ (R.out.bw bq) i0.out).mono ?_; rintro e w1 ⟨rfl, hr1, hk1⟩; have K := hid (show Kp r w w1 from Kp.trans (Kp.of_bw bq) hk1); have R := hid hr1; have P := hid (show Blk w1 w.heap.size #[.int .i64 n0, .int .i64 n1, .string u, .int .i64 n3, .int .i64 n4] 43 from (Blk.new w _ _).kp hk1 (by omega)); have ul := P.out.lt; have uc := P.out.cell; have uf := P.out.free; have ur : r < w1.heap.size := R.out.lt; clear hr1 hk1)
    | (go_at_call 47; have _g := m0; clear _g; (fail_if_success (have _g := m1)); have m1 := hid trivial; refine (eat_no ⟨#[102, 97, 108, 115, 101]⟩ (R.out.bw bq) i1.out).mono ?_; clear ul uc uf ur; rintro e w1 ⟨rfl, hr1, hk1⟩; have K := hid (show Kp r w w1 from K.out.trans (Kp.trans (Kp.of_bw bq) hk1)); have P := hid (show Blk w1 w.heap.size #[.int .i64 n0, .int .i64 n1, .string u, .int .i64 n3, .int .i64 n4] 43 from P.out.kp (Kp.trans (Kp.of_bw bq) hk1) (by omega)); have R := hid hr1; have ul := P.out.lt; have uc := P.out.cell; have uf := P.out.free; have ur : r < w1.heap.size := R.out.lt; clear hr1 hk1)
    | (go_at_call 47; have _g := m1; clear _g; (fail_if_success (have _g := m2)); have m2 := hid trivial; refine (eat_no ⟨#[110, 105, 108]⟩ (R.out.bw bq) i2.out).mono ?_; clear ul uc uf ur; rintro e w1 ⟨rfl, hr1, hk1⟩; have K := hid (show Kp r w w1 from K.out.trans (Kp.trans (Kp.of_bw bq) hk1)); have P := hid (show Blk w1 w.heap.size #[.int .i64 n0, .int .i64 n1, .string u, .int .i64 n3, .int .i64 n4] 43 from P.out.kp (Kp.trans (Kp.of_bw bq) hk1) (by omega)); have R := hid hr1; have ul := P.out.lt; have uc := P.out.cell; have uf := P.out.free; have ur : r < w1.heap.size := R.out.lt; clear hr1 hk1)
    | (go_at_call 47; have _g := m2; clear _g; (fail_if_success (have _g := m3)); have m3 := hid trivial; refine (eat_no ⟨#[102, 110]⟩ (R.out.bw bq) i3.out).mono ?_; clear ul uc uf ur; rintro e w1 ⟨rfl, hr1, hk1⟩; have K := hid (show Kp r w w1 from K.out.trans (Kp.trans (Kp.of_bw bq) hk1)); have P := hid (show Blk w1 w.heap.size #[.int .i64 n0, .int .i64 n1, .string u, .int .i64 n3, .int .i64 n4] 43 from P.out.kp (Kp.trans (Kp.of_bw bq) hk1) (by omega)); have R := hid hr1; have ul := P.out.lt; have uc := P.out.cell; have uf := P.out.free; have ur : r < w1.heap.size := R.out.lt; clear hr1 hk1)
    | (go_at_call 42; have _g := m3; clear _g; (fail_if_success (have _g := m4)); have m4 := hid trivial; refine (is_yes ⟨#[40]⟩ (R.out.bw bq) y.out).mono ?_; clear ul uc uf ur; rintro e w1 ⟨rfl, hr1, hk1⟩; have K := hid (show Kp r w w1 from K.out.trans (Kp.trans (Kp.of_bw bq) hk1)); have P := hid (show Blk w1 w.heap.size #[.int .i64 n0, .int .i64 n1, .string u, .int .i64 n3, .int .i64 n4] 43 from P.out.kp (Kp.trans (Kp.of_bw bq) hk1) (by omega)); have R := hid hr1; have ul := P.out.lt; have uc := P.out.cell; have uf := P.out.free; have ur : r < w1.heap.size := R.out.lt; clear hr1 hk1)
    | (go_at_call 68; refine (denter_any _ (R.out.bw bq)).mono ?_; rintro e w2 ⟨rfl, hr2, hk2⟩; have K := hid (show Kp r w w2 from K.out.trans (Kp.trans (Kp.of_bw bq) hk2)); have R := hid hr2; have E := hid hk2.size; clear hr2 hk2)
    | (go_at_call 49; refine (HV.out _ (R.out.bw bq)).mono ?_; rintro e w2 ⟨a2, c2, rfl, hn2, hr2, hk2, hl2⟩; have N := hid (hn2.low (b' := w.heap.size) (Nat.le_trans K.out.size (by first | (simp; done) | exact Nat.le_refl _))); have K := hid (show Kp r w w2 from K.out.trans (Kp.trans (Kp.of_bw bq) hk2)); have R := hid hr2; have L := hid hl2; clear hn2 hr2 hk2 hl2)
    | (go_at_call 48; refine (HW.out _ (R.out.bw bq)).mono ?_; rintro e w3 ⟨rfl, hr3, hk3⟩; have K := hid (show Kp r w w3 from K.out.trans (Kp.trans (Kp.of_bw bq) hk3)); have N := hid (N.out.kp (Kp.trans (Kp.of_bw bq) hk3) hrl); (obtain ⟨q6, z0, z1, z2, HQ6⟩ := RdM.off hr3 HOW.out); have R := hid HQ6; clear hr3 hk3 HQ6)
    | fail)
  all_goals go_ret
  all_goals exact ⟨_, _, rfl, N.out.kp ((Kp.refl r _).set 2 _) hrl, R.out, K.out.set 2 _, L.out⟩

end

end Go.Proofs.YtdhkcdehedbpcaaDoor

