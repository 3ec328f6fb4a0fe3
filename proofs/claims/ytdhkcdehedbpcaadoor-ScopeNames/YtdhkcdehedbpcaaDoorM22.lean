/- The document's parser: about: contracts, by steps. · The document's parser: about: spawn: contracts, by steps. -/
import Derived.Test.YtdhkcdehedbpcaaDoorM16
set_option linter.unusedSimpArgs false
set_option linter.unusedVariables false
namespace Go.Proofs.YtdhkcdehedbpcaaDoor
open Go Go.RowKit

section
attribute [local irreducible] dIs
variable {w w' : World} {r f : Nat} {T : List ATok} {o : Int} {s s' : DS} {l : List ANode} {k : Int}

set_option maxRecDepth 100000 in
set_option maxHeartbeats 8000000 in
theorem about_true (n : ANode)  (y : dIs T s ⟨#[116, 114, 117, 101]⟩ = true) (hr : RdM w r T o s) : Calls Tryd.prog 97 #[.pointer (some ⟨r, 0, none⟩), nodeV n] w (DG w r T o [(16, n.2)] (dNx s)) := by
 obtain ⟨n0, n1, n2, n3, n4⟩ := n
 simp only [nodeV] at *
 obtain ⟨u, hu⟩ : ∃ u, strOfNums n2 = u := ⟨_, rfl⟩
 rw [hu]
 have HU := hid hu
 have R := hid hr
 have hrl := hr.lt
 have K := hid (Kp.refl r w)
 have y := hid y
 clear hr hu
 unfold DG at *
 go_enter Tryd.func97, Tryd.ntmps97
 go_wp2_with (first
  | (go_at_call 47; (fail_if_success (have _g := m0)); have m0 := hid trivial; refine (eat_yes ⟨#[116, 114, 117, 101]⟩ (R.out.bw bq) y.out).mono ?_; rintro e w1 ⟨rfl, hr1, hk1⟩; have K := hid (show Kp r w w1 from Kp.trans (Kp.of_bw bq) hk1); have R := hid hr1; have P := hid (show Blk w1 w.heap.size #[.int .i64 n0, .int .i64 n1, .string u, .int .i64 n3, .int .i64 n4] 43 from (Blk.new w _ _).kp hk1 (by omega)); have ul := P.out.lt; have uc := P.out.cell; have uf := P.out.free; have ur : r < w1.heap.size := R.out.lt; clear hr1 hk1)
  | fail)
 all_goals go_ret
 all_goals refine ⟨_, _, rfl, Nd.lit (16, n1, n2, n3, n4) HU.out ?_ (by first | (simp; done) | (simp; omega) | (have := K.out.size; simp; omega)), RdM.bw (R.out.setO P.out 0 _) bq, Kp.bw (K.out.setNew (Nat.le_refl _) 0 _) bq, by simp⟩
 all_goals repeat (first | exact Blk.newH _ _ (by simp) | apply Blk.drh | apply Blk.alloc)

set_option maxRecDepth 100000 in
set_option maxHeartbeats 8000000 in
theorem about_false (n : ANode) (i0 : dIs T s ⟨#[116, 114, 117, 101]⟩ = false) (y : dIs T s ⟨#[102, 97, 108, 115, 101]⟩ = true) (hr : RdM w r T o s) : Calls Tryd.prog 97 #[.pointer (some ⟨r, 0, none⟩), nodeV n] w (DG w r T o [(17, n.2)] (dNx s)) := by
 obtain ⟨n0, n1, n2, n3, n4⟩ := n
 simp only [nodeV] at *
 obtain ⟨u, hu⟩ : ∃ u, strOfNums n2 = u := ⟨_, rfl⟩
 rw [hu]
 have HU := hid hu
 have R := hid hr
 have hrl := hr.lt
 have K := hid (Kp.refl r w)
 have i0 := hid i0
 have y := hid y
 clear hr hu
 unfold DG at *
 go_enter Tryd.func97, Tryd.ntmps97
 go_wp2_with (first
  | (go_at_call 47; (fail_if_success (have _g := m0)); have m0 := hid trivial; refine (eat_no ⟨#[116, 114, 117, 101]⟩ (R.out.bw bq) i0.out).mono ?_; rintro e w1 ⟨rfl, hr1, hk1⟩; have K := hid (show Kp r w w1 from Kp.trans (Kp.of_bw bq) hk1); have R := hid hr1; have P := hid (show Blk w1 w.heap.size #[.int .i64 n0, .int .i64 n1, .string u, .int .i64 n3, .int .i64 n4] 43 from (Blk.new w _ _).kp hk1 (by omega)); have ul := P.out.lt; have uc := P.out.cell; have uf := P.out.free; have ur : r < w1.heap.size := R.out.lt; clear hr1 hk1)
  | (go_at_call 47; have _g := m0; clear _g; (fail_if_success (have _g := m1)); have m1 := hid trivial; refine (eat_yes ⟨#[102, 97, 108, 115, 101]⟩ (R.out.bw bq) y.out).mono ?_; clear ul uc uf ur; rintro e w1 ⟨rfl, hr1, hk1⟩; have K := hid (show Kp r w w1 from K.out.trans (Kp.trans (Kp.of_bw bq) hk1)); have P := hid (show Blk w1 w.heap.size #[.int .i64 n0, .int .i64 n1, .string u, .int .i64 n3, .int .i64 n4] 43 from P.out.kp (Kp.trans (Kp.of_bw bq) hk1) (by omega)); have R := hid hr1; have ul := P.out.lt; have uc := P.out.cell; have uf := P.out.free; have ur : r < w1.heap.size := R.out.lt; clear hr1 hk1)
  | fail)
 all_goals go_ret
 all_goals refine ⟨_, _, rfl, Nd.lit (17, n1, n2, n3, n4) HU.out ?_ (by first | (simp; done) | (simp; omega) | (have := K.out.size; simp; omega)), RdM.bw (R.out.setO P.out 0 _) bq, Kp.bw (K.out.setNew (Nat.le_refl _) 0 _) bq, by simp⟩
 all_goals repeat (first | exact Blk.newH _ _ (by simp) | apply Blk.drh | apply Blk.alloc)

set_option maxRecDepth 100000 in
set_option maxHeartbeats 8000000 in
theorem about_nil (n : ANode) (i0 : dIs T s ⟨#[116, 114, 117, 101]⟩ = false) (i1 : dIs T s ⟨#[102, 97, 108, 115, 101]⟩ = false) (y : dIs T s ⟨#[110, 105, 108]⟩ = true) (hr : RdM w r T o s) : Calls Tryd.prog 97 #[.pointer (some ⟨r, 0, none⟩), nodeV n] w (DG w r T o [(18, n.2)] (dNx s)) := by
 obtain ⟨n0, n1, n2, n3, n4⟩ := n
 simp only [nodeV] at *
 obtain ⟨u, hu⟩ : ∃ u, strOfNums n2 = u := ⟨_, rfl⟩
 rw [hu]
 have HU := hid hu
 have R := hid hr
 have hrl := hr.lt
 have K := hid (Kp.refl r w)
 have i0 := hid i0
 have i1 := hid i1
 have y := hid y
 clear hr hu
 unfold DG at *
 go_enter Tryd.func97, Tryd.ntmps97
 go_wp2_with (first
  | (go_at_call 47; (fail_if_success (have _g := m0)); have m0 := hid trivial; refine (eat_no ⟨#[116, 114, 117, 101]⟩ (R.out.bw bq) i0.out).mono ?_; rintro e w1 ⟨rfl, hr1, hk1⟩; have K := hid (show Kp r w w1 from Kp.trans (Kp.of_bw bq) hk1); have R := hid hr1; have P := hid (show Blk w1 w.heap.size #[.int .i64 n0, .int .i64 n1, .string u, .int .i64 n3, .int .i64 n4] 43 from (Blk.new w _ _).kp hk1 (by omega)); have ul := P.out.lt; have uc := P.out.cell; have uf := P.out.free; have ur : r < w1.heap.size := R.out.lt; clear hr1 hk1)
  | (go_at_call 47; have _g := m0; clear _g; (fail_if_success (have _g := m1)); have m1 := hid trivial; refine (eat_no ⟨#[102, 97, 108, 115, 101]⟩ (R.out.bw bq) i1.out).mono ?_; clear ul uc uf ur; rintro e w1 ⟨rfl, hr1, hk1⟩; have K := hid (show Kp r w w1 from K.out.trans (Kp.trans (Kp.of_bw bq) hk1)); have P := hid (show Blk w1 w.heap.size #[.int .i64 n0, .int .i64 n1, .string u, .int .i64 n3, .int .i64 n4] 43 from P.out.kp (Kp.trans (Kp.of_bw bq) hk1) (by omega)); have R := hid hr1; have ul := P.out.lt; have uc := P.out.cell; have uf := P.out.free; have ur : r < w1.heap.size := R.out.lt; clear hr1 hk1)
  | (go_at_call 47; have _g := m1; clear _g; (fail_if_success (have _g := m2)); have m2 := hid trivial; refine (eat_yes ⟨#[110, 105, 108]⟩ (R.out.bw bq) y.out).mono ?_; clear ul uc uf ur; rintro e w1 ⟨rfl, hr1, hk1⟩; have K := hid (show Kp r w w1 from K.out.trans (Kp.trans (Kp.of_bw bq) hk1)); have P := hid (show Blk w1 w.heap.size #[.int .i64 n0, .int .i64 n1, .string u, .int .i64 n3, .int .i64 n4] 43 from P.out.kp (Kp.trans (Kp.of_bw bq) hk1) (by omega)); have R := hid hr1; have ul := P.out.lt; have uc := P.out.cell; have uf := P.out.free; have ur : r < w1.heap.size := R.out.lt; clear hr1 hk1)
  | fail)
 all_goals go_ret
 all_goals refine ⟨_, _, rfl, Nd.lit (18, n1, n2, n3, n4) HU.out ?_ (by first | (simp; done) | (simp; omega) | (have := K.out.size; simp; omega)), RdM.bw (R.out.setO P.out 0 _) bq, Kp.bw (K.out.setNew (Nat.le_refl _) 0 _) bq, by simp⟩
 all_goals repeat (first | exact Blk.newH _ _ (by simp) | apply Blk.drh | apply Blk.alloc)

set_option maxRecDepth 100000 in
set_option maxHeartbeats 8000000 in
theorem about_fn (n : ANode) (i0 : dIs T s ⟨#[116, 114, 117, 101]⟩ = false) (i1 : dIs T s ⟨#[102, 97, 108, 115, 101]⟩ = false) (i2 : dIs T s ⟨#[110, 105, 108]⟩ = false) (y : dIs T s ⟨#[102, 110]⟩ = true) (HV : ∀ w1 : World, RdM w1 r T o (dNx s) → Calls Tryd.prog 46 #[.pointer (some ⟨r, 0, none⟩), nodeV (31, n.2)] w1 (DG w1 r T o l s')) (hr : RdM w r T o s) : Calls Tryd.prog 97 #[.pointer (some ⟨r, 0, none⟩), nodeV n] w (DG w r T o l s') := by
 obtain ⟨n0, n1, n2, n3, n4⟩ := n
 simp only [nodeV] at *
 obtain ⟨u, hu⟩ : ∃ u, strOfNums n2 = u := ⟨_, rfl⟩
 rw [hu] at HV ⊢
 have HU := hid hu
 have R := hid hr
 have hrl := hr.lt
 have K := hid (Kp.refl r w)
 have i0 := hid i0
 have i1 := hid i1
 have i2 := hid i2
 have y := hid y
 have HV := hid HV
 clear hr hu
 unfold DG at *
 go_enter Tryd.func97, Tryd.ntmps97
 go_wp2_with (first
  | (go_at_call 47; (fail_if_success (have _g := m0)); have m0 := hid trivial; refine (eat_no ⟨#[116, 114, 117, 101]⟩ (R.out.bw bq) i0.out).mono ?_; rintro e w1 ⟨rfl, hr1, hk1⟩; have K := hid (show Kp r w w1 from Kp.trans (Kp.of_bw bq) hk1); have R := hid hr1; have P := hid (show Blk w1 w.heap.size #[.int .i64 n0, .int .i64 n1, .string u, .int .i64 n3, .int .i64 n4] 43 from (Blk.new w _ _).kp hk1 (by omega)); have ul := P.out.lt; have uc := P.out.cell; have uf := P.out.free; have ur : r < w1.heap.size := R.out.lt; clear hr1 hk1)
  | (go_at_call 47; have _g := m0; clear _g; (fail_if_success (have _g := m1)); have m1 := hid trivial; refine (eat_no ⟨#[102, 97, 108, 115, 101]⟩ (R.out.bw bq) i1.out).mono ?_; clear ul uc uf ur; rintro e w1 ⟨rfl, hr1, hk1⟩; have K := hid (show Kp r w w1 from K.out.trans (Kp.trans (Kp.of_bw bq) hk1)); have P := hid (show Blk w1 w.heap.size #[.int .i64 n0, .int .i64 n1, .string u, .int .i64 n3, .int .i64 n4] 43 from P.out.kp (Kp.trans (Kp.of_bw bq) hk1) (by omega)); have R := hid hr1; have ul := P.out.lt; have uc := P.out.cell; have uf := P.out.free; have ur : r < w1.heap.size := R.out.lt; clear hr1 hk1)
  | (go_at_call 47; have _g := m1; clear _g; (fail_if_success (have _g := m2)); have m2 := hid trivial; refine (eat_no ⟨#[110, 105, 108]⟩ (R.out.bw bq) i2.out).mono ?_; clear ul uc uf ur; rintro e w1 ⟨rfl, hr1, hk1⟩; have K := hid (show Kp r w w1 from K.out.trans (Kp.trans (Kp.of_bw bq) hk1)); have P := hid (show Blk w1 w.heap.size #[.int .i64 n0, .int .i64 n1, .string u, .int .i64 n3, .int .i64 n4] 43 from P.out.kp (Kp.trans (Kp.of_bw bq) hk1) (by omega)); have R := hid hr1; have ul := P.out.lt; have uc := P.out.cell; have uf := P.out.free; have ur : r < w1.heap.size := R.out.lt; clear hr1 hk1)
  | (go_at_call 47; have _g := m2; clear _g; (fail_if_success (have _g := m3)); have m3 := hid trivial; refine (eat_yes ⟨#[102, 110]⟩ (R.out.bw bq) y.out).mono ?_; clear ul uc uf ur; rintro e w1 ⟨rfl, hr1, hk1⟩; have K := hid (show Kp r w w1 from K.out.trans (Kp.trans (Kp.of_bw bq) hk1)); have P := hid (show Blk w1 w.heap.size #[.int .i64 n0, .int .i64 n1, .string u, .int .i64 n3, .int .i64 n4] 43 from P.out.kp (Kp.trans (Kp.of_bw bq) hk1) (by omega)); have R := hid hr1; have ul := P.out.lt; have uc := P.out.cell; have uf := P.out.free; have ur : r < w1.heap.size := R.out.lt; clear hr1 hk1)
  | (go_at_call 46; refine (HV.out _ (R.out.setO P.out 0 _)).mono ?_; rintro e w2 ⟨a2, c2, rfl, hn2, hr2, hk2, hl2⟩; have N := hid (hn2.low (b' := w.heap.size) (by have := K.out.size; simp only [World.size_setCell]; omega)); have K := hid (show Kp r w w2 from Kp.trans (K.out.setNew (Nat.le_refl _) 0 _) hk2); have R := hid hr2; have L := hid hl2; clear hn2 hr2 hk2 hl2)
  | fail)
 all_goals go_ret
 all_goals exact ⟨_, _, rfl, N.out, R.out, K.out, L.out⟩

set_option maxRecDepth 100000 in
set_option maxHeartbeats 8000000 in
theorem about_row (n : ANode) (i0 : dIs T s ⟨#[116, 114, 117, 101]⟩ = false) (i1 : dIs T s ⟨#[102, 97, 108, 115, 101]⟩ = false) (i2 : dIs T s ⟨#[110, 105, 108]⟩ = false) (i3 : dIs T s ⟨#[102, 110]⟩ = false) (i4 : dIs T s ⟨#[40]⟩ = false) (y : dIs T s ⟨#[91]⟩ = true) (HV : ∀ w1 : World, RdM w1 r T o s → Calls Tryd.prog 101 #[.pointer (some ⟨r, 0, none⟩), nodeV n, .string ⟨#[91]⟩, .string ⟨#[93]⟩] w1 (DG w1 r T o l s')) (hr : RdM w r T o s) : Calls Tryd.prog 97 #[.pointer (some ⟨r, 0, none⟩), nodeV n] w (DG w r T o l s') := by
 obtain ⟨n0, n1, n2, n3, n4⟩ := n
 simp only [nodeV] at *
 obtain ⟨u, hu⟩ : ∃ u, strOfNums n2 = u := ⟨_, rfl⟩
 rw [hu] at HV ⊢
 have HU := hid hu
 have R := hid hr
 have hrl := hr.lt
 have K := hid (Kp.refl r w)
 have i0 := hid i0
 have i1 := hid i1
 have i2 := hid i2
 have i3 := hid i3
 have i4 := hid i4
 have y := hid y
 have HV := hid HV
 clear hr hu
 unfold DG at *
 go_enter Tryd.func97, Tryd.ntmps97
 go_wp2_with (first
  | (go_at_call 47; (fail_if_success (have _g := m0)); have m0 := hid trivial; refine (eat_no ⟨#[116, 114, 117, 101]⟩ (R.out.bw bq) i0.out).mono ?_; rintro e w1 ⟨rfl, hr1, hk1⟩; have K := hid (show Kp r w w1 from Kp.trans (Kp.of_bw bq) hk1); have R := hid hr1; have P := hid (show Blk w1 w.heap.size #[.int .i64 n0, .int .i64 n1, .string u, .int .i64 n3, .int .i64 n4] 43 from (Blk.new w _ _).kp hk1 (by omega)); have ul := P.out.lt; have uc := P.out.cell; have uf := P.out.free; have ur : r < w1.heap.size := R.out.lt; clear hr1 hk1)
  | (go_at_call 47; have _g := m0; clear _g; (fail_if_success (have _g := m1)); have m1 := hid trivial; refine (eat_no ⟨#[102, 97, 108, 115, 101]⟩ (R.out.bw bq) i1.out).mono ?_; clear ul uc uf ur; rintro e w1 ⟨rfl, hr1, hk1⟩; have K := hid (show Kp r w w1 from K.out.trans (Kp.trans (Kp.of_bw bq) hk1)); have P := hid (show Blk w1 w.heap.size #[.int .i64 n0, .int .i64 n1, .string u, .int .i64 n3, .int .i64 n4] 43 from P.out.kp (Kp.trans (Kp.of_bw bq) hk1) (by omega)); have R := hid hr1; have ul := P.out.lt; have uc := P.out.cell; have uf := P.out.free; have ur : r < w1.heap.size := R.out.lt; clear hr1 hk1)
  | (go_at_call 47; have _g := m1; clear _g; (fail_if_success (have _g := m2)); have m2 := hid trivial; refine (eat_no ⟨#[110, 105, 108]⟩ (R.out.bw bq) i2.out).mono ?_; clear ul uc uf ur; rintro e w1 ⟨rfl, hr1, hk1⟩; have K := hid (show Kp r w w1 from K.out.trans (Kp.trans (Kp.of_bw bq) hk1)); have P := hid (show Blk w1 w.heap.size #[.int .i64 n0, .int .i64 n1, .string u, .int .i64 n3, .int .i64 n4] 43 from P.out.kp (Kp.trans (Kp.of_bw bq) hk1) (by omega)); have R := hid hr1; have ul := P.out.lt; have uc := P.out.cell; have uf := P.out.free; have ur : r < w1.heap.size := R.out.lt; clear hr1 hk1)
  | (go_at_call 47; have _g := m2; clear _g; (fail_if_success (have _g := m3)); have m3 := hid trivial; refine (eat_no ⟨#[102, 110]⟩ (R.out.bw bq) i3.out).mono ?_; clear ul uc uf ur; rintro e w1 ⟨rfl, hr1, hk1⟩; have K := hid (show Kp r w w1 from K.out.trans (Kp.trans (Kp.of_bw bq) hk1)); have P := hid (show Blk w1 w.heap.size #[.int .i64 n0, .int .i64 n1, .string u, .int .i64 n3, .int .i64 n4] 43 from P.out.kp (Kp.trans (Kp.of_bw bq) hk1) (by omega)); have R := hid hr1; have ul := P.out.lt; have uc := P.out.cell; have uf := P.out.free; have ur : r < w1.heap.size := R.out.lt; clear hr1 hk1)
  | (go_at_call 42; have _g := m3; clear _g; (fail_if_success (have _g := m4)); have m4 := hid trivial; refine (is_no ⟨#[40]⟩ (R.out.bw bq) i4.out).mono ?_; clear ul uc uf ur; rintro e w1 ⟨rfl, hr1, hk1⟩; have K := hid (show Kp r w w1 from K.out.trans (Kp.trans (Kp.of_bw bq) hk1)); have P := hid (show Blk w1 w.heap.size #[.int .i64 n0, .int .i64 n1, .string u, .int .i64 n3, .int .i64 n4] 43 from P.out.kp (Kp.trans (Kp.of_bw bq) hk1) (by omega)); have R := hid hr1; have ul := P.out.lt; have uc := P.out.cell; have uf := P.out.free; have ur : r < w1.heap.size := R.out.lt; clear hr1 hk1)
  | (go_at_call 42; have _g := m4; clear _g; (fail_if_success (have _g := m5)); have m5 := hid trivial; refine (is_yes ⟨#[91]⟩ (R.out.bw bq) y.out).mono ?_; clear ul uc uf ur; rintro e w1 ⟨rfl, hr1, hk1⟩; have K := hid (show Kp r w w1 from K.out.trans (Kp.trans (Kp.of_bw bq) hk1)); have P := hid (show Blk w1 w.heap.size #[.int .i64 n0, .int .i64 n1, .string u, .int .i64 n3, .int .i64 n4] 43 from P.out.kp (Kp.trans (Kp.of_bw bq) hk1) (by omega)); have R := hid hr1; have ul := P.out.lt; have uc := P.out.cell; have uf := P.out.free; have ur : r < w1.heap.size := R.out.lt; clear hr1 hk1)
  | (go_at_call 101; refine (HV.out _ (R.out.bw bq)).mono ?_; rintro e w2 ⟨a2, c2, rfl, hn2, hr2, hk2, hl2⟩; have N := hid (hn2.low (b' := w.heap.size) (Nat.le_trans K.out.size (by first | (simp; done) | exact Nat.le_refl _))); have K := hid (show Kp r w w2 from K.out.trans (Kp.trans (Kp.of_bw bq) hk2)); have R := hid hr2; have L := hid hl2; clear hn2 hr2 hk2 hl2)
  | fail)
 all_goals go_ret
 all_goals exact ⟨_, _, rfl, N.out, R.out, K.out, L.out⟩

set_option maxRecDepth 100000 in
set_option maxHeartbeats 8000000 in
theorem about_rec (n : ANode) (i0 : dIs T s ⟨#[116, 114, 117, 101]⟩ = false) (i1 : dIs T s ⟨#[102, 97, 108, 115, 101]⟩ = false) (i2 : dIs T s ⟨#[110, 105, 108]⟩ = false) (i3 : dIs T s ⟨#[102, 110]⟩ = false) (i4 : dIs T s ⟨#[40]⟩ = false) (i5 : dIs T s ⟨#[91]⟩ = false) (y : dIs T s ⟨#[123]⟩ = true) (HV : ∀ w1 : World, RdM w1 r T o s → Calls Tryd.prog 101 #[.pointer (some ⟨r, 0, none⟩), nodeV n, .string ⟨#[123]⟩, .string ⟨#[125]⟩] w1 (DG w1 r T o l s')) (hr : RdM w r T o s) : Calls Tryd.prog 97 #[.pointer (some ⟨r, 0, none⟩), nodeV n] w (DG w r T o l s') := by
 obtain ⟨n0, n1, n2, n3, n4⟩ := n
 simp only [nodeV] at *
 obtain ⟨u, hu⟩ : ∃ u, strOfNums n2 = u := ⟨_, rfl⟩
 rw [hu] at HV ⊢
 have HU := hid hu
 have R := hid hr
 have hrl := hr.lt
 have K := hid (Kp.refl r w)
 have i0 := hid i0
 have i1 := hid i1
 have i2 := hid i2
 have i3 := hid i3
 have i4 := hid i4
 have i5 := hid i5
 have y := hid y
 have HV := hid HV
 clear hr hu
 unfold DG at *
 go_enter Tryd.func97, Tryd.ntmps97
 go_wp2_with (first
  | (go_at_call 47; (fail_if_success (have _g := m0)); have m0 := hid trivial; refine (eat_no ⟨#[116, 114, 117, 101]⟩ (R.out.bw bq) i0.out).mono ?_; rintro e w1 ⟨rfl, hr1, hk1⟩; have K := hid (show Kp r w w1 from Kp.trans (Kp.of_bw bq) hk1); have R := hid hr1; have P := hid (show Blk w1 w.heap.size #[.int .i64 n0, .int .i64 n1, .string u, .int .i64 n3, .int .i64 n4] 43 from (Blk.new w _ _).kp hk1 (by omega)); have ul := P.out.lt; have uc := P.out.cell; have uf := P.out.free; have ur : r < w1.heap.size := R.out.lt; clear hr1 hk1)
  | (go_at_call 47; have _g := m0; clear _g; (fail_if_success (have _g := m1)); have m1 := hid trivial; refine (eat_no ⟨#[102, 97, 108, 115, 101]⟩ (R.out.bw bq) i1.out).mono ?_; clear ul uc uf ur; rintro e w1 ⟨rfl, hr1, hk1⟩; have K := hid (show Kp r w w1 from K.out.trans (Kp.trans (Kp.of_bw bq) hk1)); have P := hid (show Blk w1 w.heap.size #[.int .i64 n0, .int .i64 n1, .string u, .int .i64 n3, .int .i64 n4] 43 from P.out.kp (Kp.trans (Kp.of_bw bq) hk1) (by omega)); have R := hid hr1; have ul := P.out.lt; have uc := P.out.cell; have uf := P.out.free; have ur : r < w1.heap.size := R.out.lt; clear hr1 hk1)
  | (go_at_call 47; have _g := m1; clear _g; (fail_if_success (have _g := m2)); have m2 := hid trivial; refine (eat_no ⟨#[110, 105, 108]⟩ (R.out.bw bq) i2.out).mono ?_; clear ul uc uf ur; rintro e w1 ⟨rfl, hr1, hk1⟩; have K := hid (show Kp r w w1 from K.out.trans (Kp.trans (Kp.of_bw bq) hk1)); have P := hid (show Blk w1 w.heap.size #[.int .i64 n0, .int .i64 n1, .string u, .int .i64 n3, .int .i64 n4] 43 from P.out.kp (Kp.trans (Kp.of_bw bq) hk1) (by omega)); have R := hid hr1; have ul := P.out.lt; have uc := P.out.cell; have uf := P.out.free; have ur : r < w1.heap.size := R.out.lt; clear hr1 hk1)
  | (go_at_call 47; have _g := m2; clear _g; (fail_if_success (have _g := m3)); have m3 := hid trivial; refine (eat_no ⟨#[102, 110]⟩ (R.out.bw bq) i3.out).mono ?_; clear ul uc uf ur; rintro e w1 ⟨rfl, hr1, hk1⟩; have K := hid (show Kp r w w1 from K.out.trans (Kp.trans (Kp.of_bw bq) hk1)); have P := hid (show Blk w1 w.heap.size #[.int .i64 n0, .int .i64 n1, .string u, .int .i64 n3, .int .i64 n4] 43 from P.out.kp (Kp.trans (Kp.of_bw bq) hk1) (by omega)); have R := hid hr1; have ul := P.out.lt; have uc := P.out.cell; have uf := P.out.free; have ur : r < w1.heap.size := R.out.lt; clear hr1 hk1)
  | (go_at_call 42; have _g := m3; clear _g; (fail_if_success (have _g := m4)); have m4 := hid trivial; refine (is_no ⟨#[40]⟩ (R.out.bw bq) i4.out).mono ?_; clear ul uc uf ur; rintro e w1 ⟨rfl, hr1, hk1⟩; have K := hid (show Kp r w w1 from K.out.trans (Kp.trans (Kp.of_bw bq) hk1)); have P := hid (show Blk w1 w.heap.size #[.int .i64 n0, .int .i64 n1, .string u, .int .i64 n3, .int .i64 n4] 43 from P.out.kp (Kp.trans (Kp.of_bw bq) hk1) (by omega)); have R := hid hr1; have ul := P.out.lt; have uc := P.out.cell; have uf := P.out.free; have ur : r < w1.heap.size := R.out.lt; clear hr1 hk1)
  | (go_at_call 42; have _g := m4; clear _g; (fail_if_success (have _g := m5)); have m5 := hid trivial; refine (is_no ⟨#[91]⟩ (R.out.bw bq) i5.out).mono ?_; clear ul uc uf ur; rintro e w1 ⟨rfl, hr1, hk1⟩; have K := hid (show Kp r w w1 from K.out.trans (Kp.trans (Kp.of_bw bq) hk1)); have P := hid (show Blk w1 w.heap.size #[.int .i64 n0, .int .i64 n1, .string u, .int .i64 n3, .int .i64 n4] 43 from P.out.kp (Kp.trans (Kp.of_bw bq) hk1) (by omega)); have R := hid hr1; have ul := P.out.lt; have uc := P.out.cell; have uf := P.out.free; have ur : r < w1.heap.size := R.out.lt; clear hr1 hk1)
  | (go_at_call 42; have _g := m5; clear _g; (fail_if_success (have _g := m6)); have m6 := hid trivial; refine (is_yes ⟨#[123]⟩ (R.out.bw bq) y.out).mono ?_; clear ul uc uf ur; rintro e w1 ⟨rfl, hr1, hk1⟩; have K := hid (show Kp r w w1 from K.out.trans (Kp.trans (Kp.of_bw bq) hk1)); have P := hid (show Blk w1 w.heap.size #[.int .i64 n0, .int .i64 n1, .string u, .int .i64 n3, .int .i64 n4] 43 from P.out.kp (Kp.trans (Kp.of_bw bq) hk1) (by omega)); have R := hid hr1; have ul := P.out.lt; have uc := P.out.cell; have uf := P.out.free; have ur : r < w1.heap.size := R.out.lt; clear hr1 hk1)
  | (go_at_call 101; refine (HV.out _ (R.out.bw bq)).mono ?_; rintro e w2 ⟨a2, c2, rfl, hn2, hr2, hk2, hl2⟩; have N := hid (hn2.low (b' := w.heap.size) (Nat.le_trans K.out.size (by first | (simp; done) | exact Nat.le_refl _))); have K := hid (show Kp r w w2 from K.out.trans (Kp.trans (Kp.of_bw bq) hk2)); have R := hid hr2; have L := hid hl2; clear hn2 hr2 hk2 hl2)
  | fail)
 all_goals go_ret
 all_goals exact ⟨_, _, rfl, N.out, R.out, K.out, L.out⟩

set_option maxRecDepth 100000 in
set_option maxHeartbeats 8000000 in
theorem about_bad (n : ANode) (i0 : dIs T s ⟨#[116, 114, 117, 101]⟩ = false) (i1 : dIs T s ⟨#[102, 97, 108, 115, 101]⟩ = false) (i2 : dIs T s ⟨#[110, 105, 108]⟩ = false) (i3 : dIs T s ⟨#[102, 110]⟩ = false) (i4 : dIs T s ⟨#[40]⟩ = false) (i5 : dIs T s ⟨#[91]⟩ = false) (i6 : dIs T s ⟨#[123]⟩ = false) (i7 : dIs T s ⟨#[115, 112, 97, 119, 110]⟩ = false) (hr : RdM w r T o s) : Calls Tryd.prog 97 #[.pointer (some ⟨r, 0, none⟩), nodeV n] w (DG w r T o [n] (dBad T s 6)) := by
 obtain ⟨n0, n1, n2, n3, n4⟩ := n
 simp only [nodeV] at *
 obtain ⟨u, hu⟩ : ∃ u, strOfNums n2 = u := ⟨_, rfl⟩
 rw [hu]
 have HU := hid hu
 have R := hid hr
 have hrl := hr.lt
 have K := hid (Kp.refl r w)
 have i0 := hid i0
 have i1 := hid i1
 have i2 := hid i2
 have i3 := hid i3
 have i4 := hid i4
 have i5 := hid i5
 have i6 := hid i6
 have i7 := hid i7
 clear hr hu
 unfold DG at *
 go_enter Tryd.func97, Tryd.ntmps97
 go_wp2_with (first
  | (go_at_call 47; (fail_if_success (have _g := m0)); have m0 := hid trivial; refine (eat_no ⟨#[116, 114, 117, 101]⟩ (R.out.bw bq) i0.out).mono ?_; rintro e w1 ⟨rfl, hr1, hk1⟩; have K := hid (show Kp r w w1 from Kp.trans (Kp.of_bw bq) hk1); have R := hid hr1; have P := hid (show Blk w1 w.heap.size #[.int .i64 n0, .int .i64 n1, .string u, .int .i64 n3, .int .i64 n4] 43 from (Blk.new w _ _).kp hk1 (by omega)); have ul := P.out.lt; have uc := P.out.cell; have uf := P.out.free; have ur : r < w1.heap.size := R.out.lt; clear hr1 hk1)
  | (go_at_call 47; have _g := m0; clear _g; (fail_if_success (have _g := m1)); have m1 := hid trivial; refine (eat_no ⟨#[102, 97, 108, 115, 101]⟩ (R.out.bw bq) i1.out).mono ?_; clear ul uc uf ur; rintro e w1 ⟨rfl, hr1, hk1⟩; have K := hid (show Kp r w w1 from K.out.trans (Kp.trans (Kp.of_bw bq) hk1)); have P := hid (show Blk w1 w.heap.size #[.int .i64 n0, .int .i64 n1, .string u, .int .i64 n3, .int .i64 n4] 43 from P.out.kp (Kp.trans (Kp.of_bw bq) hk1) (by omega)); have R := hid hr1; have ul := P.out.lt; have uc := P.out.cell; have uf := P.out.free; have ur : r < w1.heap.size := R.out.lt; clear hr1 hk1)
  | (go_at_call 47; have _g := m1; clear _g; (fail_if_success (have _g := m2)); have m2 := hid trivial; refine (eat_no ⟨#[110, 105, 108]⟩ (R.out.bw bq) i2.out).mono ?_; clear ul uc uf ur; rintro e w1 ⟨rfl, hr1, hk1⟩; have K := hid (show Kp r w w1 from K.out.trans (Kp.trans (Kp.of_bw bq) hk1)); have P := hid (show Blk w1 w.heap.size #[.int .i64 n0, .int .i64 n1, .string u, .int .i64 n3, .int .i64 n4] 43 from P.out.kp (Kp.trans (Kp.of_bw bq) hk1) (by omega)); have R := hid hr1; have ul := P.out.lt; have uc := P.out.cell; have uf := P.out.free; have ur : r < w1.heap.size := R.out.lt; clear hr1 hk1)
  | (go_at_call 47; have _g := m2; clear _g; (fail_if_success (have _g := m3)); have m3 := hid trivial; refine (eat_no ⟨#[102, 110]⟩ (R.out.bw bq) i3.out).mono ?_; clear ul uc uf ur; rintro e w1 ⟨rfl, hr1, hk1⟩; have K := hid (show Kp r w w1 from K.out.trans (Kp.trans (Kp.of_bw bq) hk1)); have P := hid (show Blk w1 w.heap.size #[.int .i64 n0, .int .i64 n1, .string u, .int .i64 n3, .int .i64 n4] 43 from P.out.kp (Kp.trans (Kp.of_bw bq) hk1) (by omega)); have R := hid hr1; have ul := P.out.lt; have uc := P.out.cell; have uf := P.out.free; have ur : r < w1.heap.size := R.out.lt; clear hr1 hk1)
  | (go_at_call 42; have _g := m3; clear _g; (fail_if_success (have _g := m4)); have m4 := hid trivial; refine (is_no ⟨#[40]⟩ (R.out.bw bq) i4.out).mono ?_; clear ul uc uf ur; rintro e w1 ⟨rfl, hr1, hk1⟩; have K := hid (show Kp r w w1 from K.out.trans (Kp.trans (Kp.of_bw bq) hk1)); have P := hid (show Blk w1 w.heap.size #[.int .i64 n0, .int .i64 n1, .string u, .int .i64 n3, .int .i64 n4] 43 from P.out.kp (Kp.trans (Kp.of_bw bq) hk1) (by omega)); have R := hid hr1; have ul := P.out.lt; have uc := P.out.cell; have uf := P.out.free; have ur : r < w1.heap.size := R.out.lt; clear hr1 hk1)
  | (go_at_call 42; have _g := m4; clear _g; (fail_if_success (have _g := m5)); have m5 := hid trivial; refine (is_no ⟨#[91]⟩ (R.out.bw bq) i5.out).mono ?_; clear ul uc uf ur; rintro e w1 ⟨rfl, hr1, hk1⟩; have K := hid (show Kp r w w1 from K.out.trans (Kp.trans (Kp.of_bw bq) hk1)); have P := hid (show Blk w1 w.heap.size #[.int .i64 n0, .int .i64 n1, .string u, .int .i64 n3, .int .i64 n4] 43 from P.out.kp (Kp.trans (Kp.of_bw bq) hk1) (by omega)); have R := hid hr1; have ul := P.out.lt; have uc := P.out.cell; have uf := P.out.free; have ur : r < w1.heap.size := R.out.lt; clear hr1 hk1)
  | (go_at_call 42; have _g := m5; clear _g; (fail_if_success (have _g := m6)); have m6 := hid trivial; refine (is_no ⟨#[123]⟩ (R.out.bw bq) i6.out).mono ?_; clear ul uc uf ur; rintro e w1 ⟨rfl, hr1, hk1⟩; have K := hid (show Kp r w w1 from K.out.trans (Kp.trans (Kp.of_bw bq) hk1)); have P := hid (show Blk w1 w.heap.size #[.int .i64 n0, .int .i64 n1, .string u, .int .i64 n3, .int .i64 n4] 43 from P.out.kp (Kp.trans (Kp.of_bw bq) hk1) (by omega)); have R := hid hr1; have ul := P.out.lt; have uc := P.out.cell; have uf := P.out.free; have ur : r < w1.heap.size := R.out.lt; clear hr1 hk1)
  | (go_at_call 42; have _g := m6; clear _g; (fail_if_success (have _g := m7)); have m7 := hid trivial; refine (is_no ⟨#[115, 112, 97, 119, 110]⟩ (R.out.bw bq) i7.out).mono ?_; clear ul uc uf ur; rintro e w1 ⟨rfl, hr1, hk1⟩; have K := hid (show Kp r w w1 from K.out.trans (Kp.trans (Kp.of_bw bq) hk1)); have P := hid (show Blk w1 w.heap.size #[.int .i64 n0, .int .i64 n1, .string u, .int .i64 n3, .int .i64 n4] 43 from P.out.kp (Kp.trans (Kp.of_bw bq) hk1) (by omega)); have R := hid hr1; have ul := P.out.lt; have uc := P.out.cell; have uf := P.out.free; have ur : r < w1.heap.size := R.out.lt; clear hr1 hk1)
  | (go_at_call 69; refine (dbad_any 6 (by decide) (R.out.bw bq)).mono ?_; clear ul uc uf ur; rintro e w1 ⟨rfl, hr1, hk1⟩; have K := hid (show Kp r w w1 from K.out.trans (Kp.trans (Kp.of_bw bq) hk1)); have P := hid (show Blk w1 w.heap.size #[.int .i64 n0, .int .i64 n1, .string u, .int .i64 n3, .int .i64 n4] 43 from P.out.kp (Kp.trans (Kp.of_bw bq) hk1) (by omega)); have R := hid hr1; have ul := P.out.lt; have uc := P.out.cell; have uf := P.out.free; have ur : r < w1.heap.size := R.out.lt; clear hr1 hk1)
  | fail)
 all_goals go_ret
 all_goals refine ⟨_, _, rfl, Nd.lit (n0, n1, n2, n3, n4) HU.out ?_ (by first | (simp; done) | (simp; omega) | (have := K.out.size; simp; omega)), RdM.bw R.out bq, Kp.bw K.out bq, by simp⟩
 all_goals repeat (first | exact Blk.newH _ _ (by simp) | apply Blk.drh | apply Blk.alloc)

set_option maxRecDepth 100000 in
set_option maxHeartbeats 8000000 in
theorem about_par (n : ANode) (i0 : dIs T s ⟨#[116, 114, 117, 101]⟩ = false) (i1 : dIs T s ⟨#[102, 97, 108, 115, 101]⟩ = false) (i2 : dIs T s ⟨#[110, 105, 108]⟩ = false) (i3 : dIs T s ⟨#[102, 110]⟩ = false) (y : dIs T s ⟨#[40]⟩ = true) {l1 : List ANode} {s1 : DS} (HV : ∀ w1 : World, RdM w1 r T (o + 1) (dEnter T o s ⟨#[40]⟩) → Calls Tryd.prog 49 #[.pointer (some ⟨r, 0, none⟩), .int .i64 0] w1 (DG w1 r T (o + 1) l1 s1)) (ho : (dWant T s1 ⟨#[41]⟩).e = 0 → 0 ≤ o) (hr : RdM w r T o s) : Calls Tryd.prog 97 #[.pointer (some ⟨r, 0, none⟩), nodeV n] w (DG w r T o l1 (dWant T s1 ⟨#[41]⟩)) := by
 obtain ⟨n0, n1, n2, n3, n4⟩ := n
 simp only [nodeV] at *
 obtain ⟨u, hu⟩ : ∃ u, strOfNums n2 = u := ⟨_, rfl⟩
 rw [hu]
 have HU := hid hu
 have R := hid hr
 have hrl := hr.lt
 have K := hid (Kp.refl r w)
 have i0 := hid i0
 have i1 := hid i1
 have i2 := hid i2
 have i3 := hid i3
 have y := hid y
 have HV := hid HV
 have HOW := hid ho
 have HW := hid (fun w1 (hw : RdM w1 r T (o + 1) s1) => dwant_any ⟨#[41]⟩ hw)
 clear ho
 clear hr hu
 unfold DG at *
 go_enter Tryd.func97, Tryd.ntmps97
 go_wp2_with (first
  | (go_at_call 47; (fail_if_success (have _g := m0)); have m0 := hid trivial; refine (eat_no ⟨#[116, 114, 117, 101]⟩ (R.out.bw bq) i0.out).mono ?_; rintro e w1 ⟨rfl, hr1, hk1⟩; have K := hid (show Kp r w w1 from Kp.trans (Kp.of_bw bq) hk1); have R := hid hr1; have P := hid (show Blk w1 w.heap.size #[.int .i64 n0, .int .i64 n1, .string u, .int .i64 n3, .int .i64 n4] 43 from (Blk.new w _ _).kp hk1 (by omega)); have ul := P.out.lt; have uc := P.out.cell; have uf := P.out.free; have ur : r < w1.heap.size := R.out.lt; clear hr1 hk1)
  | (go_at_call 47; have _g := m0; clear _g; (fail_if_success (have _g := m1)); have m1 := hid trivial; refine (eat_no ⟨#[102, 97, 108, 115, 101]⟩ (R.out.bw bq) i1.out).mono ?_; clear ul uc uf ur; rintro e w1 ⟨rfl, hr1, hk1⟩; have K := hid (show Kp r w w1 from K.out.trans (Kp.trans (Kp.of_bw bq) hk1)); have P := hid (show Blk w1 w.heap.size #[.int .i64 n0, .int .i64 n1, .string u, .int .i64 n3, .int .i64 n4] 43 from P.out.kp (Kp.trans (Kp.of_bw bq) hk1) (by omega)); have R := hid hr1; have ul := P.out.lt; have uc := P.out.cell; have uf := P.out.free; have ur : r < w1.heap.size := R.out.lt; clear hr1 hk1)
  | (go_at_call 47; have _g := m1; clear _g; (fail_if_success (have _g := m2)); have m2 := hid trivial; refine (eat_no ⟨#[110, 105, 108]⟩ (R.out.bw bq) i2.out).mono ?_; clear ul uc uf ur; rintro e w1 ⟨rfl, hr1, hk1⟩; have K := hid (show Kp r w w1 from K.out.trans (Kp.trans (Kp.of_bw bq) hk1)); have P := hid (show Blk w1 w.heap.size #[.int .i64 n0, .int .i64 n1, .string u, .int .i64 n3, .int .i64 n4] 43 from P.out.kp (Kp.trans (Kp.of_bw bq) hk1) (by omega)); have R := hid hr1; have ul := P.out.lt; have uc := P.out.cell; have uf := P.out.free; have ur : r < w1.heap.size := R.out.lt; clear hr1 hk1)
  | (go_at_call 47; have _g := m2; clear _g; (fail_if_success (have _g := m3)); have m3 := hid trivial; refine (eat_no ⟨#[102, 110]⟩ (R.out.bw bq) i3.out).mono ?_; clear ul uc uf ur; rintro e w1 ⟨rfl, hr1, hk1⟩; have K := hid (show Kp r w w1 from K.out.trans (Kp.trans (Kp.of_bw bq) hk1)); have P := hid (show Blk w1 w.heap.size #[.int .i64 n0, .int .i64 n1, .string u, .int .i64 n3, .int .i64 n4] 43 from P.out.kp (Kp.trans (Kp.of_bw bq) hk1) (by omega)); have R := hid hr1; have ul := P.out.lt; have uc := P.out.cell; have uf := P.out.free; have ur : r < w1.heap.size := R.out.lt; clear hr1 hk1)
  | (go_at_call 42; have _g := m3; clear _g; (fail_if_success (have _g := m4)); have m4 := hid trivial; refine (is_yes ⟨#[40]⟩ (R.out.bw bq) y.out).mono ?_; clear ul uc uf ur; rintro e w1 ⟨rfl, hr1, hk1⟩; have K := hid (show Kp r w w1 from K.out.trans (Kp.trans (Kp.of_bw bq) hk1)); have P := hid (show Blk w1 w.heap.size #[.int .i64 n0, .int .i64 n1, .string u, .int .i64 n3, .int .i64 n4] 43 from P.out.kp (Kp.trans (Kp.of_bw bq) hk1) (by omega)); have R := hid hr1; have ul := P.out.lt; have uc := P.out.cell; have uf := P.out.free; have ur : r < w1.heap.size := R.out.lt; clear hr1 hk1)
  | (go_at_call 68; refine (denter_any _ (R.out.bw bq)).mono ?_; rintro e w2 ⟨rfl, hr2, hk2⟩; have K := hid (show Kp r w w2 from K.out.trans (Kp.trans (Kp.of_bw bq) hk2)); have R := hid hr2; have E := hid hk2.size; clear hr2 hk2)
  | (go_at_call 49; refine (HV.out _ (R.out.bw bq)).mono ?_; rintro e w2 ⟨a2, c2, rfl, hn2, hr2, hk2, hl2⟩; have N := hid (hn2.low (b' := w.heap.size) (Nat.le_trans K.out.size (by first | (simp; done) | exact Nat.le_refl _))); have K := hid (show Kp r w w2 from K.out.trans (Kp.trans (Kp.of_bw bq) hk2)); have R := hid hr2; have L := hid hl2; clear hn2 hr2 hk2 hl2)
  | (go_at_call 48; refine (HW.out _ (R.out.bw bq)).mono ?_; rintro e w3 ⟨rfl, hr3, hk3⟩; have K := hid (show Kp r w w3 from K.out.trans (Kp.trans (Kp.of_bw bq) hk3)); have N := hid (N.out.kp (Kp.trans (Kp.of_bw bq) hk3) hrl); (obtain ⟨q6, z0, z1, z2, HQ6⟩ := RdM.off hr3 HOW.out); have R := hid HQ6; clear hr3 hk3 HQ6)
  | fail)
 all_goals go_ret
 all_goals exact ⟨_, _, rfl, N.out.kp ((Kp.refl r _).set 2 _) hrl, R.out, K.out.set 2 _, L.out⟩

end

end Go.Proofs.YtdhkcdehedbpcaaDoor

namespace Go.Proofs.YtdhkcdehedbpcaaDoor
open Go Go.RowKit

section
attribute [local irreducible] dIs
variable {w w' : World} {r f : Nat} {T : List ATok} {o : Int} {s s' : DS} {l : List ANode} {k : Int}

theorem RdM.anyo (h : RdM w r T o s) (e : s.e ≠ 0) (o' : Int) : RdM w r T o' s := by
 obtain ⟨vt, q, h1, h2, h3⟩ := h.b
 exact ⟨⟨vt, q, h1, h2, fun e' => absurd e' e⟩, h.i, fun e' => absurd e' e, h.n⟩

theorem put_take {cur : Array Value} {m : Nat} {n : ANode} {t : List ANode} (k a : Int) (ht : cur.toList.take m = (n :: t).flatMap ndV) : ((cur.setIfInBounds 0 (.int .i64 k)).setIfInBounds 4 (.int .i64 a)).toList.take m = ((k, n.2.1, n.2.2.1, n.2.2.2.1, a) :: t).flatMap ndV := by
 rw [Array.toList_setIfInBounds, Array.toList_setIfInBounds, List.take_set, List.take_set, ht]
 rfl
theorem Nd.own {b c g : Nat} {n : ANode} {t : List ANode} (h : Nd w b (.slice (some ⟨g, 0, none⟩) (n :: t).length c) (n :: t)) : ∃ cur, Blk w g cur 43 ∧ b ≤ g ∧ ∀ (w' : World) (k a : Int), Blk w' g ((cur.setIfInBounds 0 (.int .i64 k)).setIfInBounds 4 (.int .i64 a)) 43 → Nd w' b (.slice (some ⟨g, 0, none⟩) (n :: t).length c) ((k, n.2.1, n.2.2.1, n.2.2.2.1, a) :: t) := by
 rcases h.2 with ⟨h1, _⟩ | ⟨g', cap, cur, e, hb, hg, hn, hm, hs, ht⟩
 ·cases h1
 ·cases e
  refine ⟨cur, hg, hb, fun w' k a hw => ⟨h.1, .inr ⟨g, c, _, rfl, hb, hw, hn, hm, ?_, put_take k a ht⟩⟩⟩
  simpa using hs

set_option maxRecDepth 100000 in
set_option maxHeartbeats 8000000 in
theorem about_spA (n : ANode) (i0 : dIs T s ⟨#[116, 114, 117, 101]⟩ = false) (i1 : dIs T s ⟨#[102, 97, 108, 115, 101]⟩ = false) (i2 : dIs T s ⟨#[110, 105, 108]⟩ = false) (i3 : dIs T s ⟨#[102, 110]⟩ = false) (i4 : dIs T s ⟨#[40]⟩ = false) (i5 : dIs T s ⟨#[91]⟩ = false) (i6 : dIs T s ⟨#[123]⟩ = false) (y : dIs T s ⟨#[115, 112, 97, 119, 110]⟩ = true) (e : (dEnter T o s ⟨#[115, 112, 97, 119, 110]⟩).e ≠ 0) (hr : RdM w r T o s) : Calls Tryd.prog 97 #[.pointer (some ⟨r, 0, none⟩), nodeV n] w (DG w r T o [] (dEnter T o s ⟨#[115, 112, 97, 119, 110]⟩)) := by
 obtain ⟨n0, n1, n2, n3, n4⟩ := n
 simp only [nodeV] at *
 obtain ⟨u, hu⟩ : ∃ u, strOfNums n2 = u := ⟨_, rfl⟩
 rw [hu]
 have HU := hid hu
 have R := hid hr
 have hrl := hr.lt
 have K := hid (Kp.refl r w)
 have i0 := hid i0
 have i1 := hid i1
 have i2 := hid i2
 have i3 := hid i3
 have i4 := hid i4
 have i5 := hid i5
 have i6 := hid i6
 have y := hid y
 have HEN := hid (fun w1 (hw : RdM w1 r T o s) => denter_any ⟨#[115, 112, 97, 119, 110]⟩ hw)
 generalize dEnter T o s ⟨#[115, 112, 97, 119, 110]⟩ = A at *
 have e1 : (A.e != 0) = true := by simpa using e
 have HE := hid e
 clear e
 clear hr hu
 unfold DG at *
 go_enter Tryd.func97, Tryd.ntmps97
 go_wp2_with (first
  | (go_at_call 47; (fail_if_success (have _g := m0)); have m0 := hid trivial; refine (eat_no ⟨#[116, 114, 117, 101]⟩ (R.out.bw bq) i0.out).mono ?_; rintro e w1 ⟨rfl, hr1, hk1⟩; have K := hid (show Kp r w w1 from Kp.trans (Kp.of_bw bq) hk1); have R := hid hr1; have P := hid (show Blk w1 w.heap.size #[.int .i64 n0, .int .i64 n1, .string u, .int .i64 n3, .int .i64 n4] 43 from (Blk.new w _ _).kp hk1 (by omega)); have ul := P.out.lt; have uc := P.out.cell; have uf := P.out.free; have ur : r < w1.heap.size := R.out.lt; clear hr1 hk1)
  | (go_at_call 47; have _g := m0; clear _g; (fail_if_success (have _g := m1)); have m1 := hid trivial; refine (eat_no ⟨#[102, 97, 108, 115, 101]⟩ (R.out.bw bq) i1.out).mono ?_; clear ul uc uf ur; rintro e w1 ⟨rfl, hr1, hk1⟩; have K := hid (show Kp r w w1 from K.out.trans (Kp.trans (Kp.of_bw bq) hk1)); have P := hid (show Blk w1 w.heap.size #[.int .i64 n0, .int .i64 n1, .string u, .int .i64 n3, .int .i64 n4] 43 from P.out.kp (Kp.trans (Kp.of_bw bq) hk1) (by omega)); have R := hid hr1; have ul := P.out.lt; have uc := P.out.cell; have uf := P.out.free; have ur : r < w1.heap.size := R.out.lt; clear hr1 hk1)
  | (go_at_call 47; have _g := m1; clear _g; (fail_if_success (have _g := m2)); have m2 := hid trivial; refine (eat_no ⟨#[110, 105, 108]⟩ (R.out.bw bq) i2.out).mono ?_; clear ul uc uf ur; rintro e w1 ⟨rfl, hr1, hk1⟩; have K := hid (show Kp r w w1 from K.out.trans (Kp.trans (Kp.of_bw bq) hk1)); have P := hid (show Blk w1 w.heap.size #[.int .i64 n0, .int .i64 n1, .string u, .int .i64 n3, .int .i64 n4] 43 from P.out.kp (Kp.trans (Kp.of_bw bq) hk1) (by omega)); have R := hid hr1; have ul := P.out.lt; have uc := P.out.cell; have uf := P.out.free; have ur : r < w1.heap.size := R.out.lt; clear hr1 hk1)
  | (go_at_call 47; have _g := m2; clear _g; (fail_if_success (have _g := m3)); have m3 := hid trivial; refine (eat_no ⟨#[102, 110]⟩ (R.out.bw bq) i3.out).mono ?_; clear ul uc uf ur; rintro e w1 ⟨rfl, hr1, hk1⟩; have K := hid (show Kp r w w1 from K.out.trans (Kp.trans (Kp.of_bw bq) hk1)); have P := hid (show Blk w1 w.heap.size #[.int .i64 n0, .int .i64 n1, .string u, .int .i64 n3, .int .i64 n4] 43 from P.out.kp (Kp.trans (Kp.of_bw bq) hk1) (by omega)); have R := hid hr1; have ul := P.out.lt; have uc := P.out.cell; have uf := P.out.free; have ur : r < w1.heap.size := R.out.lt; clear hr1 hk1)
  | (go_at_call 42; have _g := m3; clear _g; (fail_if_success (have _g := m4)); have m4 := hid trivial; refine (is_no ⟨#[40]⟩ (R.out.bw bq) i4.out).mono ?_; clear ul uc uf ur; rintro e w1 ⟨rfl, hr1, hk1⟩; have K := hid (show Kp r w w1 from K.out.trans (Kp.trans (Kp.of_bw bq) hk1)); have P := hid (show Blk w1 w.heap.size #[.int .i64 n0, .int .i64 n1, .string u, .int .i64 n3, .int .i64 n4] 43 from P.out.kp (Kp.trans (Kp.of_bw bq) hk1) (by omega)); have R := hid hr1; have ul := P.out.lt; have uc := P.out.cell; have uf := P.out.free; have ur : r < w1.heap.size := R.out.lt; clear hr1 hk1)
  | (go_at_call 42; have _g := m4; clear _g; (fail_if_success (have _g := m5)); have m5 := hid trivial; refine (is_no ⟨#[91]⟩ (R.out.bw bq) i5.out).mono ?_; clear ul uc uf ur; rintro e w1 ⟨rfl, hr1, hk1⟩; have K := hid (show Kp r w w1 from K.out.trans (Kp.trans (Kp.of_bw bq) hk1)); have P := hid (show Blk w1 w.heap.size #[.int .i64 n0, .int .i64 n1, .string u, .int .i64 n3, .int .i64 n4] 43 from P.out.kp (Kp.trans (Kp.of_bw bq) hk1) (by omega)); have R := hid hr1; have ul := P.out.lt; have uc := P.out.cell; have uf := P.out.free; have ur : r < w1.heap.size := R.out.lt; clear hr1 hk1)
  | (go_at_call 42; have _g := m5; clear _g; (fail_if_success (have _g := m6)); have m6 := hid trivial; refine (is_no ⟨#[123]⟩ (R.out.bw bq) i6.out).mono ?_; clear ul uc uf ur; rintro e w1 ⟨rfl, hr1, hk1⟩; have K := hid (show Kp r w w1 from K.out.trans (Kp.trans (Kp.of_bw bq) hk1)); have P := hid (show Blk w1 w.heap.size #[.int .i64 n0, .int .i64 n1, .string u, .int .i64 n3, .int .i64 n4] 43 from P.out.kp (Kp.trans (Kp.of_bw bq) hk1) (by omega)); have R := hid hr1; have ul := P.out.lt; have uc := P.out.cell; have uf := P.out.free; have ur : r < w1.heap.size := R.out.lt; clear hr1 hk1)
  | (go_at_call 42; have _g := m6; clear _g; (fail_if_success (have _g := m7)); have m7 := hid trivial; refine (is_yes ⟨#[115, 112, 97, 119, 110]⟩ (R.out.bw bq) y.out).mono ?_; clear ul uc uf ur; rintro e w1 ⟨rfl, hr1, hk1⟩; have K := hid (show Kp r w w1 from K.out.trans (Kp.trans (Kp.of_bw bq) hk1)); have P := hid (show Blk w1 w.heap.size #[.int .i64 n0, .int .i64 n1, .string u, .int .i64 n3, .int .i64 n4] 43 from P.out.kp (Kp.trans (Kp.of_bw bq) hk1) (by omega)); have R := hid hr1; have ul := P.out.lt; have uc := P.out.cell; have uf := P.out.free; have ur : r < w1.heap.size := R.out.lt; clear hr1 hk1)
  | (go_at_call 68; refine (HEN.out _ (R.out.bw bq)).mono ?_; clear ul uc uf ur; rintro e w2 ⟨rfl, hr2, hk2⟩; have P := hid (show Blk w2 w.heap.size #[.int .i64 n0, .int .i64 n1, .string u, .int .i64 n3, .int .i64 n4] 43 from P.out.kp (Kp.trans (Kp.of_bw bq) hk2) (by omega)); have K := hid (show Kp r w w2 from K.out.trans (Kp.trans (Kp.of_bw bq) hk2)); (obtain ⟨gq, cq, qq, xq⟩ := hr2.x); have z3 : w2.cell? ⟨r, 3, none⟩ = some (.int .i64 A.e) := xq.b.cell 3; have zl2 : r < w2.heap.size := xq.b.lt; have R := hid hr2; clear hr2 hk2 xq)
  | fail)
 all_goals go_ret
 all_goals exact ⟨_, _, rfl, Nd.nil _ _, R.out.anyo HE.out _, K.out, by decide⟩

set_option maxRecDepth 100000 in
set_option maxHeartbeats 8000000 in
theorem about_spB (n : ANode) (i0 : dIs T s ⟨#[116, 114, 117, 101]⟩ = false) (i1 : dIs T s ⟨#[102, 97, 108, 115, 101]⟩ = false) (i2 : dIs T s ⟨#[110, 105, 108]⟩ = false) (i3 : dIs T s ⟨#[102, 110]⟩ = false) (i4 : dIs T s ⟨#[40]⟩ = false) (i5 : dIs T s ⟨#[91]⟩ = false) (i6 : dIs T s ⟨#[123]⟩ = false) (y : dIs T s ⟨#[115, 112, 97, 119, 110]⟩ = true) {x : List ANode} {s1 : DS} (e0 : (dEnter T o s ⟨#[115, 112, 97, 119, 110]⟩).e = 0) (HV : ∀ w1 : World, RdM w1 r T (o + 1) (dEnter T o s ⟨#[115, 112, 97, 119, 110]⟩) → Calls Tryd.prog 71 #[.pointer (some ⟨r, 0, none⟩)] w1 (DG w1 r T (o + 1) x s1)) (ho : 0 ≤ o) (e : s1.e ≠ 0) (hr : RdM w r T o s) : Calls Tryd.prog 97 #[.pointer (some ⟨r, 0, none⟩), nodeV n] w (DG w r T o [] s1) := by
 obtain ⟨n0, n1, n2, n3, n4⟩ := n
 simp only [nodeV] at *
 obtain ⟨u, hu⟩ : ∃ u, strOfNums n2 = u := ⟨_, rfl⟩
 rw [hu]
 have HU := hid hu
 have R := hid hr
 have hrl := hr.lt
 have K := hid (Kp.refl r w)
 have i0 := hid i0
 have i1 := hid i1
 have i2 := hid i2
 have i3 := hid i3
 have i4 := hid i4
 have i5 := hid i5
 have i6 := hid i6
 have y := hid y
 have HEN := hid (fun w1 (hw : RdM w1 r T o s) => denter_any ⟨#[115, 112, 97, 119, 110]⟩ hw)
 generalize dEnter T o s ⟨#[115, 112, 97, 119, 110]⟩ = A at *
 have e1 : (A.e != 0) = false := by simpa using e0
 have HV := hid HV
 clear e0
 have HOW := hid (fun (_ : s1.e = 0) => ho)
 have e2 : (s1.e == 0) = false := by simpa using e
 have e3 : (s1.e != 0) = true := by simpa using e
 clear e ho
 clear hr hu
 unfold DG at *
 go_enter Tryd.func97, Tryd.ntmps97
 go_wp2_with (first
  | (go_at_call 47; (fail_if_success (have _g := m0)); have m0 := hid trivial; refine (eat_no ⟨#[116, 114, 117, 101]⟩ (R.out.bw bq) i0.out).mono ?_; rintro e w1 ⟨rfl, hr1, hk1⟩; have K := hid (show Kp r w w1 from Kp.trans (Kp.of_bw bq) hk1); have R := hid hr1; have P := hid (show Blk w1 w.heap.size #[.int .i64 n0, .int .i64 n1, .string u, .int .i64 n3, .int .i64 n4] 43 from (Blk.new w _ _).kp hk1 (by omega)); have ul := P.out.lt; have uc := P.out.cell; have uf := P.out.free; have ur : r < w1.heap.size := R.out.lt; clear hr1 hk1)
  | (go_at_call 47; have _g := m0; clear _g; (fail_if_success (have _g := m1)); have m1 := hid trivial; refine (eat_no ⟨#[102, 97, 108, 115, 101]⟩ (R.out.bw bq) i1.out).mono ?_; clear ul uc uf ur; rintro e w1 ⟨rfl, hr1, hk1⟩; have K := hid (show Kp r w w1 from K.out.trans (Kp.trans (Kp.of_bw bq) hk1)); have P := hid (show Blk w1 w.heap.size #[.int .i64 n0, .int .i64 n1, .string u, .int .i64 n3, .int .i64 n4] 43 from P.out.kp (Kp.trans (Kp.of_bw bq) hk1) (by omega)); have R := hid hr1; have ul := P.out.lt; have uc := P.out.cell; have uf := P.out.free; have ur : r < w1.heap.size := R.out.lt; clear hr1 hk1)
  | (go_at_call 47; have _g := m1; clear _g; (fail_if_success (have _g := m2)); have m2 := hid trivial; refine (eat_no ⟨#[110, 105, 108]⟩ (R.out.bw bq) i2.out).mono ?_; clear ul uc uf ur; rintro e w1 ⟨rfl, hr1, hk1⟩; have K := hid (show Kp r w w1 from K.out.trans (Kp.trans (Kp.of_bw bq) hk1)); have P := hid (show Blk w1 w.heap.size #[.int .i64 n0, .int .i64 n1, .string u, .int .i64 n3, .int .i64 n4] 43 from P.out.kp (Kp.trans (Kp.of_bw bq) hk1) (by omega)); have R := hid hr1; have ul := P.out.lt; have uc := P.out.cell; have uf := P.out.free; have ur : r < w1.heap.size := R.out.lt; clear hr1 hk1)
  | (go_at_call 47; have _g := m2; clear _g; (fail_if_success (have _g := m3)); have m3 := hid trivial; refine (eat_no ⟨#[102, 110]⟩ (R.out.bw bq) i3.out).mono ?_; clear ul uc uf ur; rintro e w1 ⟨rfl, hr1, hk1⟩; have K := hid (show Kp r w w1 from K.out.trans (Kp.trans (Kp.of_bw bq) hk1)); have P := hid (show Blk w1 w.heap.size #[.int .i64 n0, .int .i64 n1, .string u, .int .i64 n3, .int .i64 n4] 43 from P.out.kp (Kp.trans (Kp.of_bw bq) hk1) (by omega)); have R := hid hr1; have ul := P.out.lt; have uc := P.out.cell; have uf := P.out.free; have ur : r < w1.heap.size := R.out.lt; clear hr1 hk1)
  | (go_at_call 42; have _g := m3; clear _g; (fail_if_success (have _g := m4)); have m4 := hid trivial; refine (is_no ⟨#[40]⟩ (R.out.bw bq) i4.out).mono ?_; clear ul uc uf ur; rintro e w1 ⟨rfl, hr1, hk1⟩; have K := hid (show Kp r w w1 from K.out.trans (Kp.trans (Kp.of_bw bq) hk1)); have P := hid (show Blk w1 w.heap.size #[.int .i64 n0, .int .i64 n1, .string u, .int .i64 n3, .int .i64 n4] 43 from P.out.kp (Kp.trans (Kp.of_bw bq) hk1) (by omega)); have R := hid hr1; have ul := P.out.lt; have uc := P.out.cell; have uf := P.out.free; have ur : r < w1.heap.size := R.out.lt; clear hr1 hk1)
  | (go_at_call 42; have _g := m4; clear _g; (fail_if_success (have _g := m5)); have m5 := hid trivial; refine (is_no ⟨#[91]⟩ (R.out.bw bq) i5.out).mono ?_; clear ul uc uf ur; rintro e w1 ⟨rfl, hr1, hk1⟩; have K := hid (show Kp r w w1 from K.out.trans (Kp.trans (Kp.of_bw bq) hk1)); have P := hid (show Blk w1 w.heap.size #[.int .i64 n0, .int .i64 n1, .string u, .int .i64 n3, .int .i64 n4] 43 from P.out.kp (Kp.trans (Kp.of_bw bq) hk1) (by omega)); have R := hid hr1; have ul := P.out.lt; have uc := P.out.cell; have uf := P.out.free; have ur : r < w1.heap.size := R.out.lt; clear hr1 hk1)
  | (go_at_call 42; have _g := m5; clear _g; (fail_if_success (have _g := m6)); have m6 := hid trivial; refine (is_no ⟨#[123]⟩ (R.out.bw bq) i6.out).mono ?_; clear ul uc uf ur; rintro e w1 ⟨rfl, hr1, hk1⟩; have K := hid (show Kp r w w1 from K.out.trans (Kp.trans (Kp.of_bw bq) hk1)); have P := hid (show Blk w1 w.heap.size #[.int .i64 n0, .int .i64 n1, .string u, .int .i64 n3, .int .i64 n4] 43 from P.out.kp (Kp.trans (Kp.of_bw bq) hk1) (by omega)); have R := hid hr1; have ul := P.out.lt; have uc := P.out.cell; have uf := P.out.free; have ur : r < w1.heap.size := R.out.lt; clear hr1 hk1)
  | (go_at_call 42; have _g := m6; clear _g; (fail_if_success (have _g := m7)); have m7 := hid trivial; refine (is_yes ⟨#[115, 112, 97, 119, 110]⟩ (R.out.bw bq) y.out).mono ?_; clear ul uc uf ur; rintro e w1 ⟨rfl, hr1, hk1⟩; have K := hid (show Kp r w w1 from K.out.trans (Kp.trans (Kp.of_bw bq) hk1)); have P := hid (show Blk w1 w.heap.size #[.int .i64 n0, .int .i64 n1, .string u, .int .i64 n3, .int .i64 n4] 43 from P.out.kp (Kp.trans (Kp.of_bw bq) hk1) (by omega)); have R := hid hr1; have ul := P.out.lt; have uc := P.out.cell; have uf := P.out.free; have ur : r < w1.heap.size := R.out.lt; clear hr1 hk1)
  | (go_at_call 68; refine (HEN.out _ (R.out.bw bq)).mono ?_; clear ul uc uf ur; rintro e w2 ⟨rfl, hr2, hk2⟩; have P := hid (show Blk w2 w.heap.size #[.int .i64 n0, .int .i64 n1, .string u, .int .i64 n3, .int .i64 n4] 43 from P.out.kp (Kp.trans (Kp.of_bw bq) hk2) (by omega)); have K := hid (show Kp r w w2 from K.out.trans (Kp.trans (Kp.of_bw bq) hk2)); (obtain ⟨gq, cq, qq, xq⟩ := hr2.x); have z3 : w2.cell? ⟨r, 3, none⟩ = some (.int .i64 A.e) := xq.b.cell 3; have zl2 : r < w2.heap.size := xq.b.lt; have R := hid hr2; clear hr2 hk2 xq)
  | (go_at_call 71; refine (HV.out _ (R.out.bw bq)).mono ?_; clear z3 zl2; rintro e w3 ⟨a3, c3, rfl, hn3, hr3, hk3, hl3⟩; have uw := P.out.lt; have N := hid (hn3.low (b' := w.heap.size) (Nat.le_trans K.out.size (by first | (simp; done) | exact Nat.le_refl _))); have P := hid (show Blk w3 w.heap.size #[.int .i64 n0, .int .i64 n1, .string u, .int .i64 n3, .int .i64 n4] 43 from P.out.kp (Kp.trans (Kp.of_bw bq) hk3) (by omega)); have K := hid (show Kp r w w3 from K.out.trans (Kp.trans (Kp.of_bw bq) hk3)); have L := hid hl3; (obtain ⟨gq, cq, qq, xq⟩ := hr3.x); have x3 : w3.cell? ⟨r, 3, none⟩ = some (.int .i64 s1.e) := xq.b.cell 3; have R := hid hr3; have ur : r < w3.heap.size := xq.b.lt; (obtain ⟨q6, z0, z1, z2, HQ6⟩ := RdM.off hr3 HOW.out); have Q := hid HQ6; clear HQ6; clear hn3 hr3 hk3 hl3 xq)
  | fail)
 all_goals go_ret
 all_goals exact ⟨_, _, rfl, Nd.nil _ _, Q.out, K.out.set 2 _, by decide⟩

set_option maxRecDepth 100000 in
set_option maxHeartbeats 8000000 in
theorem about_spC (n : ANode) (i0 : dIs T s ⟨#[116, 114, 117, 101]⟩ = false) (i1 : dIs T s ⟨#[102, 97, 108, 115, 101]⟩ = false) (i2 : dIs T s ⟨#[110, 105, 108]⟩ = false) (i3 : dIs T s ⟨#[102, 110]⟩ = false) (i4 : dIs T s ⟨#[40]⟩ = false) (i5 : dIs T s ⟨#[91]⟩ = false) (i6 : dIs T s ⟨#[123]⟩ = false) (y : dIs T s ⟨#[115, 112, 97, 119, 110]⟩ = true) {x : List ANode} {s1 : DS} (e0 : (dEnter T o s ⟨#[115, 112, 97, 119, 110]⟩).e = 0) (HV : ∀ w1 : World, RdM w1 r T (o + 1) (dEnter T o s ⟨#[115, 112, 97, 119, 110]⟩) → Calls Tryd.prog 71 #[.pointer (some ⟨r, 0, none⟩)] w1 (DG w1 r T (o + 1) x s1)) (ho : 0 ≤ o) (e : s1.e = 0) (hx : x ≠ []) (hk : dKd0 x ≠ 28) (hr : RdM w r T o s) : Calls Tryd.prog 97 #[.pointer (some ⟨r, 0, none⟩), nodeV n] w (DG w r T o [] (dBad T s1 6)) := by
 obtain ⟨n0, n1, n2, n3, n4⟩ := n
 simp only [nodeV] at *
 obtain ⟨u, hu⟩ : ∃ u, strOfNums n2 = u := ⟨_, rfl⟩
 rw [hu]
 have HU := hid hu
 have R := hid hr
 have hrl := hr.lt
 have K := hid (Kp.refl r w)
 have i0 := hid i0
 have i1 := hid i1
 have i2 := hid i2
 have i3 := hid i3
 have i4 := hid i4
 have i5 := hid i5
 have i6 := hid i6
 have y := hid y
 have HEN := hid (fun w1 (hw : RdM w1 r T o s) => denter_any ⟨#[115, 112, 97, 119, 110]⟩ hw)
 generalize dEnter T o s ⟨#[115, 112, 97, 119, 110]⟩ = A at *
 have e1 : (A.e != 0) = false := by simpa using e0
 have HV := hid HV
 clear e0
 have HOW := hid (fun (_ : (dBad T s1 6).e = 0) => ho)
 have HBD := hid (fun w1 (hw : RdM w1 r T (o + 1) s1) => dbad_any 6 (by decide) hw)
 have e2 : (s1.e == 0) = true := by simpa using e
 have e5 : ((dBad T s1 6).e != 0) = true := by unfold dBad; rw [if_pos e]; rfl
 have e4 : (dKd0 x != 28) = true := by simpa using hk
 generalize dBad T s1 6 = B at *
 have HNE := hid hx
 clear e ho hx hk
 clear hr hu
 unfold DG at *
 go_enter Tryd.func97, Tryd.ntmps97
 go_wp2_with (first
  | (go_at_call 47; (fail_if_success (have _g := m0)); have m0 := hid trivial; refine (eat_no ⟨#[116, 114, 117, 101]⟩ (R.out.bw bq) i0.out).mono ?_; rintro e w1 ⟨rfl, hr1, hk1⟩; have K := hid (show Kp r w w1 from Kp.trans (Kp.of_bw bq) hk1); have R := hid hr1; have P := hid (show Blk w1 w.heap.size #[.int .i64 n0, .int .i64 n1, .string u, .int .i64 n3, .int .i64 n4] 43 from (Blk.new w _ _).kp hk1 (by omega)); have ul := P.out.lt; have uc := P.out.cell; have uf := P.out.free; have ur : r < w1.heap.size := R.out.lt; clear hr1 hk1)
  | (go_at_call 47; have _g := m0; clear _g; (fail_if_success (have _g := m1)); have m1 := hid trivial; refine (eat_no ⟨#[102, 97, 108, 115, 101]⟩ (R.out.bw bq) i1.out).mono ?_; clear ul uc uf ur; rintro e w1 ⟨rfl, hr1, hk1⟩; have K := hid (show Kp r w w1 from K.out.trans (Kp.trans (Kp.of_bw bq) hk1)); have P := hid (show Blk w1 w.heap.size #[.int .i64 n0, .int .i64 n1, .string u, .int .i64 n3, .int .i64 n4] 43 from P.out.kp (Kp.trans (Kp.of_bw bq) hk1) (by omega)); have R := hid hr1; have ul := P.out.lt; have uc := P.out.cell; have uf := P.out.free; have ur : r < w1.heap.size := R.out.lt; clear hr1 hk1)
  | (go_at_call 47; have _g := m1; clear _g; (fail_if_success (have _g := m2)); have m2 := hid trivial; refine (eat_no ⟨#[110, 105, 108]⟩ (R.out.bw bq) i2.out).mono ?_; clear ul uc uf ur; rintro e w1 ⟨rfl, hr1, hk1⟩; have K := hid (show Kp r w w1 from K.out.trans (Kp.trans (Kp.of_bw bq) hk1)); have P := hid (show Blk w1 w.heap.size #[.int .i64 n0, .int .i64 n1, .string u, .int .i64 n3, .int .i64 n4] 43 from P.out.kp (Kp.trans (Kp.of_bw bq) hk1) (by omega)); have R := hid hr1; have ul := P.out.lt; have uc := P.out.cell; have uf := P.out.free; have ur : r < w1.heap.size := R.out.lt; clear hr1 hk1)
  | (go_at_call 47; have _g := m2; clear _g; (fail_if_success (have _g := m3)); have m3 := hid trivial; refine (eat_no ⟨#[102, 110]⟩ (R.out.bw bq) i3.out).mono ?_; clear ul uc uf ur; rintro e w1 ⟨rfl, hr1, hk1⟩; have K := hid (show Kp r w w1 from K.out.trans (Kp.trans (Kp.of_bw bq) hk1)); have P := hid (show Blk w1 w.heap.size #[.int .i64 n0, .int .i64 n1, .string u, .int .i64 n3, .int .i64 n4] 43 from P.out.kp (Kp.trans (Kp.of_bw bq) hk1) (by omega)); have R := hid hr1; have ul := P.out.lt; have uc := P.out.cell; have uf := P.out.free; have ur : r < w1.heap.size := R.out.lt; clear hr1 hk1)
  | (go_at_call 42; have _g := m3; clear _g; (fail_if_success (have _g := m4)); have m4 := hid trivial; refine (is_no ⟨#[40]⟩ (R.out.bw bq) i4.out).mono ?_; clear ul uc uf ur; rintro e w1 ⟨rfl, hr1, hk1⟩; have K := hid (show Kp r w w1 from K.out.trans (Kp.trans (Kp.of_bw bq) hk1)); have P := hid (show Blk w1 w.heap.size #[.int .i64 n0, .int .i64 n1, .string u, .int .i64 n3, .int .i64 n4] 43 from P.out.kp (Kp.trans (Kp.of_bw bq) hk1) (by omega)); have R := hid hr1; have ul := P.out.lt; have uc := P.out.cell; have uf := P.out.free; have ur : r < w1.heap.size := R.out.lt; clear hr1 hk1)
  | (go_at_call 42; have _g := m4; clear _g; (fail_if_success (have _g := m5)); have m5 := hid trivial; refine (is_no ⟨#[91]⟩ (R.out.bw bq) i5.out).mono ?_; clear ul uc uf ur; rintro e w1 ⟨rfl, hr1, hk1⟩; have K := hid (show Kp r w w1 from K.out.trans (Kp.trans (Kp.of_bw bq) hk1)); have P := hid (show Blk w1 w.heap.size #[.int .i64 n0, .int .i64 n1, .string u, .int .i64 n3, .int .i64 n4] 43 from P.out.kp (Kp.trans (Kp.of_bw bq) hk1) (by omega)); have R := hid hr1; have ul := P.out.lt; have uc := P.out.cell; have uf := P.out.free; have ur : r < w1.heap.size := R.out.lt; clear hr1 hk1)
  | (go_at_call 42; have _g := m5; clear _g; (fail_if_success (have _g := m6)); have m6 := hid trivial; refine (is_no ⟨#[123]⟩ (R.out.bw bq) i6.out).mono ?_; clear ul uc uf ur; rintro e w1 ⟨rfl, hr1, hk1⟩; have K := hid (show Kp r w w1 from K.out.trans (Kp.trans (Kp.of_bw bq) hk1)); have P := hid (show Blk w1 w.heap.size #[.int .i64 n0, .int .i64 n1, .string u, .int .i64 n3, .int .i64 n4] 43 from P.out.kp (Kp.trans (Kp.of_bw bq) hk1) (by omega)); have R := hid hr1; have ul := P.out.lt; have uc := P.out.cell; have uf := P.out.free; have ur : r < w1.heap.size := R.out.lt; clear hr1 hk1)
  | (go_at_call 42; have _g := m6; clear _g; (fail_if_success (have _g := m7)); have m7 := hid trivial; refine (is_yes ⟨#[115, 112, 97, 119, 110]⟩ (R.out.bw bq) y.out).mono ?_; clear ul uc uf ur; rintro e w1 ⟨rfl, hr1, hk1⟩; have K := hid (show Kp r w w1 from K.out.trans (Kp.trans (Kp.of_bw bq) hk1)); have P := hid (show Blk w1 w.heap.size #[.int .i64 n0, .int .i64 n1, .string u, .int .i64 n3, .int .i64 n4] 43 from P.out.kp (Kp.trans (Kp.of_bw bq) hk1) (by omega)); have R := hid hr1; have ul := P.out.lt; have uc := P.out.cell; have uf := P.out.free; have ur : r < w1.heap.size := R.out.lt; clear hr1 hk1)
  | (go_at_call 68; refine (HEN.out _ (R.out.bw bq)).mono ?_; clear ul uc uf ur; rintro e w2 ⟨rfl, hr2, hk2⟩; have P := hid (show Blk w2 w.heap.size #[.int .i64 n0, .int .i64 n1, .string u, .int .i64 n3, .int .i64 n4] 43 from P.out.kp (Kp.trans (Kp.of_bw bq) hk2) (by omega)); have K := hid (show Kp r w w2 from K.out.trans (Kp.trans (Kp.of_bw bq) hk2)); (obtain ⟨gq, cq, qq, xq⟩ := hr2.x); have z3 : w2.cell? ⟨r, 3, none⟩ = some (.int .i64 A.e) := xq.b.cell 3; have zl2 : r < w2.heap.size := xq.b.lt; have R := hid hr2; clear hr2 hk2 xq)
  | (go_at_call 71; refine (HV.out _ (R.out.bw bq)).mono ?_; clear z3 zl2; rintro e w3 ⟨a3, c3, rfl, hn3, hr3, hk3, hl3⟩; have uw := P.out.lt; have N := hid (hn3.low (b' := w.heap.size) (Nat.le_trans K.out.size (by first | (simp; done) | exact Nat.le_refl _))); have P := hid (show Blk w3 w.heap.size #[.int .i64 n0, .int .i64 n1, .string u, .int .i64 n3, .int .i64 n4] 43 from P.out.kp (Kp.trans (Kp.of_bw bq) hk3) (by omega)); have K := hid (show Kp r w w3 from K.out.trans (Kp.trans (Kp.of_bw bq) hk3)); have L := hid hl3; (obtain ⟨gq, cq, qq, xq⟩ := hr3.x); have x3 : w3.cell? ⟨r, 3, none⟩ = some (.int .i64 s1.e) := xq.b.cell 3; have R := hid hr3; have ur : r < w3.heap.size := xq.b.lt; (obtain ⟨g3, e3, gb3, gl3, gp3, y0, y4, yf0, yf4⟩ := N.out.head HNE.out); subst e3; clear hn3 hr3 hk3 hl3 xq)
  | (go_at_call 69; refine (HBD.out _ (R.out.bw bq)).mono ?_; rintro e w4 ⟨rfl, hr4, hk4⟩; have K := hid (show Kp r w w4 from K.out.trans (Kp.trans (Kp.of_bw bq) hk4)); (obtain ⟨gq, cq, qq, xq⟩ := hr4.x); have x4 : w4.cell? ⟨r, 3, none⟩ = some (.int .i64 B.e) := xq.b.cell 3; (obtain ⟨q6, z0, z1, z2, HQ6⟩ := RdM.off hr4 HOW.out); have Q := hid HQ6; clear hr4 hk4 xq HQ6)
  | fail)
 all_goals go_ret
 all_goals exact ⟨_, _, rfl, Nd.nil _ _, Q.out, K.out.set 2 _, by decide⟩

set_option maxRecDepth 100000 in
set_option maxHeartbeats 8000000 in
theorem about_spD (n : ANode) (i0 : dIs T s ⟨#[116, 114, 117, 101]⟩ = false) (i1 : dIs T s ⟨#[102, 97, 108, 115, 101]⟩ = false) (i2 : dIs T s ⟨#[110, 105, 108]⟩ = false) (i3 : dIs T s ⟨#[102, 110]⟩ = false) (i4 : dIs T s ⟨#[40]⟩ = false) (i5 : dIs T s ⟨#[91]⟩ = false) (i6 : dIs T s ⟨#[123]⟩ = false) (y : dIs T s ⟨#[115, 112, 97, 119, 110]⟩ = true) {v1 v3 v4 : Int} {v2 : List Int} {t : List ANode} {s1 : DS} (e0 : (dEnter T o s ⟨#[115, 112, 97, 119, 110]⟩).e = 0) (HV : ∀ w1 : World, RdM w1 r T (o + 1) (dEnter T o s ⟨#[115, 112, 97, 119, 110]⟩) → Calls Tryd.prog 71 #[.pointer (some ⟨r, 0, none⟩)] w1 (DG w1 r T (o + 1) ((28, v1, v2, v3, v4) :: t) s1)) (ho : 0 ≤ o) (e : s1.e = 0) (hl : t.length < 1000000) (hr : RdM w r T o s) : Calls Tryd.prog 97 #[.pointer (some ⟨r, 0, none⟩), nodeV n] w (DG w r T o ((32, v1, v2, v3, n.2.2.2.2) :: t) s1) := by
 obtain ⟨n0, n1, n2, n3, n4⟩ := n
 simp only [nodeV] at *
 obtain ⟨u, hu⟩ : ∃ u, strOfNums n2 = u := ⟨_, rfl⟩
 rw [hu]
 have HU := hid hu
 have R := hid hr
 have hrl := hr.lt
 have K := hid (Kp.refl r w)
 have i0 := hid i0
 have i1 := hid i1
 have i2 := hid i2
 have i3 := hid i3
 have i4 := hid i4
 have i5 := hid i5
 have i6 := hid i6
 have y := hid y
 have HEN := hid (fun w1 (hw : RdM w1 r T o s) => denter_any ⟨#[115, 112, 97, 119, 110]⟩ hw)
 generalize dEnter T o s ⟨#[115, 112, 97, 119, 110]⟩ = A at *
 have e1 : (A.e != 0) = false := by simpa using e0
 have HV := hid HV
 clear e0
 have HOW := hid (fun (_ : s1.e = 0) => ho)
 have HLT := hid hl
 have e2 : (s1.e == 0) = true := by simpa using e
 have e3 : (s1.e != 0) = false := by simpa using e
 clear e ho hl
 clear hr hu
 unfold DG at *
 go_enter Tryd.func97, Tryd.ntmps97
 go_wp2_with (first
  | (go_at_call 47; (fail_if_success (have _g := m0)); have m0 := hid trivial; refine (eat_no ⟨#[116, 114, 117, 101]⟩ (R.out.bw bq) i0.out).mono ?_; rintro e w1 ⟨rfl, hr1, hk1⟩; have K := hid (show Kp r w w1 from Kp.trans (Kp.of_bw bq) hk1); have R := hid hr1; have P := hid (show Blk w1 w.heap.size #[.int .i64 n0, .int .i64 n1, .string u, .int .i64 n3, .int .i64 n4] 43 from (Blk.new w _ _).kp hk1 (by omega)); have ul := P.out.lt; have uc := P.out.cell; have uf := P.out.free; have ur : r < w1.heap.size := R.out.lt; clear hr1 hk1)
  | (go_at_call 47; have _g := m0; clear _g; (fail_if_success (have _g := m1)); have m1 := hid trivial; refine (eat_no ⟨#[102, 97, 108, 115, 101]⟩ (R.out.bw bq) i1.out).mono ?_; clear ul uc uf ur; rintro e w1 ⟨rfl, hr1, hk1⟩; have K := hid (show Kp r w w1 from K.out.trans (Kp.trans (Kp.of_bw bq) hk1)); have P := hid (show Blk w1 w.heap.size #[.int .i64 n0, .int .i64 n1, .string u, .int .i64 n3, .int .i64 n4] 43 from P.out.kp (Kp.trans (Kp.of_bw bq) hk1) (by omega)); have R := hid hr1; have ul := P.out.lt; have uc := P.out.cell; have uf := P.out.free; have ur : r < w1.heap.size := R.out.lt; clear hr1 hk1)
  | (go_at_call 47; have _g := m1; clear _g; (fail_if_success (have _g := m2)); have m2 := hid trivial; refine (eat_no ⟨#[110, 105, 108]⟩ (R.out.bw bq) i2.out).mono ?_; clear ul uc uf ur; rintro e w1 ⟨rfl, hr1, hk1⟩; have K := hid (show Kp r w w1 from K.out.trans (Kp.trans (Kp.of_bw bq) hk1)); have P := hid (show Blk w1 w.heap.size #[.int .i64 n0, .int .i64 n1, .string u, .int .i64 n3, .int .i64 n4] 43 from P.out.kp (Kp.trans (Kp.of_bw bq) hk1) (by omega)); have R := hid hr1; have ul := P.out.lt; have uc := P.out.cell; have uf := P.out.free; have ur : r < w1.heap.size := R.out.lt; clear hr1 hk1)
  | (go_at_call 47; have _g := m2; clear _g; (fail_if_success (have _g := m3)); have m3 := hid trivial; refine (eat_no ⟨#[102, 110]⟩ (R.out.bw bq) i3.out).mono ?_; clear ul uc uf ur; rintro e w1 ⟨rfl, hr1, hk1⟩; have K := hid (show Kp r w w1 from K.out.trans (Kp.trans (Kp.of_bw bq) hk1)); have P := hid (show Blk w1 w.heap.size #[.int .i64 n0, .int .i64 n1, .string u, .int .i64 n3, .int .i64 n4] 43 from P.out.kp (Kp.trans (Kp.of_bw bq) hk1) (by omega)); have R := hid hr1; have ul := P.out.lt; have uc := P.out.cell; have uf := P.out.free; have ur : r < w1.heap.size := R.out.lt; clear hr1 hk1)
  | (go_at_call 42; have _g := m3; clear _g; (fail_if_success (have _g := m4)); have m4 := hid trivial; refine (is_no ⟨#[40]⟩ (R.out.bw bq) i4.out).mono ?_; clear ul uc uf ur; rintro e w1 ⟨rfl, hr1, hk1⟩; have K := hid (show Kp r w w1 from K.out.trans (Kp.trans (Kp.of_bw bq) hk1)); have P := hid (show Blk w1 w.heap.size #[.int .i64 n0, .int .i64 n1, .string u, .int .i64 n3, .int .i64 n4] 43 from P.out.kp (Kp.trans (Kp.of_bw bq) hk1) (by omega)); have R := hid hr1; have ul := P.out.lt; have uc := P.out.cell; have uf := P.out.free; have ur : r < w1.heap.size := R.out.lt; clear hr1 hk1)
  | (go_at_call 42; have _g := m4; clear _g; (fail_if_success (have _g := m5)); have m5 := hid trivial; refine (is_no ⟨#[91]⟩ (R.out.bw bq) i5.out).mono ?_; clear ul uc uf ur; rintro e w1 ⟨rfl, hr1, hk1⟩; have K := hid (show Kp r w w1 from K.out.trans (Kp.trans (Kp.of_bw bq) hk1)); have P := hid (show Blk w1 w.heap.size #[.int .i64 n0, .int .i64 n1, .string u, .int .i64 n3, .int .i64 n4] 43 from P.out.kp (Kp.trans (Kp.of_bw bq) hk1) (by omega)); have R := hid hr1; have ul := P.out.lt; have uc := P.out.cell; have uf := P.out.free; have ur : r < w1.heap.size := R.out.lt; clear hr1 hk1)
  | (go_at_call 42; have _g := m5; clear _g; (fail_if_success (have _g := m6)); have m6 := hid trivial; refine (is_no ⟨#[123]⟩ (R.out.bw bq) i6.out).mono ?_; clear ul uc uf ur; rintro e w1 ⟨rfl, hr1, hk1⟩; have K := hid (show Kp r w w1 from K.out.trans (Kp.trans (Kp.of_bw bq) hk1)); have P := hid (show Blk w1 w.heap.size #[.int .i64 n0, .int .i64 n1, .string u, .int .i64 n3, .int .i64 n4] 43 from P.out.kp (Kp.trans (Kp.of_bw bq) hk1) (by omega)); have R := hid hr1; have ul := P.out.lt; have uc := P.out.cell; have uf := P.out.free; have ur : r < w1.heap.size := R.out.lt; clear hr1 hk1)
  | (go_at_call 42; have _g := m6; clear _g; (fail_if_success (have _g := m7)); have m7 := hid trivial; refine (is_yes ⟨#[115, 112, 97, 119, 110]⟩ (R.out.bw bq) y.out).mono ?_; clear ul uc uf ur; rintro e w1 ⟨rfl, hr1, hk1⟩; have K := hid (show Kp r w w1 from K.out.trans (Kp.trans (Kp.of_bw bq) hk1)); have P := hid (show Blk w1 w.heap.size #[.int .i64 n0, .int .i64 n1, .string u, .int .i64 n3, .int .i64 n4] 43 from P.out.kp (Kp.trans (Kp.of_bw bq) hk1) (by omega)); have R := hid hr1; have ul := P.out.lt; have uc := P.out.cell; have uf := P.out.free; have ur : r < w1.heap.size := R.out.lt; clear hr1 hk1)
  | (go_at_call 68; refine (HEN.out _ (R.out.bw bq)).mono ?_; clear ul uc uf ur; rintro e w2 ⟨rfl, hr2, hk2⟩; have P := hid (show Blk w2 w.heap.size #[.int .i64 n0, .int .i64 n1, .string u, .int .i64 n3, .int .i64 n4] 43 from P.out.kp (Kp.trans (Kp.of_bw bq) hk2) (by omega)); have K := hid (show Kp r w w2 from K.out.trans (Kp.trans (Kp.of_bw bq) hk2)); (obtain ⟨gq, cq, qq, xq⟩ := hr2.x); have z3 : w2.cell? ⟨r, 3, none⟩ = some (.int .i64 A.e) := xq.b.cell 3; have zl2 : r < w2.heap.size := xq.b.lt; have R := hid hr2; clear hr2 hk2 xq)
  | (go_at_call 71; refine (HV.out _ (R.out.bw bq)).mono ?_; clear z3 zl2; rintro e w3 ⟨a3, c3, rfl, hn3, hr3, hk3, hl3⟩; have uw := P.out.lt; have N := hid (hn3.low (b' := w.heap.size) (Nat.le_trans K.out.size (by first | (simp; done) | exact Nat.le_refl _))); have P := hid (show Blk w3 w.heap.size #[.int .i64 n0, .int .i64 n1, .string u, .int .i64 n3, .int .i64 n4] 43 from P.out.kp (Kp.trans (Kp.of_bw bq) hk3) (by omega)); have K := hid (show Kp r w w3 from K.out.trans (Kp.trans (Kp.of_bw bq) hk3)); have L := hid hl3; (obtain ⟨gq, cq, qq, xq⟩ := hr3.x); have x3 : w3.cell? ⟨r, 3, none⟩ = some (.int .i64 s1.e) := xq.b.cell 3; have R := hid hr3; have ur : r < w3.heap.size := xq.b.lt; (obtain ⟨q6, z0, z1, z2, HQ6⟩ := RdM.off hr3 HOW.out); have Q := hid HQ6; clear HQ6; (obtain ⟨g3, e3, gb3, gl3, gp3, y0, y4, yf0, yf4⟩ := hn3.head (by simp)); subst e3; (obtain ⟨cur, hB, hB0, hB1⟩ := N.out.own); have CB := hid hB; have CN := hid hB1; clear hB hB1; have gr : g3 ≠ r := (by omega); have gw : g3 ≠ w.heap.size := (by omega); have ul := P.out.lt; have uc := P.out.cell; have uf := P.out.free; clear hn3 hr3 hk3 hl3 xq)
  | fail)
 go_region
 all_goals go_wp2
 all_goals go_ret
 all_goals
  have q1 := CB.out.other (p := ⟨r, 2, none⟩) (show r ≠ g3 from fun k => gr k.symm) (.int .i64 (wrap64 (q6 - 1)))
  have q2 := q1.set 0 (.int .i64 32)
  have q3 := q2.set 4 (.int .i64 n4)
  exact ⟨_, _, rfl, CN.out _ 32 n4 q3.drh, RdM.bw ((Q.out.setO q1 0 _).setO q2 4 _) (by repeat (first | exact Bw.refl _ | apply Bw.drew)), Kp.bw (((K.out.set 2 _).setNew (by omega) 0 _).setNew (by omega) 4 _) (by repeat (first | exact Bw.refl _ | apply Bw.drew)), HLT.out⟩

end

end Go.Proofs.YtdhkcdehedbpcaaDoor

