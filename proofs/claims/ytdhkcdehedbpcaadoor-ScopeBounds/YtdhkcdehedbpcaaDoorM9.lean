/- The document's parser: about: spawn: contracts, by steps. · The document's parser: about: contracts, by steps. -/
import Derived.Test.YtdhkcdehedbpcaaDoorM8
set_option linter.unusedSimpArgs false
set_option linter.unusedVariables false
namespace Go.Proofs.YtdhkcdehedbpcaaDoor
open Go Go.RowKit

section
attribute [local irreducible] dIs
variable {w w' : World} {r f : Nat} {T : List ATok} {o : Int} {s s' : DS} {l : List ANode} {k : Int}

theorem RdM.anyo (h : RdM w r T o s) (e : s.e ≠ 0) (o' : Int) : RdM w r T o' s := by
  obtain ⟨vt, q, h1, h2, h3⟩ := h.b
  exact ⟨⟨vt, q, h1, h2, fun e' => absurd e' e⟩, h.i, fun e' => absurd e' e, h.n⟩

theorem put_take {cur : Array Value} {m : Nat} {n : ANode} {t : List ANode} (k a : Int) (ht : cur.toList.take m = (n :: t).flatMap ndV) : ((cur.setIfInBounds 0 (.int .i64 k)).setIfInBounds 4 (.int .i64 a)).toList.take m = ((k, n.2.1, n.2.2.1, n.2.2.2.1, a) :: t).flatMap ndV := by
  rw [Array.toList_setIfInBounds, Array.toList_setIfInBounds, List.take_set, List.take_set, ht]
  rfl
/-- The first node of a list of one's own, where it lies, and what it is when its kind and its place are written. -/
theorem Nd.own {b c g : Nat} {n : ANode} {t : List ANode} (h : Nd w b (.slice (some ⟨g, 0, none⟩) (n :: t).length c) (n :: t)) : ∃ cur, Blk w g cur 43 ∧ b ≤ g ∧ ∀ (w' : World) (k a : Int), Blk w' g ((cur.setIfInBounds 0 (.int .i64 k)).setIfInBounds 4 (.int .i64 a)) 43 → Nd w' b (.slice (some ⟨g, 0, none⟩) (n :: t).length c) ((k, n.2.1, n.2.2.1, n.2.2.2.1, a) :: t) := by
  rcases h.2 with ⟨h1, _⟩ | ⟨g', cap, cur, e, hb, hg, hn, hm, hs, ht⟩
  · cases h1
  · cases e
    refine ⟨cur, hg, hb, fun w' k a hw => ⟨h.1, .inr ⟨g, c, _, rfl, hb, hw, hn, hm, ?_, put_take k a ht⟩⟩⟩
    simpa using hs

set_option maxRecDepth 100000 in
set_option maxHeartbeats 8000000 in
theorem about_spA (n : ANode) (i0 : dIs T s ⟨#[116, 114, 117, 101]⟩ = false) (i1 : dIs T s ⟨#[102, 97, 108, 115, 101]⟩ = false) (i2 : dIs T s ⟨#[110, 105, 108]⟩ = false) (i3 : dIs T s ⟨#[102, 110]⟩ = false) (i4 : dIs T s ⟨#[40]⟩ = false) (i5 : dIs T s ⟨#[91]⟩ = false) (i6 : dIs T s ⟨#[123]⟩ = false) (y : dIs T s ⟨#[115, 112, 97, 119, 110]⟩ = true) (e : (dEnter T o s ⟨#[115, 112, 97, 119, 110]⟩).e ≠ 0) (hr : RdM w r T o s) : Calls Tryd.prog 97 #[.pointer (some ⟨r, 0, none⟩), nodeV n] w (DG w r T o [] (dEnter T o s ⟨#[115, 112, 97, 119, 110]⟩)) := by
  obtain ⟨n0, n1, n2, n3, n4⟩ := n
  simp only [nodeV] at *
  obtain ⟨u, hu⟩ : ∃ u, strOfNums n2 = u := ⟨_, rfl⟩
  rw [hu]
  have HU := hid hu
  have R := hid hr
  have hrl := hr.lt
  have K := hid (Kp.refl r w)
  have i0 := hid i0
  have i1 := hid i1
  have i2 := hid i2
  have i3 := hid i3
  have i4 := hid i4
  have i5 := hid i5
  have i6 := hid i6
  have y := hid y
  have HEN := hid (fun w1 (hw : RdM w1 r T o s) => denter_any ⟨#[115, 112, 97, 119, 110]⟩ hw)
  generalize dEnter T o s ⟨#[115, 112, 97, 119, 110]⟩ = A at *
  have e1 : (A.e != 0) = true := by simpa using e
  have HE := hid e
  clear e
  clear hr hu
  unfold DG at *
  go_enter Tryd.func97, Tryd.ntmps97
  go_wp2_with (first
    | (go_at_call 47; (fail_if_success (have _g := m0)); have m0 := hid trivial; refine (eat_no ⟨#[116, 114, 117, 101]⟩ (R.out.bw bq) i0.out).mono ?_; rintro e w1 ⟨rfl, hr1, hk1⟩; have K := hid (show Kp r w w1 from Kp.trans (Kp.of_bw bq) hk1); have R := hid hr1; have P := hid (show Blk w1 w.heap.size #[.int .i64 n0, .int .i64 n1, .string u, .int .i64 n3, .int .i64 n4] 43 from (Blk.new w _ _).kp hk1 (by omega)); have ul := P.out.lt; have uc := P.out.cell; have uf := P.out.free; have ur : r < w1.heap.size := R.out.lt; clear hr1 hk1)
    | (go_at_call 47; have _g := m0; clear _g; (fail_if_success (have _g := m1)); have m1 := hid trivial; refine (eat_no ⟨#[102, 97, 108, 115, 101]⟩ (R.out.bw bq) i1.out).mono ?_; clear ul uc uf ur; rintro e w1 ⟨rfl, hr1, hk1⟩; have K := hid (show Kp r w w1 from K.out.trans (Kp.trans (Kp.of_bw bq) hk1)); have P := hid (show Blk w1 w.heap.size #[.int .i64 n0, .int .i64 n1, .string u, .int .i64 n3, .int .i64 n4] 43 from P.out.kp (Kp.trans (Kp.of_bw bq) hk1) (by omega)); have R := hid hr1; have ul := P.out.lt; have uc := P.out.cell; have uf := P.out.free; have ur : r < w1.heap.size := R.out.lt; clear hr1 hk1)
    | (go_at_call 47; have _g := m1; clear _g; (fail_if_success (have _g := m2)); have m2 := hid trivial; refine (eat_no ⟨#[110, 105, 108]⟩ (R.out.bw bq) i2.out).mono ?_; clear ul uc uf ur; rintro e w1 ⟨rfl, hr1, hk1⟩; have K := hid (show Kp r w w1 from K.out.trans (Kp.trans (Kp.of_bw bq) hk1)); have P := hid (show Blk w1 w.heap.size #[.int .i64 n0, .int .i64 n1, .string u, .int .i64 n3, .int .i64 n4] 43 from P.out.kp (Kp.trans (Kp.of_bw bq) hk1) (by omega)); have R := hid hr1; have ul := P.out.lt; have uc := P.out.cell; have uf := P.out.free; have ur : r < w1.heap.size := R.out.lt; clear hr1 hk1)
    | (go_at_call 47; have _g := m2; clear _g; (fail_if_success (have _g := m3)); have m3 := hid trivial; refine (eat_no ⟨#[102, 110]⟩ (R.out.bw bq) i3.out).mono ?_; clear ul uc uf ur; rintro e w1 ⟨rfl, hr1, hk1⟩; have K := hid (show Kp r w w1 from K.out.trans (Kp.trans (Kp.of_bw bq) hk1)); have P := hid (show Blk w1 w.heap.size #[.int .i64 n0, .int .i64 n1, .string u, .int .i64 n3, .int .i64 n4] 43 from P.out.kp (Kp.trans (Kp.of_bw bq) hk1) (by omega)); have R := hid hr1; have ul := P.out.lt; have uc := P.out.cell; have uf := P.out.free; have ur : r < w1.heap.size := R.out.lt; clear hr1 hk1)
    | (go_at_call 42; have _g := m3; clear _g; (fail_if_success (have _g := m4)); have m4 := hid trivial; refine (is_no ⟨#[40]⟩ (R.out.bw bq) i4.out).mono ?_; clear ul uc uf ur; rintro e w1 ⟨rfl, hr1, hk1⟩; have K := hid (show Kp r w w1 from K.out.trans (Kp.trans (Kp.of_bw bq) hk1)); have P := hid (show Blk w1 w.heap.size #[.int .i64 n0, .int .i64 n1, .string u, .int .i64 n3, .int .i64 n4] 43 from P.out.kp (Kp.trans (Kp.of_bw bq) hk1) (by omega)); have R := hid hr1; have ul := P.out.lt; have uc := P.out.cell; have uf := P.out.free; have ur : r < w1.heap.size := R.out.lt; clear hr1 hk1)
    | (go_at_call 42; have _g := m4; clear _g; (fail_if_success (have _g := m5)); have m5 := hid trivial; refine (is_no ⟨#[91]⟩ (R.out.bw bq) i5.out).mono ?_; clear ul uc uf ur; rintro e w1 ⟨rfl, hr1, hk1⟩; have K := hid (show Kp r w w1 from K.out.trans (Kp.trans (Kp.of_bw bq) hk1)); have P := hid (show Blk w1 w.heap.size #[.int .i64 n0, .int .i64 n1, .string u, .int .i64 n3, .int .i64 n4] 43 from P.out.kp (Kp.trans (Kp.of_bw bq) hk1) (by omega)); have R := hid hr1; have ul := P.out.lt; have uc := P.out.cell; have uf := P.out.free; have ur : r < w1.heap.size := R.out.lt; clear hr1 hk1)
    | (go_at_call 42; have _g := m5; clear _g; (fail_if_success (have _g := m6)); have m6 := hid trivial; refine (is_no ⟨#[123]⟩ (R.out.bw bq) i6.out).mono ?_; clear ul uc uf ur; rintro e w1 ⟨rfl, hr1, hk1⟩; have K := hid (show Kp r w w1 from K.out.trans (Kp.trans (Kp.of_bw bq) hk1)); have P := hid (show Blk w1 w.heap.size #[.int .i64 n0, .int .i64 n1, .string u, .int .i64 n3, .int .i64 n4] 43 from P.out.kp (Kp.trans (Kp.of_bw bq) hk1) (by omega)); have R := hid hr1; have ul := P.out.lt; have uc := P.out.cell; have uf := P.out.free; have ur : r < w1.heap.size := R.out.lt; clear hr1 hk1)
    | (go_at_call 42; have _g := m6; clear _g; (fail_if_success (have _g := m7)); have m7 := hid trivial; refine (is_yes ⟨#[115, 112, 97, 119, 110]⟩ (R.out.bw bq) y.out).mono ?_; clear ul uc uf ur; rintro e w1 ⟨rfl, hr1, hk1⟩; have K := hid (show Kp r w w1 from K.out.trans (Kp.trans (Kp.of_bw bq) hk1)); have P := hid (show Blk w1 w.heap.size #[.int .i64 n0, .int .i64 n1, .string u, .int .i64 n3, .int .i64 n4] 43 from P.out.kp (Kp.trans (Kp.of_bw bq) hk1) (by omega)); have R := hid hr1; have ul := P.out.lt; have uc := P.out.cell; have uf := P.out.free; have ur : r < w1.heap.size := R.out.lt; clear hr1 hk1)
    | (go_at_call 68; refine (HEN.out _ (R.out.bw bq)).mono ?_; clear ul uc uf ur; rintro e w2 ⟨rfl, hr2, hk2⟩; have P := hid (show Blk w2 w.heap.size #[.int .i64 n0, .int .i64 n1, .string u, .int .i64 n3, .int .i64 n4] 43 from P.out.kp (Kp.trans (Kp.of_bw bq) hk2) (by omega)); have K := hid (show Kp r w w2 from K.out.trans (Kp.trans (Kp.of_bw bq) hk2)); (obtain ⟨gq, cq, qq, xq⟩ := hr2.x); have z3 : w2.cell? ⟨r, 3, none⟩ = some (.int .i64 A.e) := xq.b.cell 3; have zl2 : r < w2.heap.size := xq.b.lt; have R := hid hr2; clear hr2 hk2 xq)
    | fail)
  all_goals go_ret
  all_goals exact ⟨_, _, rfl, Nd.nil _ _, R.out.anyo HE.out _, K.out, by decide⟩

set_option maxRecDepth 100000 in
set_option maxHeartbeats 8000000 in
theorem about_spB (n : ANode) (i0 : dIs T s ⟨#[116, 114, 117, 101]⟩ = false) (i1 : dIs T s ⟨#[102, 97, 108, 115, 101]⟩ = false) (i2 : dIs T s ⟨#[110, 105, 108]⟩ = false) (i3 : dIs T s ⟨#[102, 110]⟩ = false) (i4 : dIs T s ⟨#[40]⟩ = false) (i5 : dIs T s ⟨#[91]⟩ = false) (i6 : dIs T s ⟨#[123]⟩ = false) (y : dIs T s ⟨#[115, 112, 97, 119, 110]⟩ = true) {x : List ANode} {s1 : DS} (e0 : (dEnter T o s ⟨#[115, 112, 97, 119, 110]⟩).e = 0) (HV : ∀ w1 : World, RdM w1 r T (o + 1) (dEnter T o s ⟨#[115, 112, 97, 119, 110]⟩) → Calls Tryd.prog 71 #[.pointer (some ⟨r, 0, none⟩)] w1 (DG w1 r T (o + 1) x s1)) (ho : 0 ≤ o) (e : s1.e ≠ 0) (hr : RdM w r T o s) : Calls Tryd.prog 97 #[.pointer (some ⟨r, 0, none⟩), nodeV n] w (DG w r T o [] s1) := by
  obtain ⟨n0, n1, n2, n3, n4⟩ := n
  simp only [nodeV] at *
  obtain ⟨u, hu⟩ : ∃ u, strOfNums n2 = u := ⟨_, rfl⟩
  rw [hu]
  have HU := hid hu
  have R := hid hr
  have hrl := hr.lt
  have K := hid (Kp.refl r w)
  have i0 := hid i0
  have i1 := hid i1
  have i2 := hid i2
  have i3 := hid i3
  have i4 := hid i4
  have i5 := hid i5
  have i6 := hid i6
  have y := hid y
  have HEN := hid (fun w1 (hw : RdM w1 r T o s) => denter_any ⟨#[115, 112, 97, 119, 110]⟩ hw)
  generalize dEnter T o s ⟨#[115, 112, 97, 119, 110]⟩ = A at *
  have e1 : (A.e != 0) = false := by simpa using e0
  have HV := hid HV
  clear e0
  have HOW := hid (fun (_ : s1.e = 0) => ho)
  have e2 : (s1.e == 0) = false := by simpa using e
  have e3 : (s1.e != 0) = true := by simpa using e
  clear e ho
  clear hr hu
  unfold DG at *
  go_enter Tryd.func97, Tryd.ntmps97
  go_wp2_with (first
    | (go_at_call 47; (fail_if_success (have _g := m0)); have m0 := hid trivial; refine (eat_no ⟨#[116, 114, 117, 101]⟩ (R.out.bw bq) i0.out).mono ?_; rintro e w1 ⟨rfl, hr1, hk1⟩; have K := hid (show Kp r w w1 from Kp.trans (Kp.of_bw bq) hk1); have R := hid hr1; have P := hid (show Blk w1 w.heap.size #[.int .i64 n0, .int .i64 n1, .string u, .int .i64 n3, .int .i64 n4] 43 from (Blk.new w _ _).kp hk1 (by omega)); have ul := P.out.lt; have uc := P.out.cell; have uf := P.out.free; have ur : r < w1.heap.size := R.out.lt; clear hr1 hk1)
    | (go_at_call 47; have _g := m0; clear _g; (fail_if_success (have _g := m1)); have m1 := hid trivial; refine (eat_no ⟨#[102, 97, 108, 115, 101]⟩ (R.out.bw bq) i1.out).mono ?_; clear ul uc uf ur; rintro e w1 ⟨rfl, hr1, hk1⟩; have K := hid (show Kp r w w1 from K.out.trans (Kp.trans (Kp.of_bw bq) hk1)); have P := hid (show Blk w1 w.heap.size #[.int .i64 n0, .int .i64 n1, .string u, .int .i64 n3, .int .i64 n4] 43 from P.out.kp (Kp.trans (Kp.of_bw bq) hk1) (by omega)); have R := hid hr1; have ul := P.out.lt; have uc := P.out.cell; have uf := P.out.free; have ur : r < w1.heap.size := R.out.lt; clear hr1 hk1)
    | (go_at_call 47; have _g := m1; clear _g; (fail_if_success (have _g := m2)); have m2 := hid trivial; refine (eat_no ⟨#[110, 105, 108]⟩ (R.out.bw bq) i2.out).mono ?_; clear ul uc uf ur; rintro e w1 ⟨rfl, hr1, hk1⟩; have K := hid (show Kp r w w1 from K.out.trans (Kp.trans (Kp.of_bw bq) hk1)); have P := hid (show Blk w1 w.heap.size #[.int .i64 n0, .int .i64 n1, .string u, .int .i64 n3, .int .i64 n4] 43 from P.out.kp (Kp.trans (Kp.of_bw bq) hk1) (by omega)); have R := hid hr1; have ul := P.out.lt; have uc := P.out.cell; have uf := P.out.free; have ur : r < w1.heap.size := R.out.lt; clear hr1 hk1)
    | (go_at_call 47; have _g := m2; clear _g; (fail_if_success (have _g := m3)); have m3 := hid trivial; refine (eat_no ⟨#[102, 110]⟩ (R.out.bw bq) i3.out).mono ?_; clear ul uc uf ur; rintro e w1 ⟨rfl, hr1, hk1⟩; have K := hid (show Kp r w w1 from K.out.trans (Kp.trans (Kp.of_bw bq) hk1)); have P := hid (show Blk w1 w.heap.size #[.int .i64 n0, .int .i64 n1, .string u, .int .i64 n3, .int .i64 n4] 43 from P.out.kp (Kp.trans (Kp.of_bw bq) hk1) (by omega)); have R := hid hr1; have ul := P.out.lt; have uc := P.out.cell; have uf := P.out.free; have ur : r < w1.heap.size := R.out.lt; clear hr1 hk1)
    | (go_at_call 42; have _g := m3; clear _g; (fail_if_success (have _g := m4)); have m4 := hid trivial; refine (is_no ⟨#[40]⟩ (R.out.bw bq) i4.out).mono ?_; clear ul uc uf ur; rintro e w1 ⟨rfl, hr1, hk1⟩; have K := hid (show Kp r w w1 from K.out.trans (Kp.trans (Kp.of_bw bq) hk1)); have P := hid (show Blk w1 w.heap.size #[.int .i64 n0, .int .i64 n1, .string u, .int .i64 n3, .int .i64 n4] 43 from P.out.kp (Kp.trans (Kp.of_bw bq) hk1) (by omega)); have R := hid hr1; have ul := P.out.lt; have uc := P.out.cell; have uf := P.out.free; have ur : r < w1.heap.size := R.out.lt; clear hr1 hk1)
    | (go_at_call 42; have _g := m4; clear _g; (fail_if_success (have _g := m5)); have m5 := hid trivial; refine (is_no ⟨#[91]⟩ (R.out.bw bq) i5.out).mono ?_; clear ul uc uf ur; rintro e w1 ⟨rfl, hr1, hk1⟩; have K := hid (show Kp r w w1 from K.out.trans (Kp.trans (Kp.of_bw bq) hk1)); have P := hid (show Blk w1 w.heap.size #[.int .i64 n0, .int .i64 n1, .string u, .int .i64 n3, .int .i64 n4] 43 from P.out.kp (Kp.trans (Kp.of_bw bq) hk1) (by omega)); have R := hid hr1; have ul := P.out.lt; have uc := P.out.cell; have uf := P.out.free; have ur : r < w1.heap.size := R.out.lt; clear hr1 hk1)
    | (go_at_call 42; have _g := m5; clear _g; (fail_if_success (have _g := m6)); have m6 := hid trivial; refine (is_no ⟨#[123]⟩ (R.out.bw bq) i6.out).mono ?_; clear ul uc uf ur; rintro e w1 ⟨rfl, hr1, hk1⟩; have K := hid (show Kp r w w1 from K.out.trans (Kp.trans (Kp.of_bw bq) hk1)); have P := hid (show Blk w1 w.heap.size #[.int .i64 n0, .int .i64 n1, .string u, .int .i64 n3, .int .i64 n4] 43 from P.out.kp (Kp.trans (Kp.of_bw bq) hk1) (by omega)); have R := hid hr1; have ul := P.out.lt; have uc := P.out.cell; have uf := P.out.free; have ur : r < w1.heap.size := R.out.lt; clear hr1 hk1)
    | (go_at_call 42; have _g := m6; clear _g; (fail_if_success (have _g := m7)); have m7 := hid trivial; refine (is_yes ⟨#[115, 112, 97, 119, 110]⟩ (R.out.bw bq) y.out).mono ?_; clear ul uc uf ur; rintro e w1 ⟨rfl, hr1, hk1⟩; have K := hid (show Kp r w w1 from K.out.trans (Kp.trans (Kp.of_bw bq) hk1)); have P := hid (show Blk w1 w.heap.size #[.int .i64 n0, .int .i64 n1, .string u, .int .i64 n3, .int .i64 n4] 43 from P.out.kp (Kp.trans (Kp.of_bw bq) hk1) (by omega)); have R := hid hr1; have ul := P.out.lt; have uc := P.out.cell; have uf := P.out.free; have ur : r < w1.heap.size := R.out.lt; clear hr1 hk1)
    | (go_at_call 68; refine (HEN.out _ (R.out.bw bq)).mono ?_; clear ul uc uf ur; rintro e w2 ⟨rfl, hr2, hk2⟩; have P := hid (show Blk w2 w.heap.size #[.int .i64 n0, .int .i64 n1, .string u, .int .i64 n3, .int .i64 n4] 43 from P.out.kp (Kp.trans (Kp.of_bw bq) hk2) (by omega)); have K := hid (show Kp r w w2 from K.out.trans (Kp.trans (Kp.of_bw bq) hk2)); (obtain ⟨gq, cq, qq, xq⟩ := hr2.x); have z3 : w2.cell? ⟨r, 3, none⟩ = some (.int .i64 A.e) := xq.b.cell 3; have zl2 : r < w2.heap.size := xq.b.lt; have R := hid hr2; clear hr2 hk2 xq)
    | (go_at_call 71; refine (HV.out _ (R.out.bw bq)).mono ?_; clear z3 zl2; rintro e w3 ⟨a3, c3, rfl, hn3, hr3, hk3, hl3⟩; have uw := P.out.lt; have N := hid (hn3.low (b' := w.heap.size) (Nat.le_trans K.out.size (by first | (simp; done) | exact Nat.le_refl _))); have P := hid (show Blk w3 w.heap.size #[.int .i64 n0, .int .i64 n1, .string u, .int .i64 n3, .int .i64 n4] 43 from P.out.kp (Kp.trans (Kp.of_bw bq) hk3) (by omega)); have K := hid (show Kp r w w3 from K.out.trans (Kp.trans (Kp.of_bw bq) hk3)); have L := hid hl3; (obtain ⟨gq, cq, qq, xq⟩ := hr3.x); have x3 : w3.cell? ⟨r, 3, none⟩ = some (.int .i64 s1.e) := xq.b.cell 3; have R := hid hr3; have ur : r < w3.heap.size := xq.b.lt; (obtain ⟨q6, z0, z1, z2, HQ6⟩ := RdM.off hr3 HOW.out); have Q := hid HQ6; clear HQ6; clear hn3 hr3 hk3 hl3 xq)
    | fail)
  all_goals go_ret
  all_goals exact ⟨_, _, rfl, Nd.nil _ _, Q.out, K.out.set 2 _, by decide⟩

set_option maxRecDepth 100000 in
set_option maxHeartbeats 8000000 in
theorem about_spC (n : ANode) (i0 : dIs T s ⟨#[116, 114, 117, 101]⟩ = false) (i1 : dIs T s ⟨#[102, 97, 108, 115, 101]⟩ = false) (i2 : dIs T s ⟨#[110, 105, 108]⟩ = false) (i3 : dIs T s ⟨#[102, 110]⟩ = false) (i4 : dIs T s ⟨#[40]⟩ = false) (i5 : dIs T s ⟨#[91]⟩ = false) (i6 : dIs T s ⟨#[123]⟩ = false) (y : dIs T s ⟨#[115, 112, 97, 119, 110]⟩ = true) {x : List ANode} {s1 : DS} (e0 : (dEnter T o s ⟨#[115, 112, 97, 119, 110]⟩).e = 0) (HV : ∀ w1 : World, RdM w1 r T (o + 1) (dEnter T o s ⟨#[115, 112, 97, 119, 110]⟩) → Calls Tryd.prog 71 #[.pointer (some ⟨r, 0, none⟩)] w1 (DG w1 r T (o + 1) x s1)) (ho : 0 ≤ o) (e : s1.e = 0) (hx : x ≠ []) (hk : dKd0 x ≠ 28) (hr : RdM w r T o s) : Calls Tryd.prog 97 #[.pointer (some ⟨r, 0, none⟩), nodeV n] w (DG w r T o [] (dBad T s1 6)) := by
  obtain ⟨n0, n1, n2, n3, n4⟩ := n
  simp only [nodeV] at *
  obtain ⟨u, hu⟩ : ∃ u, strOfNums n2 = u := ⟨_, rfl⟩
  rw [hu]
  have HU := hid hu
  have R := hid hr
  have hrl := hr.lt
  have K := hid (Kp.refl r w)
  have i0 := hid i0
  have i1 := hid i1
  have i2 := hid i2
  have i3 := hid i3
  have i4 := hid i4
  have i5 := hid i5
  have i6 := hid i6
  have y := hid y
  have HEN := hid (fun w1 (hw : RdM w1 r T o s) => denter_any ⟨#[115, 112, 97, 119, 110]⟩ hw)
  generalize dEnter T o s ⟨#[115, 112, 97, 119, 110]⟩ = A at *
  have e1 : (A.e != 0) = false := by simpa using e0
  have HV := hid HV
  clear e0
  have HOW := hid (fun (_ : (dBad T s1 6).e = 0) => ho)
  have HBD := hid (fun w1 (hw : RdM w1 r T (o + 1) s1) => dbad_any 6 (by decide) hw)
  have e2 : (s1.e == 0) = true := by simpa using e
  have e5 : ((dBad T s1 6).e != 0) = true := by unfold dBad; rw [if_pos e]; rfl
  have e4 : (dKd0 x != 28) = true := by simpa using hk
  generalize dBad T s1 6 = B at *
  have HNE := hid hx
  clear e ho hx hk
  clear hr hu
  unfold DG at *
  go_enter Tryd.func97, Tryd.ntmps97
  go_wp2_with (first
    | (go_at_call 47; (fail_if_success (have _g := m0)); have m0 := hid trivial; refine (eat_no ⟨#[116, 114, 117, 101]⟩ (R.out.bw bq) i0.out).mono ?_; rintro e w1 ⟨rfl, hr1, hk1⟩; have K := hid (show Kp r w w1 from Kp.trans (Kp.of_bw bq) hk1); have R := hid hr1; have P := hid (show Blk w1 w.heap.size #[.int .i64 n0, .int .i64 n1, .string u, .int .i64 n3, .int .i64 n4] 43 from (Blk.new w _ _).kp hk1 (by omega)); have ul := P.out.lt; have uc := P.out.cell; have uf := P.out.free; have ur : r < w1.heap.size := R.out.lt; clear hr1 hk1)
    | (go_at_call 47; have _g := m0; clear _g; (fail_if_success (have _g := m1)); have m1 := hid trivial; refine (eat_no ⟨#[102, 97, 108, 115, 101]⟩ (R.out.bw bq) i1.out).mono ?_; clear ul uc uf ur; rintro e w1 ⟨rfl, hr1, hk1⟩; have K := hid (show Kp r w w1 from K.out.trans (Kp.trans (Kp.of_bw bq) hk1)); have P := hid (show Blk w1 w.heap.size #[.int .i64 n0, .int .i64 n1, .string u, .int .i64 n3, .int .i64 n4] 43 from P.out.kp (Kp.trans (Kp.of_bw bq) hk1) (by omega)); have R := hid hr1; have ul := P.out.lt; have uc := P.out.cell; have uf := P.out.free; have ur : r < w1.heap.size := R.out.lt; clear hr1 hk1)
    | (go_at_call 47; have _g := m1; clear _g; (fail_if_success (have _g := m2)); have m2 := hid trivial; refine (eat_no ⟨#[110, 105, 108]⟩ (R.out.bw bq) i2.out).mono ?_; clear ul uc uf ur; rintro e w1 ⟨rfl, hr1, hk1⟩; have K := hid (show Kp r w w1 from K.out.trans (Kp.trans (Kp.of_bw bq) hk1)); have P := hid (show Blk w1 w.heap.size #[.int .i64 n0, .int .i64 n1, .string u, .int .i64 n3, .int .i64 n4] 43 from P.out.kp (Kp.trans (Kp.of_bw bq) hk1) (by omega)); have R := hid hr1; have ul := P.out.lt; have uc := P.out.cell; have uf := P.out.free; have ur : r < w1.heap.size := R.out.lt; clear hr1 hk1)
    | (go_at_call 47; have _g := m2; clear _g; (fail_if_success (have _g := m3)); have m3 := hid trivial; refine (eat_no ⟨#[102, 110]⟩ (R.out.bw bq) i3.out).mono ?_; clear ul uc uf ur; rintro e w1 ⟨rfl, hr1, hk1⟩; have K := hid (show Kp r w w1 from K.out.trans (Kp.trans (Kp.of_bw bq) hk1)); have P := hid (show Blk w1 w.heap.size #[.int .i64 n0, .int .i64 n1, .string u, .int .i64 n3, .int .i64 n4] 43 from P.out.kp (Kp.trans (Kp.of_bw bq) hk1) (by omega)); have R := hid hr1; have ul := P.out.lt; have uc := P.out.cell; have uf := P.out.free; have ur : r < w1.heap.size := R.out.lt; clear hr1 hk1)
    | (go_at_call 42; have _g := m3; clear _g; (fail_if_success (have _g := m4)); have m4 := hid trivial; refine (is_no ⟨#[40]⟩ (R.out.bw bq) i4.out).mono ?_; clear ul uc uf ur; rintro e w1 ⟨rfl, hr1, hk1⟩; have K := hid (show Kp r w w1 from K.out.trans (Kp.trans (Kp.of_bw bq) hk1)); have P := hid (show Blk w1 w.heap.size #[.int .i64 n0, .int .i64 n1, .string u, .int .i64 n3, .int .i64 n4] 43 from P.out.kp (Kp.trans (Kp.of_bw bq) hk1) (by omega)); have R := hid hr1; have ul := P.out.lt; have uc := P.out.cell; have uf := P.out.free; have ur : r < w1.heap.size := R.out.lt; clear hr1 hk1)
    | (go_at_call 42; have _g := m4; clear _g; (fail_if_success (have _g := m5)); have m5 := hid trivial; refine (is_no ⟨#[91]⟩ (R.out.bw bq) i5.out).mono ?_; clear ul uc uf ur; rintro e w1 ⟨rfl, hr1, hk1⟩; have K := hid (show Kp r w w1 from K.out.trans (Kp.trans (Kp.of_bw bq) hk1)); have P := hid (show Blk w1 w.heap.size #[.int .i64 n0, .int .i64 n1, .string u, .int .i64 n3, .int .i64 n4] 43 from P.out.kp (Kp.trans (Kp.of_bw bq) hk1) (by omega)); have R := hid hr1; have ul := P.out.lt; have uc := P.out.cell; have uf := P.out.free; have ur : r < w1.heap.size := R.out.lt; clear hr1 hk1)
    | (go_at_call 42; have _g := m5; clear _g; (fail_if_success (have _g := m6)); have m6 := hid trivial; refine (is_no ⟨#[123]⟩ (R.out.bw bq) i6.out).mono ?_; clear ul uc uf ur; rintro e w1 ⟨rfl, hr1, hk1⟩; have K := hid (show Kp r w w1 from K.out.trans (Kp.trans (Kp.of_bw bq) hk1)); have P := hid (show Blk w1 w.heap.size #[.int .i64 n0, .int .i64 n1, .string u, .int .i64 n3, .int .i64 n4] 43 from P.out.kp (Kp.trans (Kp.of_bw bq) hk1) (by omega)); have R := hid hr1; have ul := P.out.lt; have uc := P.out.cell; have uf := P.out.free; have ur : r < w1.heap.size := R.out.lt; clear hr1 hk1)
    | (go_at_call 42; have _g := m6; clear _g; (fail_if_success (have _g := m7)); have m7 := hid trivial; refine (is_yes ⟨#[115, 112, 97, 119, 110]⟩ (R.out.bw bq) y.out).mono ?_; clear ul uc uf ur; rintro e w1 ⟨rfl, hr1, hk1⟩; have K := hid (show Kp r w w1 from K.out.trans (Kp.trans (Kp.of_bw bq) hk1)); have P := hid (show Blk w1 w.heap.size #[.int .i64 n0, .int .i64 n1, .string u, .int .i64 n3, .int .i64 n4] 43 from P.out.kp (Kp.trans (Kp.of_bw bq) hk1) (by omega)); have R := hid hr1; have ul := P.out.lt; have uc := P.out.cell; have uf := P.out.free; have ur : r < w1.heap.size := R.out.lt; clear hr1 hk1)
    | (go_at_call 68; refine (HEN.out _ (R.out.bw bq)).mono ?_; clear ul uc uf ur; rintro e w2 ⟨rfl, hr2, hk2⟩; have P := hid (show Blk w2 w.heap.size #[.int .i64 n0, .int .i64 n1, .string u, .int .i64 n3, .int .i64 n4] 43 from P.out.kp (Kp.trans (Kp.of_bw bq) hk2) (by omega)); have K := hid (show Kp r w w2 from K.out.trans (Kp.trans (Kp.of_bw bq) hk2)); (obtain ⟨gq, cq, qq, xq⟩ := hr2.x); have z3 : w2.cell? ⟨r, 3, none⟩ = some (.int .i64 A.e) := xq.b.cell 3; have zl2 : r < w2.heap.size := xq.b.lt; have R := hid hr2; clear hr2 hk2 xq)
    | (go_at_call 71; refine (HV.out _ (R.out.bw bq)).mono ?_; clear z3 zl2; rintro e w3 ⟨a3, c3, rfl, hn3, hr3, hk3, hl3⟩; have uw := P.out.lt; have N := hid (hn3.low (b' := w.heap.size) (Nat.le_trans K.out.size (by first | (simp; done) | exact Nat.le_refl _))); have P := hid (show Blk w3 w.heap.size #[.int .i64 n0, .int .i64 n1, .string u, .int .i64 n3, .int .i64 n4] 43 from P.out.kp (Kp.trans (Kp.of_bw bq) hk3) (by omega)); have K := hid (show Kp r w w3 from K.out.trans (Kp.trans (Kp.of_bw bq) hk3)); have L := hid hl3; (obtain ⟨gq, cq, qq, xq⟩ := hr3.x); have x3 : w3.cell? ⟨r, 3, none⟩ = some (.int .i64 s1.e) := xq.b.cell 3; have R := hid hr3; have ur : r < w3.heap.size := xq.b.lt; (obtain ⟨g3, e3, gb3, gl3, gp3, y0, y4, yf0, yf4⟩ := N.out.head HNE.out); subst e3; clear hn3 hr3 hk3 hl3 xq)
    | (go_at_call 69; refine (HBD.out _ (R.out.bw bq)).mono ?_; rintro e w4 ⟨rfl, hr4, hk4⟩; have K := hid (show Kp r w w4 from K.out.trans (Kp.trans (Kp.of_bw bq) hk4)); (obtain ⟨gq, cq, qq, xq⟩ := hr4.x); have x4 : w4.cell? ⟨r, 3, none⟩ = some (.int .i64 B.e) := xq.b.cell 3; (obtain ⟨q6, z0, z1, z2, HQ6⟩ := RdM.off hr4 HOW.out); have Q := hid HQ6; clear hr4 hk4 xq HQ6)
    | fail)
  all_goals go_ret
  all_goals exact ⟨_, _, rfl, Nd.nil _ _, Q.out, K.out.set 2 _, by decide⟩

set_option maxRecDepth 100000 in
set_option maxHeartbeats 8000000 in
theorem about_spD (n : ANode) (i0 : dIs T s ⟨#[116, 114, 117, 101]⟩ = false) (i1 : dIs T s ⟨#[102, 97, 108, 115, 101]⟩ = false) (i2 : dIs T s ⟨#[110, 105, 108]⟩ = false) (i3 : dIs T s ⟨#[102, 110]⟩ = false) (i4 : dIs T s ⟨#[40]⟩ = false) (i5 : dIs T s ⟨#[91]⟩ = false) (i6 : dIs T s ⟨#[123]⟩ = false) (y : dIs T s ⟨#[115, 112, 97, 119, 110]⟩ = true) {v1 v3 v4 : Int} {v2 : List Int} {t : List ANode} {s1 : DS} (e0 : (dEnter T o s ⟨#[115, 112, 97, 119, 110]⟩).e = 0) (HV : ∀ w1 : World, RdM w1 r T (o + 1) (dEnter T o s ⟨#[115, 112, 97, 119, 110]⟩) → Calls Tryd.prog 71 #[.pointer (some ⟨r, 0, none⟩)] w1 (DG w1 r T (o + 1) ((28, v1, v2, v3, v4) :: t) s1)) (ho : 0 ≤ o) (e : s1.e = 0) (hl : t.length < 1000000) (hr : RdM w r T o s) : Calls Tryd.prog 97 #[.pointer (some ⟨r, 0, none⟩), nodeV n] w (DG w r T o ((32, v1, v2, v3, n.2.2.2.2) :: t) s1) := by
  obtain ⟨n0, n1, n2, n3, n4⟩ := n
  simp only [nodeV] at *
  obtain ⟨u, hu⟩ : ∃ u, strOfNums n2 = u := ⟨_, rfl⟩
  rw [hu]
  have HU := hid hu
  have R := hid hr
  have hrl := hr.lt
  have K := hid (Kp.refl r w)
  have i0 := hid i0
  have i1 := hid i1
  have i2 := hid i2
  have i3 := hid i3
  have i4 := hid i4
  have i5 := hid i5
  have i6 := hid i6
  have y := hid y
  have HEN := hid (fun w1 (hw : RdM w1 r T o s) => denter_any ⟨#[115, 112, 97, 119, 110]⟩ hw)
  generalize dEnter T o s ⟨#[115, 112, 97, 119, 110]⟩ = A at *
  have e1 : (A.e != 0) = false := by simpa using e0
  have HV := hid HV
  clear e0
  have HOW := hid (fun (_ : s1.e = 0) => ho)
  have HLT := hid hl
  have e2 : (s1.e == 0) = true := by simpa using e
  have e3 : (s1.e != 0) = false := by simpa using e
  clear e ho hl
  clear hr hu
  unfold DG at *
  go_enter Tryd.func97, Tryd.ntmps97
  go_wp2_with (first
    | (go_at_call 47; (fail_if_success (have _g := m0)); have m0 := hid trivial; refine (eat_no ⟨#[116, 114, 117, 101]⟩ (R.out.bw bq) i0.out).mono ?_; rintro e w1 ⟨rfl, hr1, hk1⟩; have K := hid (show Kp r w w1 from Kp.trans (Kp.of_bw bq) hk1); have R := hid hr1; have P := hid (show Blk w1 w.heap.size #[.int .i64 n0, .int .i64 n1, .string u, .int .i64 n3, .int .i64 n4] 43 from (Blk.new w _ _).kp hk1 (by omega)); have ul := P.out.lt; have uc := P.out.cell; have uf := P.out.free; have ur : r < w1.heap.size := R.out.lt; clear hr1 hk1)
    | (go_at_call 47; have _g := m0; clear _g; (fail_if_success (have _g := m1)); have m1 := hid trivial; refine (eat_no ⟨#[102, 97, 108, 115, 101]⟩ (R.out.bw bq) i1.out).mono ?_; clear ul uc uf ur; rintro e w1 ⟨rfl, hr1, hk1⟩; have K := hid (show Kp r w w1 from K.out.trans (Kp.trans (Kp.of_bw bq) hk1)); have P := hid (show Blk w1 w.heap.size #[.int .i64 n0, .int .i64 n1, .string u, .int .i64 n3, .int .i64 n4] 43 from P.out.kp (Kp.trans (Kp.of_bw bq) hk1) (by omega)); have R := hid hr1; have ul := P.out.lt; have uc := P.out.cell; have uf := P.out.free; have ur : r < w1.heap.size := R.out.lt; clear hr1 hk1)
    | (go_at_call 47; have _g := m1; clear _g; (fail_if_success (have _g := m2)); have m2 := hid trivial; refine (eat_no ⟨#[110, 105, 108]⟩ (R.out.bw bq) i2.out).mono ?_; clear ul uc uf ur; rintro e w1 ⟨rfl, hr1, hk1⟩; have K := hid (show Kp r w w1 from K.out.trans (Kp.trans (Kp.of_bw bq) hk1)); have P := hid (show Blk w1 w.heap.size #[.int .i64 n0, .int .i64 n1, .string u, .int .i64 n3, .int .i64 n4] 43 from P.out.kp (Kp.trans (Kp.of_bw bq) hk1) (by omega)); have R := hid hr1; have ul := P.out.lt; have uc := P.out.cell; have uf := P.out.free; have ur : r < w1.heap.size := R.out.lt; clear hr1 hk1)
    | (go_at_call 47; have _g := m2; clear _g; (fail_if_success (have _g := m3)); have m3 := hid trivial; refine (eat_no ⟨#[102, 110]⟩ (R.out.bw bq) i3.out).mono ?_; clear ul uc uf ur; rintro e w1 ⟨rfl, hr1, hk1⟩; have K := hid (show Kp r w w1 from K.out.trans (Kp.trans (Kp.of_bw bq) hk1)); have P := hid (show Blk w1 w.heap.size #[.int .i64 n0, .int .i64 n1, .string u, .int .i64 n3, .int .i64 n4] 43 from P.out.kp (Kp.trans (Kp.of_bw bq) hk1) (by omega)); have R := hid hr1; have ul := P.out.lt; have uc := P.out.cell; have uf := P.out.free; have ur : r < w1.heap.size := R.out.lt; clear hr1 hk1)
    | (go_at_call 42; have _g := m3; clear _g; (fail_if_success (have _g := m4)); have m4 := hid trivial; refine (is_no ⟨#[40]⟩ (R.out.bw bq) i4.out).mono ?_; clear ul uc uf ur; rintro e w1 ⟨rfl, hr1, hk1⟩; have K := hid (show Kp r w w1 from K.out.trans (Kp.trans (Kp.of_bw bq) hk1)); have P := hid (show Blk w1 w.heap.size #[.int .i64 n0, .int .i64 n1, .string u, .int .i64 n3, .int .i64 n4] 43 from P.out.kp (Kp.trans (Kp.of_bw bq) hk1) (by omega)); have R := hid hr1; have ul := P.out.lt; have uc := P.out.cell; have uf := P.out.free; have ur : r < w1.heap.size := R.out.lt; clear hr1 hk1)
    | (go_at_call 42; have _g := m4; clear _g; (fail_if_success (have _g := m5)); have m5 := hid trivial; refine (is_no ⟨#[91]⟩ (R.out.bw bq) i5.out).mono ?_; clear ul uc uf ur; rintro e w1 ⟨rfl, hr1, hk1⟩; have K := hid (show Kp r w w1 from K.out.trans (Kp.trans (Kp.of_bw bq) hk1)); have P := hid (show Blk w1 w.heap.size #[.int .i64 n0, .int .i64 n1, .string u, .int .i64 n3, .int .i64 n4] 43 from P.out.kp (Kp.trans (Kp.of_bw bq) hk1) (by omega)); have R := hid hr1; have ul := P.out.lt; have uc := P.out.cell; have uf := P.out.free; have ur : r < w1.heap.size := R.out.lt; clear hr1 hk1)
    | (go_at_call 42; have _g := m5; clear _g; (fail_if_success (have _g := m6)); have m6 := hid trivial; refine (is_no ⟨#[123]⟩ (R.out.bw bq) i6.out).mono ?_; clear ul uc uf ur; rintro e w1 ⟨rfl, hr1, hk1⟩; have K := hid (show Kp r w w1 from K.out.trans (Kp.trans (Kp.of_bw bq) hk1)); have P := hid (show Blk w1 w.heap.size #[.int .i64 n0, .int .i64 n1, .string u, .int .i64 n3, .int .i64 n4] 43 from P.out.kp (Kp.trans (Kp.of_bw bq) hk1) (by omega)); have R := hid hr1; have ul := P.out.lt; have uc := P.out.cell; have uf := P.out.free; have ur : r < w1.heap.size := R.out.lt; clear hr1 hk1)
    | (go_at_call 42; have _g := m6; clear _g; (fail_if_success (have _g := m7)); have m7 := hid trivial; refine (is_yes ⟨#[115, 112, 97, 119, 110]⟩ (R.out.bw bq) y.out).mono ?_; clear ul uc uf ur; rintro e w1 ⟨rfl, hr1, hk1⟩; have K := hid (show Kp r w w1 from K.out.trans (Kp.trans (Kp.of_bw bq) hk1)); have P := hid (show Blk w1 w.heap.size #[.int .i64 n0, .int .i64 n1, .string u, .int .i64 n3, .int .i64 n4] 43 from P.out.kp (Kp.trans (Kp.of_bw bq) hk1) (by omega)); have R := hid hr1; have ul := P.out.lt; have uc := P.out.cell; have uf := P.out.free; have ur : r < w1.heap.size := R.out.lt; clear hr1 hk1)
    | (go_at_call 68; refine (HEN.out _ (R.out.bw bq)).mono ?_; clear ul uc uf ur; rintro e w2 ⟨rfl, hr2, hk2⟩; have P := hid (show Blk w2 w.heap.size #[.int .i64 n0, .int .i64 n1, .string u, .int .i64 n3, .int .i64 n4] 43 from P.out.kp (Kp.trans (Kp.of_bw bq) hk2) (by omega)); have K := hid (show Kp r w w2 from K.out.trans (Kp.trans (Kp.of_bw bq) hk2)); (obtain ⟨gq, cq, qq, xq⟩ := hr2.x); have z3 : w2.cell? ⟨r, 3, none⟩ = some (.int .i64 A.e) := xq.b.cell 3; have zl2 : r < w2.heap.size := xq.b.lt; have R := hid hr2; clear hr2 hk2 xq)
    | (go_at_call 71; refine (HV.out _ (R.out.bw bq)).mono ?_; clear z3 zl2; rintro e w3 ⟨a3, c3, rfl, hn3, hr3, hk3, hl3⟩; have uw := P.out.lt; have N := hid (hn3.low (b' := w.heap.size) (Nat.le_trans K.out.size (by first | (simp; done) | exact Nat.le_refl _))); have P := hid (show Blk w3 w.heap.size #[.int .i64 n0, .int .i64 n1, .string u, .int .i64 n3, .int .i64 n4] 43 from P.out.kp (Kp.trans (Kp.of_bw bq) hk3) (by omega)); have K := hid (show Kp r w w3 from K.out.trans (Kp.trans (Kp.of_bw bq) hk3)); have L := hid hl3; (obtain ⟨gq, cq, qq, xq⟩ := hr3.x); have x3 : w3.cell? ⟨r, 3, none⟩ = some (.int .i64 s1.e) := xq.b.cell 3; have R := hid hr3; have ur : r < w3.heap.size := xq.b.lt; (obtain ⟨q6, z0, z1, z2, HQ6⟩ := RdM.off hr3 HOW.out); have Q := hid HQ6; clear HQ6; (obtain ⟨g3, e3, gb3, gl3, gp3, y0, y4, yf0, yf4⟩ := hn3.head (by simp)); subst e3; (obtain ⟨cur, hB, hB0, hB1⟩ := N.out.own); have CB := hid hB; have CN := hid hB1; clear hB hB1; have gr : g3 ≠ r := (by omega); have gw : g3 ≠ w.heap.size := (by omega); have ul := P.out.lt; have uc := P.out.cell; have uf := P.out.free; clear hn3 hr3 hk3 hl3 xq)
    | fail)
  go_region
  all_goals go_wp2
  all_goals go_ret
  all_goals
    have q1 := CB.out.other (p := ⟨r, 2, none⟩) (show r ≠ g3 from fun k => gr k.symm) (.int .i64 (wrap64 (q6 - 1)))
    have q2 := q1.set 0 (.int .i64 32)
    have q3 := q2.set 4 (.int .i64 n4)
    exact ⟨_, _, rfl, CN.out _ 32 n4 q3.drh, RdM.bw ((Q.out.setO q1 0 _).setO q2 4 _) (by repeat (first | exact Bw.refl _ | apply Bw.drew)), Kp.bw (((K.out.set 2 _).setNew (by omega) 0 _).setNew (by omega) 4 _) (by repeat (first | exact Bw.refl _ | apply Bw.drew)), HLT.out⟩

end

end Go.Proofs.YtdhkcdehedbpcaaDoor

set_option linter.unusedSimpArgs false
set_option linter.unusedVariables false
namespace Go.Proofs.YtdhkcdehedbpcaaDoor
open Go Go.RowKit

section
variable {w w' : World} {r f : Nat} {T : List ATok} {o : Int} {s s' : DS} {l : List ANode} {k : Int}

set_option maxRecDepth 100000 in
set_option maxHeartbeats 8000000 in
theorem about_step (hc : ∀ g, g ≤ f → Con T r g) (n : ANode) (h : dR T (f + 1) (.about n) o s = some (l, k, s')) (hr : RdM w r T o s) : Calls Tryd.prog 97 #[.pointer (some ⟨r, 0, none⟩), nodeV n] w (DG w r T o l s') := by
  have hf := hc f (Nat.le_refl _)
  unfold dR at h
  rcases ite_some h with ⟨y, h⟩ | ⟨y0, h⟩
  · obtain ⟨rfl, rfl, hlen⟩ := rete3 h
    exact about_true n  y hr
  have i0 : dIs T s ⟨#[116, 114, 117, 101]⟩ = false := by simpa using y0
  clear y0
  rcases ite_some h with ⟨y, h⟩ | ⟨y1, h⟩
  · obtain ⟨rfl, rfl, hlen⟩ := rete3 h
    exact about_false n i0 y hr
  have i1 : dIs T s ⟨#[102, 97, 108, 115, 101]⟩ = false := by simpa using y1
  clear y1
  rcases ite_some h with ⟨y, h⟩ | ⟨y2, h⟩
  · obtain ⟨rfl, rfl, hlen⟩ := rete3 h
    exact about_nil n i0 i1 y hr
  have i2 : dIs T s ⟨#[110, 105, 108]⟩ = false := by simpa using y2
  clear y2
  rcases ite_some h with ⟨y, h⟩ | ⟨y3, h⟩
  · exact about_fn n i0 i1 i2 y (fun w1 hw => hf.func (31, n.2) h hw) hr
  have i3 : dIs T s ⟨#[102, 110]⟩ = false := by simpa using y3
  clear y3
  rcases ite_some h with ⟨y, h⟩ | ⟨y4, h⟩
  · obtain ⟨⟨l1, k1, s1⟩, h1, h2⟩ := bnd h
    obtain ⟨rfl, rfl, hlen⟩ := rete3 h2
    exact about_par n i0 i1 i2 i3 y (fun w1 hw => hf.expr 0 h1 hw) (fun e => (hr.o (((fs_enter (T := T) o s ⟨#[40]⟩).2 ((dR_goes _ _ _ _ _ _ _ h1).fw.2 ((fs_want (T := T) s1 ⟨#[41]⟩).fw.2 e))).1)).1) hr
  have i4 : dIs T s ⟨#[40]⟩ = false := by simpa using y4
  clear y4
  rcases ite_some h with ⟨y, h⟩ | ⟨y5, h⟩
  · exact about_row n i0 i1 i2 i3 i4 y (fun w1 hw => hf.several n false h hw) hr
  have i5 : dIs T s ⟨#[91]⟩ = false := by simpa using y5
  clear y5
  rcases ite_some h with ⟨y, h⟩ | ⟨y6, h⟩
  · exact about_rec n i0 i1 i2 i3 i4 i5 y (fun w1 hw => hf.several n true h hw) hr
  have i6 : dIs T s ⟨#[123]⟩ = false := by simpa using y6
  clear y6
  rcases ite_some h with ⟨y, h⟩ | ⟨y7, h⟩
  · rcases ite_some h with ⟨e, h⟩ | ⟨e, h⟩
    · obtain ⟨rfl, rfl, hlen⟩ := rete3 h
      exact about_spA n i0 i1 i2 i3 i4 i5 i6 y e hr
    have e0 : (dEnter T o s ⟨#[115, 112, 97, 119, 110]⟩).e = 0 := by simpa using e
    have ho := (hr.o ((fs_enter (T := T) o s ⟨#[115, 112, 97, 119, 110]⟩).2 e0).1).1
    obtain ⟨⟨x, k1, s1⟩, h1, h2⟩ := bnd h
    have HV := fun w1 (hw : RdM w1 r T (o + 1) (dEnter T o s ⟨#[115, 112, 97, 119, 110]⟩)) => hf.thing h1 hw
    have hne := fun e => (dR_goes _ _ _ _ _ _ _ h1).ne rfl e
    simp only at h2
    by_cases hs : s1.e = 0
    · by_cases hk : dKd0 x = 28
      · rw [if_neg (show ¬ (s1.e = 0 ∧ dKd0 x ≠ 28) from fun a => a.2 hk)] at h2
        rcases ite_some h2 with ⟨e2, h2⟩ | ⟨e2, h2⟩
        · exact absurd hs e2
        obtain ⟨rfl, rfl, hlen⟩ := rete3 h2
        cases x with
        | nil => exact absurd rfl (hne hs)
        | cons m t =>
          obtain ⟨v0, v1, v2, v3, v4⟩ := m
          have v0e : v0 = 28 := hk
          subst v0e
          exact about_spD n i0 i1 i2 i3 i4 i5 i6 y e0 HV ho hs (show t.length < 1000000 from hlen) hr
      · rw [if_pos (show s1.e = 0 ∧ dKd0 x ≠ 28 from ⟨hs, hk⟩)] at h2
        have e2 : (dBad T s1 6).e ≠ 0 := by unfold dBad; rw [if_pos hs]; exact (by decide : (6 : Int) ≠ 0)
        rw [if_pos e2] at h2
        obtain ⟨rfl, rfl, hlen⟩ := rete3 h2
        exact about_spC n i0 i1 i2 i3 i4 i5 i6 y e0 HV ho hs (hne hs) hk hr
    · rw [if_neg (show ¬ (s1.e = 0 ∧ dKd0 x ≠ 28) from fun a => hs a.1), if_pos hs] at h2
      obtain ⟨rfl, rfl, hlen⟩ := rete3 h2
      exact about_spB n i0 i1 i2 i3 i4 i5 i6 y e0 HV ho hs hr
  have i7 : dIs T s ⟨#[115, 112, 97, 119, 110]⟩ = false := by simpa using y7
  obtain ⟨rfl, rfl, hlen⟩ := rete3 h
  exact about_bad n i0 i1 i2 i3 i4 i5 i6 i7 hr

end

end Go.Proofs.YtdhkcdehedbpcaaDoor

