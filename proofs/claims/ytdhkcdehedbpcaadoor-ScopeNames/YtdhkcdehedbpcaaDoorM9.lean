/- The document's reader: bad, want, enter, name: contracts. · The document's lists of nodes: join, both, level: contracts. · The document's parser: what its functions promise at so many steps; block. -/
import Derived.Test.YtdhkcdehedbpcaaDoorM8
set_option linter.unusedSimpArgs false
set_option linter.unusedVariables false
namespace Go.Proofs.YtdhkcdehedbpcaaDoor
open Go Go.RowKit

section
variable {w w' : World} {r : Nat} {T : List ATok} {o : Int} {s : DS}

theorem dBad_ne (s : DS) {x : Int} (hx : x ≠ 0) : (dBad T s x).e ≠ 0 := by
 unfold dBad
 split
 ·exact hx
 ·assumption
theorem RdM.bad (h : RdM w r T o s) (o' : Int) {x : Int} (hx : x ≠ 0) : RdM ((w.setCell ⟨r, 3, none⟩ (.int .i64 x)).setCell ⟨r, 4, none⟩ (.int .i64 (dAt T s))) r T o' ⟨s.i, x, dAt T s⟩ := by
 obtain ⟨g, c, q, y⟩ := h.x
 refine h.kp (((Kp.refl r w).set 3 _).set 4 _) (vt := .slice (some ⟨g, 0, none⟩) T.length c) (q := q) ?_ y.t h.i (fun e => absurd e hx)
 exact (y.b.set 3 _).set 4 _
theorem RdM.other (h : RdM w r T o s) (he : s.e ≠ 0) (o' : Int) : RdM w r T o' s := by
 obtain ⟨vt, q, h1, h2, h3⟩ := h.b
 exact ⟨⟨vt, q, h1, h2, fun e => absurd e he⟩, h.i, fun e => absurd e he, h.n⟩

set_option maxRecDepth 100000 in
set_option maxHeartbeats 4000000 in
theorem dbad_any (x : Int) (hx : x ≠ 0) (h : RdM w r T o s) : Calls Tryd.prog 69 #[.pointer (some ⟨r, 0, none⟩), .int .i64 x] w fun e w' => e = .returned (.tuple #[]) ∧ RG w r T o (dBad T s x) w' := by
 have HR := hid h
 have HX := hid hx
 obtain ⟨g, c, q, y⟩ := h.x
 have z := y.b.cell
 have zf := y.b.free
 have zl := y.b.lt
 have gl := y.gl
 have gn := y.ne
 have c3 := y.c3 s.i h.i
 have l1 := y.l
 have hi1 : (0 : Int) ≤ (s.i : Int) := by omega
 have hi2 : (s.i : Int) < (T.length : Int) := by have := h.i; omega
 unfold dBad
 by_cases he : s.e = 0
 ·rw [if_pos he]
  have HB := hid (fun w1 (hw : Bw w w1) => (HR.out.bw hw).bad o HX.out)
  have e1 : (s.e == 0) = true := by simpa using he
  unfold dAt at HB ⊢
  clear h y he hx
  generalize hk : dtk T s.i = k at c3 HB ⊢
  clear hk
  go_enter Tryd.func69, Tryd.ntmps69
  go_upto_region 1 with fail
  go_region
  all_goals go_wp2
  all_goals go_end0
  all_goals exact ⟨rfl, by first | exact HB.out _ (Bw.refl _) | exact RdM.bw (HB.out _ (Bw.refl _)) (Bw.drew (Bw.refl _)), by repeat (first | exact Kp.refl _ _ | apply Kp.set | apply Kp.drew | apply Kp.drewN)⟩
 ·rw [if_neg he]
  have e1 : (s.e == 0) = false := by simpa using he
  clear h y he hx
  go_enter Tryd.func69, Tryd.ntmps69
  go_wp2
  all_goals go_end0
  all_goals exact ⟨rfl, HR.out, Kp.refl _ _⟩

set_option maxRecDepth 100000 in
set_option maxHeartbeats 4000000 in
theorem dwant_any (t : ByteArray) (h : RdM w r T o s) : Calls Tryd.prog 48 #[.pointer (some ⟨r, 0, none⟩), .string t] w fun e w' => e = .returned (.tuple #[]) ∧ RG w r T o (dWant T s t) w' := by
 have HR := hid h
 obtain ⟨g, c, q, y⟩ := h.x
 have z : w.cell? ⟨r, 3, none⟩ = some (.int .i64 s.e) := y.b.cell 3
 have zl := y.b.lt
 unfold dWant
 by_cases he : s.e = 0
 ·rw [if_pos he]
  have e1 : (s.e == 0) = true := by simpa using he
  have HE := hid (deat_any t h)
  unfold dEat at HE
  cases hd : dIs T s t
  ·rw [hd, if_neg (by decide)] at HE
   rw [if_neg (by decide)]
   clear h y he hd
   go_enter Tryd.func48, Tryd.ntmps48
   go_wp2_with (first
    | (go_at_call 47; refine HE.out.mono ?_; rintro e w1 ⟨rfl, hr1, hk1⟩; have R1 := hid hr1; have K1 := hid hk1; clear hr1 hk1)
    | (go_at_call 69; refine (dbad_any 6 (by decide) R1.out).mono ?_; rintro e w2 ⟨rfl, hr2, hk2⟩; have R2 := hid hr2; have K2 := hid (K1.out.trans hk2); clear hr2 hk2)
    | fail)
   all_goals go_end0
   all_goals exact ⟨rfl, R2.out, K2.out⟩
  ·rw [hd, if_pos rfl] at HE
   rw [if_pos rfl]
   clear h y he hd
   go_enter Tryd.func48, Tryd.ntmps48
   go_wp2_with (first
    | (go_at_call 47; refine HE.out.mono ?_; rintro e w1 ⟨rfl, hr1, hk1⟩; have R1 := hid hr1; have K1 := hid hk1; clear hr1 hk1)
    | fail)
   all_goals go_end0
   all_goals exact ⟨rfl, R1.out, K1.out⟩
 ·rw [if_neg he]
  have e1 : (s.e == 0) = false := by simpa using he
  clear h y he
  go_enter Tryd.func48, Tryd.ntmps48
  go_wp2
  all_goals go_end0
  all_goals exact ⟨rfl, HR.out, Kp.refl _ _⟩

theorem RdM.in (h : RdM w r T o s) (he : s.e = 0) (hk : (dtk T s.i).1 ≠ 0) (ho : o ≠ 64) : RdM ((w.setCell ⟨r, 2, none⟩ (.int .i64 (o + 1))).setCell ⟨r, 1, none⟩ (.int .i64 ((s.i + 1 : Nat) : Int))) r T (o + 1) (dNx s) := by
 obtain ⟨g, c, q, x⟩ := h.x
 have hob := h.o he
 refine h.kp (((Kp.refl r w).set 2 _).set 1 _) (vt := .slice (some ⟨g, 0, none⟩) T.length c) (q := o + 1) ?_ x.t (h.n s.i h.i hk) (fun _ => ⟨rfl, by omega, by omega⟩)
 exact (x.b.set 2 _).set 1 _

set_option maxRecDepth 100000 in
set_option maxHeartbeats 4000000 in
theorem denter_any (t : ByteArray) (h : RdM w r T o s) : Calls Tryd.prog 68 #[.pointer (some ⟨r, 0, none⟩), .string t] w fun e w' => e = .returned (.tuple #[]) ∧ RG w r T (o + 1) (dEnter T o s t) w' := by
 have HR := hid h
 obtain ⟨g, c, q, y⟩ := h.x
 have z : w.cell? ⟨r, 3, none⟩ = some (.int .i64 s.e) := y.b.cell 3
 have zl := y.b.lt
 have HI := hid (dis_any t h)
 have hi2 : (s.i : Int) ≤ 100000 := by have := h.i; have := y.l; omega
 unfold dEnter
 by_cases he : s.e = 0
 ·rw [if_pos he]
  have e1 : (s.e != 0) = false := by simpa using he
  have hob := h.o he
  have hqo := y.q he
  cases hd : dIs T s t
  ·rw [hd] at HI
   rw [if_neg (by decide)]
   clear h y hd he
   go_enter Tryd.func68, Tryd.ntmps68
   go_wp2_with (first
    | (go_at_call 42; refine HI.out.mono ?_; rintro e w1 ⟨rfl, hb1⟩; have B1 := hid hb1; have R1 := hid (HR.out.bw hb1); clear hb1)
    | (go_at_call 69; refine (dbad_any 6 (by decide) R1.out).mono ?_; rintro e w2 ⟨rfl, hr2, hk2⟩; have R2 := hid hr2; have K2 := hid ((Kp.of_bw B1.out).trans hk2); clear hr2 hk2)
    | fail)
   all_goals refine bodyPost_ret (v := .tuple #[]) (by simp [results, Tryd.results68, go_sem]) rfl ?_
   all_goals refine ⟨rfl, R2.out.other ?_ _, K2.out⟩
   all_goals exact dBad_ne _ (by decide)
  ·rw [hd] at HI
   rw [if_pos rfl]
   have HN := hid (dIs_ne hd)
   by_cases ho : o = 64
   ·rw [if_pos ho]
    have o1 : (q == 64) = true := by rw [hqo]; simpa using ho
    have HZ := hid (fun w1 (hw : Bw w w1) => show w1.cell? ⟨r, 2, none⟩ = some (.int .i64 q) from (y.b.bw hw).cell 2)
    clear h y hd he ho hob hqo
    go_enter Tryd.func68, Tryd.ntmps68
    go_wp2_with (first
     | (go_at_call 42; refine HI.out.mono ?_; rintro e w1 ⟨rfl, hb1⟩; have B1 := hid hb1; have R1 := hid (HR.out.bw hb1); have z2 := HZ.out w1 hb1; have z3 : r < w1.heap.size := R1.out.lt; clear hb1)
     | (go_at_call 69; refine (dbad_any 3 (by decide) R1.out).mono ?_; rintro e w2 ⟨rfl, hr2, hk2⟩; have R2 := hid hr2; have K2 := hid ((Kp.of_bw B1.out).trans hk2); clear hr2 hk2)
     | fail)
    all_goals refine bodyPost_ret (v := .tuple #[]) (by simp [results, Tryd.results68, go_sem]) rfl ?_
    all_goals refine ⟨rfl, R2.out.other ?_ _, K2.out⟩
    all_goals exact dBad_ne _ (by decide)
   ·rw [if_neg ho]
    subst hqo
    have o1 : (q == 64) = false := by simpa using ho
    have HZ := hid (fun w1 (hw : Bw w w1) => show Blk w1 r _ 68 from y.b.bw hw)
    have HO := hid ho
    clear h y hd he ho
    go_enter Tryd.func68, Tryd.ntmps68
    go_wp2_with (first
     | (go_at_call 42; refine HI.out.mono ?_; rintro e w1 ⟨rfl, hb1⟩; have B1 := hid hb1; have R1 := hid (HR.out.bw hb1); have z2 := (HZ.out w1 hb1).cell; have z4 := (HZ.out w1 hb1).free; have z3 : r < w1.heap.size := R1.out.lt; clear hb1)
     | fail)
    all_goals go_end0
    all_goals exact ⟨rfl, R1.out.in HN.out.1 HN.out.2 HO.out, ((Kp.of_bw B1.out).set 2 _).set 1 _⟩
 ·rw [if_neg he]
  have e1 : (s.e != 0) = true := by simpa using he
  have HE := hid he
  clear h y he
  go_enter Tryd.func68, Tryd.ntmps68
  go_wp2
  all_goals refine bodyPost_ret (v := .tuple #[]) (by simp [results, Tryd.results68, go_sem]) rfl ?_
  all_goals exact ⟨rfl, HR.out.other HE.out _, Kp.refl _ _⟩

set_option maxRecDepth 100000 in
set_option maxHeartbeats 4000000 in
theorem dname_any (h : RdM w r T o s) : Calls Tryd.prog 45 #[.pointer (some ⟨r, 0, none⟩)] w fun e w' => e = .returned (.string (strOfNums (dNameT T s))) ∧ RG w r T o (dNameS T s) w' := by
 have HR := hid h
 obtain ⟨g, c, q, x⟩ := h.x
 have z := x.b.cell
 have zf := x.b.free
 have zl := x.b.lt
 have gl := x.gl
 have gn := x.ne
 have c0 := x.c0 s.i h.i
 have c1 := x.c1 s.i h.i
 have c2 := x.c2 s.i h.i
 have c3 := x.c3 s.i h.i
 have l1 := x.l
 have hi1 : (0 : Int) ≤ (s.i : Int) := by omega
 have hi2 : (s.i : Int) < (T.length : Int) := by have := h.i; omega
 unfold dNameT dNameS
 by_cases hc : s.e = 0 ∧ (dtk T s.i).1 = 1
 ·rw [if_pos hc, if_pos hc]
  have e1 : (s.e != 0) = false := by simpa using hc.1
  have HN := hid (fun w1 (hw : Bw w w1) => (HR.out.bw hw).nx hc.1 (by rw [hc.2]; decide))
  have k1 : ((dtk T s.i).1 != 1) = false := by simpa using hc.2
  clear h x hc
  generalize hk : dtk T s.i = k at c0 c1 c2 c3 k1 ⊢
  clear hk
  obtain ⟨k0, k1', k2, k3⟩ := k
  simp only at c0 c1 c2 c3 k1 ⊢
  generalize strOfNums k1' = u at c1 ⊢
  go_enter Tryd.func45, Tryd.ntmps45
  go_upto_region 1 with fail
  go_region
  all_goals go_wp2
  all_goals go_ret
  all_goals refine ⟨rfl, ?_, by repeat (first | exact Kp.refl _ _ | apply Kp.set | apply Kp.alloc | apply Kp.drew | apply Kp.drewN)⟩
  all_goals first
   | exact HN.out _ bq
   | exact RdM.bw (HN.out w (Bw.refl _)) bq
 ·rw [if_neg hc, if_neg hc]
  have HB := hid (fun w1 (hw : Bw w w1) => dbad_any (w := w1) 6 (by decide) (HR.out.bw hw))
  by_cases he : s.e = 0
  ·have e1 : (s.e != 0) = false := by simpa using he
   have k1 : ((dtk T s.i).1 != 1) = true := by simpa using (fun h => hc ⟨he, h⟩)
   clear h x hc he
   generalize hD : dBad T s 6 = D at HB ⊢
   clear hD
   generalize hk : dtk T s.i = k at c0 c1 c2 c3 k1
   clear hk
   obtain ⟨k0, k1', k2, k3⟩ := k
   simp only at c0 c1 c2 c3 k1
   generalize strOfNums k1' = u at c1
   go_enter Tryd.func45, Tryd.ntmps45
   go_upto_region 1 with fail
   go_region
   all_goals go_wp2_with (first
    | (go_at_call 69; refine (HB.out _ bq).mono ?_; rintro e w2 ⟨rfl, hr2, hk2⟩; have R2 := hid hr2; have K2 := hid (show Kp r w w2 from Kp.trans (Kp.of_bw bq) hk2); clear hr2 hk2)
    | fail)
   all_goals go_ret
   all_goals exact ⟨rfl, R2.out, K2.out⟩
  ·have e1 : (s.e != 0) = true := by simpa using he
   clear h x hc he
   generalize hD : dBad T s 6 = D at HB ⊢
   clear hD
   generalize hk : dtk T s.i = k at c0 c1 c2 c3
   clear hk
   obtain ⟨k0, k1', k2, k3⟩ := k
   simp only at c0 c1 c2 c3
   generalize strOfNums k1' = u at c1
   go_enter Tryd.func45, Tryd.ntmps45
   go_upto_region 1 with fail
   go_region
   all_goals go_wp2_with (first
    | (go_at_call 69; refine (HB.out _ bq).mono ?_; rintro e w2 ⟨rfl, hr2, hk2⟩; have R2 := hid hr2; have K2 := hid (show Kp r w w2 from Kp.trans (Kp.of_bw bq) hk2); clear hr2 hk2)
    | fail)
   all_goals go_ret
   all_goals exact ⟨rfl, R2.out, K2.out⟩

end

end Go.Proofs.YtdhkcdehedbpcaaDoor

namespace Go.Proofs.YtdhkcdehedbpcaaDoor
open Go Go.RowKit

theorem infoN8 : (Tryd.prog.info? 43).map (fun i => (i.zero, i.size, i.bytes)) = some (some (.agg #[.int .i64 0, .int .i64 0, .string ⟨#[]⟩, .int .i64 0, .int .i64 0]), 5, 48) := by kernel_rfl
theorem undN8 : Tryd.prog.underlying 24 = some (.slice 43) := by kernel_rfl

def ndV (n : ANode) : List Value := [.int .i64 n.1, .int .i64 n.2.1, .string (strOfNums n.2.2.1), .int .i64 n.2.2.2.1, .int .i64 n.2.2.2.2]
abbrev nodeV (n : ANode) : Value := .agg #[.int .i64 n.1, .int .i64 n.2.1, .string (strOfNums n.2.2.1), .int .i64 n.2.2.2.1, .int .i64 n.2.2.2.2]
def Nd (w : World) (base : Nat) (v : Value) (l : List ANode) : Prop := w.ownsRow base 43 5 v l.length (l.flatMap ndV)
theorem nd_one (l : List ANode) : ∀ u ∈ l.flatMap ndV, u.oneCell' = true := by
 intro u hu
 obtain ⟨x, hx, hu⟩ := List.mem_flatMap.1 hu
 simp only [ndV, List.mem_cons, List.not_mem_nil, or_false] at hu
 rcases hu with rfl | rfl | rfl | rfl | rfl <;> rfl
theorem Nd.sl {w : World} {b : Nat} {v : Value} {l : List ANode} (h : Nd w b v l) : Sl w (fun _ => True) v l.length 5 (l.flatMap ndV) := own_sl h (fun _ _ => trivial)
theorem Nd.bw {w w' : World} {b : Nat} {v : Value} {l : List ANode} (h : Nd w b v l) (hb : Bw w w') : Nd w' b v l :=
 h.kept (row := none) ⟨hb.os, hb.tape, hb.output, hb.size, fun n hn _ => hb.block n hn⟩ (by cases v.ownBlock <;> simp)
theorem Nd.low {w : World} {b b' : Nat} {v : Value} {l : List ANode} (h : Nd w b v l) (hb : b' ≤ b) : Nd w b' v l := own_base h hb
theorem Nd.kp {w w' : World} {b r : Nat} {v : Value} {l : List ANode} (h : Nd w b v l) (k : Kp r w w') (hr : r < b) : Nd w' b v l := by
 refine h.kept (row := some r) ⟨k.os, k.tape, k.output, k.size, fun n hn hne => k.block n hn (fun e => hne (by rw [e]))⟩ ?_
 cases hv : v.ownBlock with
 | none => simp
 | some q => right; have := (h.lt q hv).1; intro e; cases e; omega
theorem Nd.nil (w : World) (b : Nat) : Nd w b (.slice none 0 0) [] := World.ownsRow_nil w b _ _
theorem Nd.form {w : World} {b : Nat} {v : Value} {l : List ANode} (h : Nd w b v l) : ∃ a c, v = .slice a l.length c := own_form h

section
variable {w w' : World}

set_option maxRecDepth 100000 in
set_option maxHeartbeats 4000000 in
theorem djoin_any (n : ANode) (k : Int) (v : Value) (l : List ANode) (hsl : Sl w (fun _ => True) v l.length 5 (l.flatMap ndV)) (hl : l.length ≤ 10000000) :
  Calls Tryd.prog 22 #[nodeV n, .int .i64 k, v] w fun e w' => ∃ a c, e = .returned (.slice a (l.length + 1) c) ∧ Nd w' w.heap.size (.slice a (l.length + 1) c) (dJoin n k l) ∧ Bw w w' := by
 obtain ⟨a, c, rfl⟩ := hsl.form
 have HS := hid hsl
 obtain ⟨i1, hi1, hz1, hs1, hy1⟩ := info_parts infoN8
 have I1 := hid (And.intro hi1 (And.intro hz1 (And.intro hs1 hy1)))
 have HJ := hid (show (dJoin n k l).flatMap ndV = [.int .i64 n.1, .int .i64 k, .string (strOfNums n.2.2.1), .int .i64 n.2.2.2.1, .int .i64 n.2.2.2.2] ++ l.flatMap ndV from rfl)
 have HJ2 := hid (show (dJoin n k l).length = l.length + 1 from rfl)
 generalize dJoin n k l = J at HJ HJ2 ⊢
 clear hi1 hz1 hs1 hy1 hsl
 obtain ⟨n0, n1, n2, n3, n4⟩ := n
 simp only [nodeV] at HJ ⊢
 generalize strOfNums n2 = u at HJ ⊢
 go_enter Tryd.func22, Tryd.ntmps22
 go_wp2_with (first
  | (at_builtin; refine wpList_append_sl (G := fun _ => True) _ rfl _ _ 24 rfl w.heap.size 43 i1 (.agg #[.int .i64 0, .int .i64 0, .string ⟨#[]⟩, .int .i64 0, .int .i64 0]) 5 48 undN8 I1.out.1 I1.out.2.1 I1.out.2.2.1 I1.out.2.2.2 rfl (by decide) (.slice (some ⟨w.heap.size + 1, 0, none⟩) 1 1) 1 [.int .i64 n0, .int .i64 k, .string u, .int .i64 n3, .int .i64 n4] rfl ?own (.slice a l.length c) l.length (l.flatMap ndV) rfl (HS.out.below (by repeat (first | exact Bw.refl _ | apply Bw.alloc | apply Bw.drewN | apply Bw.drew | (refine Bw.setCell ?_ (Nat.le_refl _) _)))) (nd_one _) (by unfold maxLen; omega) (by omega) (by simp) ?_)
  | fail)
 case own =>
  have h0 := World.ownsRow_lit (base := w.heap.size) (e := 43) (size := 5) (w.alloc (.cells #[.int .i64 n0, .int .i64 k, .string u, .int .i64 n3, .int .i64 n4] 43)) #[.int .i64 n0, .int .i64 k, .string u, .int .i64 n3, .int .i64 n4] 1 (by simp) (by decide) rfl
  simpa using h0
 intro v' w' how hgr
 obtain ⟨a', c', rfl⟩ := own_form how
 have hb : Bw w w' := Below.grown (show Bw w _ from bq) hgr (by simp) (fun q e => by cases e; simp)
 have HB := hid hb
 have HN := hid how
 rw [Nat.add_comm 1 l.length] at HN ⊢
 clear how hgr hb
 go_wp2
 go_ret
 refine ⟨_, _, rfl, ?_, HB.out⟩
 unfold Nd
 rw [HJ.out, HJ2.out]
 exact HN.out

set_option maxRecDepth 100000 in
set_option maxHeartbeats 4000000 in
theorem dboth_any (v x : Value) (l m : List ANode) (hsl : Sl w (fun _ => True) v l.length 5 (l.flatMap ndV)) (hsm : Sl w (fun _ => True) x m.length 5 (m.flatMap ndV)) (hl : l.length ≤ 10000000) (hm : m.length ≤ 10000000) :
  Calls Tryd.prog 50 #[v, x] w fun e w' => ∃ a c, e = .returned (.slice a (l ++ m).length c) ∧ Nd w' w.heap.size (.slice a (l ++ m).length c) (l ++ m) ∧ Bw w w' := by
 obtain ⟨a, c, rfl⟩ := hsl.form
 obtain ⟨a2, c2, rfl⟩ := hsm.form
 have HS := hid hsl
 have HM := hid hsm
 obtain ⟨i1, hi1, hz1, hs1, hy1⟩ := info_parts infoN8
 have I1 := hid (And.intro hi1 (And.intro hz1 (And.intro hs1 hy1)))
 have HJ := hid (show (l ++ m).flatMap ndV = l.flatMap ndV ++ m.flatMap ndV from List.flatMap_append)
 have HJ2 := hid (show (l ++ m).length = l.length + m.length from List.length_append)
 generalize l ++ m = J at HJ HJ2 ⊢
 clear hi1 hz1 hs1 hy1 hsl hsm
 go_enter Tryd.func50, Tryd.ntmps50
 go_wp2_with (first
  | (at_builtin; (fail_if_success (have _g := O1)); refine wpList_append_sl (G := fun _ => True) _ rfl _ _ 24 rfl w.heap.size 43 i1 (.agg #[.int .i64 0, .int .i64 0, .string ⟨#[]⟩, .int .i64 0, .int .i64 0]) 5 48 undN8 I1.out.1 I1.out.2.1 I1.out.2.2.1 I1.out.2.2.2 rfl (by decide) (.slice (some ⟨w.heap.size, 0, none⟩) 0 0) 0 [] rfl (own_empty _ _ _ _ _ rfl (Nat.le_refl _)) (.slice a l.length c) l.length (l.flatMap ndV) rfl (HS.out.below bq) (nd_one _) (by unfold maxLen; omega) (by omega) (by simp) ?_; intro v1 w1 ho1 hg1; simp only [Nat.zero_add, List.nil_append] at ho1; obtain ⟨a3, c3, rfl⟩ := own_form ho1; have B1 := hid (show Bw w w1 from Below.grown (show Bw w _ from bq) hg1 (by simp) (fun q e => by cases e; exact Nat.le_refl _)); have O1 := hid ho1; clear ho1 hg1)
  | (at_builtin; have _g := O1; clear _g; refine wpList_append_sl (G := fun _ => True) _ rfl _ _ 24 rfl w.heap.size 43 i1 (.agg #[.int .i64 0, .int .i64 0, .string ⟨#[]⟩, .int .i64 0, .int .i64 0]) 5 48 undN8 I1.out.1 I1.out.2.1 I1.out.2.2.1 I1.out.2.2.2 rfl (by decide) (.slice a3 l.length c3) l.length (l.flatMap ndV) rfl O1.out (.slice a2 m.length c2) m.length (m.flatMap ndV) rfl (HM.out.below B1.out) (nd_one _) (by unfold maxLen; omega) (by omega) (B1.out.size) ?_; intro v2 w2 ho2 hg2; obtain ⟨a4, c4, rfl⟩ := own_form ho2; have B2 := hid (bw_grown B1.out (Nat.le_refl _) O1.out hg2); have O2 := hid ho2; clear ho2 hg2)
  | fail)
 go_ret
 rw [HJ2.out]
 refine ⟨_, _, rfl, ?_, B2.out⟩
 unfold Nd
 rw [HJ.out, HJ2.out]
 exact O2.out

theorem dboth_as (J : List ANode) (v x : Value) (l m : List ANode) (hJ : l ++ m = J) (hsl : Sl w (fun _ => True) v l.length 5 (l.flatMap ndV)) (hsm : Sl w (fun _ => True) x m.length 5 (m.flatMap ndV)) (hl : l.length ≤ 10000000) (hm : m.length ≤ 10000000) :
  Calls Tryd.prog 50 #[v, x] w fun e w' => ∃ a c, e = .returned (.slice a J.length c) ∧ Nd w' w.heap.size (.slice a J.length c) J ∧ Bw w w' := by
 subst hJ
 exact dboth_any v x l m hsl hsm hl hm

end

end Go.Proofs.YtdhkcdehedbpcaaDoor

namespace Go.Proofs.YtdhkcdehedbpcaaDoor
open Go Go.RowKit

def DG (w : World) (r : Nat) (T : List ATok) (o : Int) (l : List ANode) (s' : DS) (e : Ending) (w' : World) : Prop := ∃ a c, e = .returned (.slice a l.length c) ∧ Nd w' w.heap.size (.slice a l.length c) l ∧ RdM w' r T o s' ∧ Kp r w w' ∧ l.length ≤ 1000000

structure Con (T : List ATok) (r f : Nat) : Prop where
 block : ∀ {w : World} {o : Int} {s s' : DS} {l : List ANode} {k : Int}, dR T f .block o s = some (l, k, s') → RdM w r T o s → Calls Tryd.prog 43 #[.pointer (some ⟨r, 0, none⟩)] w (DG w r T o l s')
 func : ∀ {w : World} {o : Int} {s s' : DS} {l : List ANode} {k : Int} (n : ANode), dR T f (.func n) o s = some (l, k, s') → RdM w r T o s → Calls Tryd.prog 46 #[.pointer (some ⟨r, 0, none⟩), nodeV n] w (DG w r T o l s')
 choice : ∀ {w : World} {o : Int} {s s' : DS} {l : List ANode} {k : Int}, dR T f .choice o s = some (l, k, s') → RdM w r T o s → Calls Tryd.prog 44 #[.pointer (some ⟨r, 0, none⟩)] w (DG w r T o l s')
 stmt : ∀ {w : World} {o : Int} {s s' : DS} {l : List ANode} {k : Int}, dR T f .stmt o s = some (l, k, s') → RdM w r T o s → Calls Tryd.prog 21 #[.pointer (some ⟨r, 0, none⟩)] w (DG w r T o l s')
 plain : ∀ {w : World} {o : Int} {s s' : DS} {l : List ANode} {k : Int}, dR T f .plain o s = some (l, k, s') → RdM w r T o s → Calls Tryd.prog 51 #[.pointer (some ⟨r, 0, none⟩)] w (DG w r T o l s')
 ahead : ∀ {w : World} {o : Int} {s s' : DS} {l : List ANode} {k : Int} (t : ByteArray) (kd lev : Int), dR T f (.ahead t kd lev) o s = some (l, k, s') → RdM w r T o s → Calls Tryd.prog 70 #[.pointer (some ⟨r, 0, none⟩), .string t, .int .i64 kd, .int .i64 lev] w (DG w r T o l s')
 expr : ∀ {w : World} {o : Int} {s s' : DS} {l : List ANode} {k : Int} (lev : Int), dR T f (.expr lev) o s = some (l, k, s') → RdM w r T o s → Calls Tryd.prog 49 #[.pointer (some ⟨r, 0, none⟩), .int .i64 lev] w (DG w r T o l s')
 thing : ∀ {w : World} {o : Int} {s s' : DS} {l : List ANode} {k : Int}, dR T f .thing o s = some (l, k, s') → RdM w r T o s → Calls Tryd.prog 71 #[.pointer (some ⟨r, 0, none⟩)] w (DG w r T o l s')
 args : ∀ {w : World} {o : Int} {s s' : DS} {l : List ANode} {k : Int}, dR T f .args o s = some (l, k, s') → RdM w r T o s → Calls Tryd.prog 86 #[.pointer (some ⟨r, 0, none⟩)] w (fun e w' => ∃ a c, e = .returned (.tuple #[.slice a l.length c, .int .i64 k]) ∧ Nd w' w.heap.size (.slice a l.length c) l ∧ RdM w' r T o s' ∧ Kp r w w' ∧ l.length ≤ 1000000 ∧ 0 ≤ k ∧ k ≤ 1000000)
 prim : ∀ {w : World} {o : Int} {s s' : DS} {l : List ANode} {k : Int}, dR T f .prim o s = some (l, k, s') → RdM w r T o s → Calls Tryd.prog 85 #[.pointer (some ⟨r, 0, none⟩)] w (DG w r T o l s')
 about : ∀ {w : World} {o : Int} {s s' : DS} {l : List ANode} {k : Int} (n : ANode), dR T f (.about n) o s = some (l, k, s') → RdM w r T o s → Calls Tryd.prog 97 #[.pointer (some ⟨r, 0, none⟩), nodeV n] w (DG w r T o l s')
 several : ∀ {w : World} {o : Int} {s s' : DS} {l : List ANode} {k : Int} (n : ANode) (rc : Bool), dR T f (.several n rc) o s = some (l, k, s') → RdM w r T o s → Calls Tryd.prog 101 #[.pointer (some ⟨r, 0, none⟩), nodeV n, .string (if rc then ⟨#[123]⟩ else ⟨#[91]⟩), .string (if rc then ⟨#[125]⟩ else ⟨#[93]⟩)] w (DG w r T o l s')

def rdN (w : World) (r : Nat) : Nat := match w.cell? ⟨r, 1, none⟩ with | some (.int _ k) => k.toNat | _ => 0
def rdE (w : World) (r : Nat) : Int := match w.cell? ⟨r, 3, none⟩ with | some (.int _ k) => k | _ => 0
def rdL (n : Nat) (w : World) (r : Nat) : Nat := if rdE w r = 0 then n - rdN w r + 1 else 0
theorem RdM.left {w : World} {r : Nat} {T : List ATok} {o : Int} {s : DS} (h : RdM w r T o s) : rdL T.length w r = if s.e = 0 then T.length - s.i + 1 else 0 := by
 obtain ⟨vt, q, h1, _⟩ := h.b
 have c1 : w.cell? ⟨r, 1, none⟩ = some (.int .i64 s.i) := h1.cell 1
 have c3 : w.cell? ⟨r, 3, none⟩ = some (.int .i64 s.e) := h1.cell 3
 unfold rdL rdE rdN
 rw [c1, c3]
 simp
theorem left_lt {w w' : World} {r : Nat} {T : List ATok} {o o' : Int} {s s' : DS} (h : RdM w r T o s) (h' : RdM w' r T o' s') (he : s.e = 0) (hf : s'.e = 0 → s.i < s'.i) : rdL T.length w' r < rdL T.length w r := by
 rw [h.left, h'.left, if_pos he]
 have := h'.i
 split
 ·rename_i e; have := hf e; omega
 ·omega

theorem RdM.off {w : World} {r : Nat} {T : List ATok} {o : Int} {s : DS} (h : RdM w r T (o + 1) s) (ho : s.e = 0 → 0 ≤ o) : ∃ q, w.cell? ⟨r, 2, none⟩ = some (.int .i64 q) ∧ w.frozen? ⟨r, 2, none⟩ = false ∧ r < w.heap.size ∧ RdM (w.setCell ⟨r, 2, none⟩ (.int .i64 (wrap64 (q - 1)))) r T o s := by
 obtain ⟨g, c, q, x⟩ := h.x
 refine ⟨q, x.b.cell 2, x.b.free 2, x.b.lt, ?_⟩
 refine h.kp ((Kp.refl r w).set 2 _) (vt := .slice (some ⟨g, 0, none⟩) T.length c) (q := wrap64 (q - 1)) (x.b.set 2 _) x.t h.i (fun e => ?_)
 have h1 := x.q e
 have h2 := h.o e
 have h3 := ho e
 refine ⟨?_, h3, by omega⟩
 rw [h1, show o + 1 - 1 = o by omega]
 unfold wrap64
 omega

theorem blockL_inv {T : List ATok} {f : Nat} {l : List ANode} {k : Int} {o : Int} {s : DS} {x : List ANode × Int × DS} (h : dR T f (.blockL l k) o s = some x) : ∃ g, f = g + 1 ∧ l.length ≤ 1000000 ∧ 0 ≤ k ∧ k ≤ 1000000 ∧
  ((s.e = 0 ∧ dIs T s ⟨#[125]⟩ = false ∧ ∃ l1 k1 s1, dR T g .stmt o s = some (l1, k1, s1) ∧ dR T g (.blockL (l ++ l1) (k + 1)) o s1 = some x) ∨ (¬ (s.e = 0 ∧ dIs T s ⟨#[125]⟩ = false) ∧ x = (l, k, s))) := by
 cases f with
 | zero => cases h
 | succ g =>
  unfold dR at h
  obtain ⟨h, h1, h2, h3⟩ := gde h
  refine ⟨g, rfl, h1, h2, h3, ?_⟩
  rcases ite_some h with ⟨hi, h⟩ | ⟨hn, h⟩
  ·obtain ⟨⟨l1, k1, s1⟩, h4, h5⟩ := bnd h
   exact .inl ⟨hi.1, hi.2, l1, k1, s1, h4, h5⟩
  ·exact .inr ⟨hn, (Option.some.inj h).symm⟩

end Go.Proofs.YtdhkcdehedbpcaaDoor

