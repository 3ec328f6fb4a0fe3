/- The program's objects, written to: an entry, one more, one less: the contracts. -/
import Derived.Test.YtjcoifdfemejkaaGreatDoorM4
set_option linter.unusedSimpArgs false
set_option linter.unusedVariables false
namespace Go.Proofs.YtjcoifdfemejkaaGreatDoor
open Go Go.RowKit



theorem wpList_append_row {P : Program} (w : World) {ops : Array Oper} {rest : List Oper} {o : Oper} {a : Act} {Q : Exit → Act → World → Prop} (hgd : o.guard = none) (s x : Operand) (t : TypeId)
    (ho : o.op = Op.call { callee := Callee.builtin Builtin.append, args := #[s, x], argTypes := #[t, t] })
    (e : TypeId) (i : TypeInfo) (z : Value) (size bytes : Nat) (ht : P.underlying t = some (.slice e)) (hi : P.info? e = some i) (hz : i.zero = some z)
    (hsize : i.size = size) (hby : i.bytes = bytes) (hzs : z.cells.size = size) (hsz : 0 < size)
    (v : Value) (n : Nat) (xs : List Value) (hs : a.eval s = v) (hown : w.ownsRow 0 e size v n xs)
    (ad : Addr) (m c : Nat) (news : List Value) (hx : a.eval x = .slice (some ad) m c) (hl : news.length = m * size) (hnews : ∀ j u, news[j]? = some u → w.cell? (ad.add j) = some u) (h1 : ∀ u ∈ news, u.oneCell' = true)
    (h63 : n + m ≤ maxLen) (hbytes : (n + m) * bytes ≤ 140737488355328)
    (h : ∀ v' w', w'.ownsRow 0 e size v' (n + m) (xs ++ news) → w.grownBy w' v.ownBlock → (v'.ownBlock = v.ownBlock ∨ ∀ k, v'.ownBlock = some k → w.heap.size ≤ k) → wpList P ops Q rest (a.put o.dst v') w') : wpList P ops Q (o :: rest) a w := by
  refine wpList_plain hgd fun K hK => ?_
  obtain ⟨v', w', hr, h2, h3, h4⟩ := run_append_row (P := P) w t o.type e i z size bytes ht hi hz hsize hby hzs hsz v n xs hown ad m c news hl hnews h1 h63 hbytes
  unfold Oper.wp execOp
  simp only [ho, resolve, invoke, builtin, Sem.run_bind, Sem.run_pure, Result.andThen_ok, List.map_toArray, List.map_cons, List.map_nil, hs, hx, hr]
  exact hK _ _ (h v' w' h2 h3 h4)

set_option maxHeartbeats 4000000 in
theorem set_arg {b0 : Nat} {H : AHeap} {bs : List Nat} (v i x : Int) (hU : U v) (hUx : U x) (w : World) (hp : HS w b0 H bs) (hk : kk H v = 2 ∨ kk H v = 4) (hgx : gd H.2.length x = false) :
    Calls Tryz.prog 25 #[.pointer (some ⟨b0, 0, none⟩), .int .u64 v, .int .i64 i, .int .u64 x] w fun e w' => e = .returned (.int .i64 1) ∧ Ly w w' := by
  obtain ⟨vo, t, hph, rfl⟩ := hp
  have HP0 := hid hph
  have HP := hid (hph.bw ((Bw.refl w).alloc (.cells #[.int .i64 2, .int .i64 4] 3)))
  have hkr := kk_ref (H := H) (v := v) (by omega)
  have hg1 := (ob_get (H := H) hU hkr.2.1).1
  obtain ⟨g, cap, xb, xk, xl, rfl, hx, hl, hg, hkl, q0, q1, q2, q3, q4, q5, q6, hf⟩ := hph.obj hU (by omega)
  have HX := hid hx
  have HG1 := hid hg1
  have HS0 := hid (sl_new w [.int .i64 2, .int .i64 4] 3 2 rfl)
  have hoo := ob_ok (v := v) hph.ok hU hkr.2.1
  have hmo := hph.most
  have hto := hph.top
  have HKK0 := hid hkr.2.2
  clear hph hl hx hg1 hoo hkr q0 q1 q2 q3 q4 q5 q6
  go_enter Tryz.func25, Tryz.ntmps25
  go_wp2_with (first
    | (go_at_call 57; refine (find_yes (fun _ => True) _ hU _ [2, 4] _ HP.out HS0.out (by decide) (by decide) (by simp; omega)).mono ?_; rintro e w' ⟨g', cap', hvo, rfl, rfl⟩; cases hvo)
    | (go_at_call 71; refine (good_any _ hUx _ HP.out).mono ?_; rintro e w' ⟨rfl, rfl⟩))
  all_goals go_ret
  all_goals exact ⟨rfl, by repeat (first | exact Ly.refl _ | apply Ly.lay | apply Ly.alloc | apply Ly.drewN | apply Ly.drew)⟩

set_option maxHeartbeats 4000000 in
theorem set_range {b0 : Nat} {H : AHeap} {bs : List Nat} (v i x : Int) (hU : U v) (hUx : U x) (w : World) (hp : HS w b0 H bs) (hk : kk H v = 2 ∨ kk H v = 4) (hgx : gd H.2.length x = true) (hi : ¬ (0 ≤ i ∧ i < (ob H v).vals.length)) :
    Calls Tryz.prog 25 #[.pointer (some ⟨b0, 0, none⟩), .int .u64 v, .int .i64 i, .int .u64 x] w fun e w' => e = .returned (.int .i64 9) ∧ Ly w w' := by
  obtain ⟨vo, t, hph, rfl⟩ := hp
  have HP0 := hid hph
  have HP := hid (hph.bw ((Bw.refl w).alloc (.cells #[.int .i64 2, .int .i64 4] 3)))
  have hkr := kk_ref (H := H) (v := v) (by omega)
  have hg1 := (ob_get (H := H) hU hkr.2.1).1
  obtain ⟨g, cap, xb, xk, xl, rfl, hx, hl, hg, hkl, q0, q1, q2, q3, q4, q5, q6, hf⟩ := hph.obj hU (by omega)
  have HX := hid hx
  have HG1 := hid hg1
  have HS0 := hid (sl_new w [.int .i64 2, .int .i64 4] 3 2 rfl)
  have hoo := ob_ok (v := v) hph.ok hU hkr.2.1
  have hmo := hph.most
  have hto := hph.top
  have HKK0 := hid hkr.2.2
  obtain ⟨al, cl, rfl⟩ := own_form hl.2.2
  clear hph hl hx hg1 hoo hkr q0 q1 q2 q4 q5 q6
  generalize hob : ob H v = o at *
  have h01 : i < 0 ∨ (¬ i < 0 ∧ (o.vals.length : Int) ≤ i) := by omega
  clear hi
  rcases h01 with h0 | ⟨h0, h1⟩
  all_goals
    go_enter Tryz.func25, Tryz.ntmps25
    go_wp2_with (first
      | (go_at_call 57; refine (find_yes (fun _ => True) _ hU _ [2, 4] _ HP.out HS0.out (by decide) (by decide) (by simp; omega)).mono ?_; rintro e w' ⟨g', cap', hvo, rfl, rfl⟩; cases hvo)
      | (go_at_call 71; refine (good_any _ hUx _ HP.out).mono ?_; rintro e w' ⟨rfl, rfl⟩))
    all_goals go_ret
    all_goals exact ⟨rfl, by repeat (first | exact Ly.refl _ | apply Ly.lay | apply Ly.alloc | apply Ly.drewN | apply Ly.drew)⟩

set_option maxHeartbeats 4000000 in
theorem set_in {b0 : Nat} {H : AHeap} {bs : List Nat} (v i x : Int) (hU : U v) (hUx : U x) (w : World) (hp : HS w b0 H bs) (hk : kk H v = 2 ∨ kk H v = 4) (hgx : gd H.2.length x = true) (hi : 0 ≤ i ∧ i < (ob H v).vals.length) :
    Calls Tryz.prog 25 #[.pointer (some ⟨b0, 0, none⟩), .int .u64 v, .int .i64 i, .int .u64 x] w fun e w' => e = .returned (.int .i64 0) ∧ ∃ bs', HS w' b0 (H.1, H.2.set (idxV v).toNat (withVals (ob H v) ((ob H v).vals.set i.toNat x))) bs' ∧ Nx bs w w' bs' := by
  obtain ⟨j, rfl⟩ : ∃ j : Nat, i = j := ⟨i.toNat, by omega⟩
  have hjl : j < (ob H v).vals.length := by omega
  obtain ⟨vo, t, hph, rfl⟩ := hp
  have HP0 := hid hph
  have HP := hid (hph.bw ((Bw.refl w).alloc (.cells #[.int .i64 2, .int .i64 4] 3)))
  have hkr := kk_ref (H := H) (v := v) (by omega)
  have hg1 := (ob_get (H := H) hU hkr.2.1).1
  obtain ⟨g, cap, xb, xk, xl, rfl, hx, hl, hg, hkl, q0, q1, q2, q3, q4, q5, q6, hf⟩ := hph.obj hU (by omega)
  have HX := hid hx
  have HG1 := hid hg1
  have HS0 := hid (sl_new w [.int .i64 2, .int .i64 4] 3 2 rfl)
  have hoo := ob_ok (v := v) hph.ok hU hkr.2.1
  have hmo := hph.most
  have hto := hph.top
  have HKK0 := hid hkr.2.2
  obtain ⟨al, cl, rfl⟩ := own_form hl.2.2
  obtain ⟨bb, rfl, hbs, c1⟩ := own_at hl.2.2 hjl
  have c2 : w.cell? ⟨bb, j, none⟩ = some (.int .u64 (ob H v).vals[j]) := by rw [c1]; simp [hjl]
  have c2f : w.frozen? ⟨bb, j, none⟩ = false := hl.2.2.frozenAt j
  clear hph hl hx hg1 hoo hkr q0 q1 q2 q4 q5 q6
  clear c1
  have hi2 : (j : Int) < ((ob H v).vals.length : Int) := hi.2
  have hk1 : (ob H v).kind ≠ 1 := by have := HKK0.out; omega
  have hk3 : (ob H v).kind ≠ 3 := by have := HKK0.out; omega
  have HS1 := hid (ph_set HP.out HG1.out HX.out hk1 hk3 j x hUx)
  generalize (ob H v).vals[j] = old at c2
  clear hk1 hk3
  go_enter Tryz.func25, Tryz.ntmps25
  go_wp2_with (first
    | (go_at_call 57; refine (find_yes (fun _ => True) _ hU _ [2, 4] _ HP.out HS0.out (by decide) (by decide) (by simp; omega)).mono ?_; rintro e w' ⟨g', cap', hvo, rfl, rfl⟩; cases hvo)
    | (go_at_call 71; refine (good_any _ hUx _ HP.out).mono ?_; rintro e w' ⟨rfl, rfl⟩))
  all_goals go_ret
  all_goals
    have hsw : (w.alloc (.cells #[.int .i64 2, .int .i64 4] 3)).setCell ⟨bb, j, none⟩ (.int .u64 x) = (w.setCell ⟨bb, j, none⟩ (.int .u64 x)).alloc (.cells #[.int .i64 2, .int .i64 4] 3) := World.setCell_alloc_past _ bb j _ hbs
    have h2 := HS1.out
    first
      | exact ⟨rfl, _, h2.1, Bw.nxBefore (Bw.alloc (Bw.refl _) _) h2.2⟩
      | (rw [hsw] at h2; exact ⟨rfl, _, h2.1, Bw.nxBefore (Bw.alloc (Bw.refl _) _) h2.2⟩)

theorem set_any {b0 : Nat} {H : AHeap} {bs : List Nat} (v i x : Int) (hU : U v) (hUx : U x) (w : World) (hp : HS w b0 H bs) :
    Calls Tryz.prog 25 #[.pointer (some ⟨b0, 0, none⟩), .int .u64 v, .int .i64 i, .int .u64 x] w fun e w' => e = .returned (.int .i64 (aSetE H v i x)) ∧ ∃ bs', HS w' b0 (aSetH H v i x) bs' ∧ Nx bs w w' bs' := by
  unfold aSetE aSetH
  by_cases hk : kk H v = 2 ∨ kk H v = 4
  · rw [if_pos hk]
    cases hg : gd H.2.length x
    · rw [if_neg (by simp), if_neg (by simp)]
      exact (set_arg v i x hU hUx w hp hk hg).mono fun e w' ⟨he, hb⟩ => ⟨he, _, hp.ly hb, hb.nx _⟩
    · rw [if_pos rfl]
      by_cases hi : 0 ≤ i ∧ i < (ob H v).vals.length
      · rw [if_pos hi, if_pos ⟨hk, rfl, hi⟩]
        exact set_in v i x hU hUx w hp hk hg hi
      · rw [if_neg hi, if_neg (fun k => hi k.2.2)]
        exact (set_range v i x hU hUx w hp hk hg hi).mono fun e w' ⟨he, hb⟩ => ⟨he, _, hp.ly hb, hb.nx _⟩
  · rw [if_neg hk, if_neg (fun k => hk k.1)]
    exact (set_no v i x hU w hp (by simp; omega)).mono fun e w' ⟨he, hb⟩ => ⟨he, _, hp.ly hb, hb.nx _⟩









def aPopE (H : AHeap) (v : Int) : Int := if kk H v = 2 then (if (ob H v).vals = [] then 4 else 0) else 8
def aPopV (H : AHeap) (v : Int) : Int := if kk H v = 2 then (ob H v).vals.getD ((ob H v).vals.length - 1) 0 else 0
def aPopH (H : AHeap) (v : Int) : AHeap := if kk H v = 2 ∧ (ob H v).vals ≠ [] then (H.1, H.2.set (idxV v).toNat (withVals (ob H v) ((ob H v).vals.take ((ob H v).vals.length - 1)))) else H







end Go.Proofs.YtjcoifdfemejkaaGreatDoor

