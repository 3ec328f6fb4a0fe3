/- An object with what its kind uses alone: the statements' Plain. -/
import Derived.Test.YtjcoifdfemejkaaGreatDoorSYk
set_option linter.unusedSimpArgs false
set_option linter.unusedVariables false
namespace Go.Proofs.YtjcoifdfemejkaaGreatDoor
open Go Go.RowKit

theorem OW.nilB {w : World} {G : Nat → Prop} : Sl w G (.slice none 0 0) 0 1 [] := Sl.nil w G 1

/-- May it be made as far as its number of values goes? -/
def plOK (o : AObj) : Bool := decide (o.kind ≠ 4) || decide (o.vals.length = 1)

set_option maxRecDepth 100000 in
set_option maxHeartbeats 4000000 in
theorem pl_1 (G : Nat → Prop) (o : AObj) (vb vv vk : Value) (w : World) (ho : OW w G o vb vv vk) (hk : o.kind = 1) :
    Calls Tryz.prog 23 #[objV o vb vv vk] w fun e w' => ∃ vb' vv' vk', e = .returned (.tuple #[objV (plO o) vb' vv' vk', .bool (plOK o)]) ∧ OW w' G (plO o) vb' vv' vk' ∧ Bw w w' := by
  have h2 : plO o = oStr o.bytes := by unfold plO; rw [if_pos hk]
  have h3 : plOK o = true := by unfold plOK; rw [hk]; rfl
  rw [h2, h3]
  have t1 : (o.kind == 1) = true := by rw [hk]; rfl
  have n4 : (o.kind != 4) = true := by rw [hk]; rfl
  obtain ⟨ab, cb, eb⟩ := ho.ol.1.form
  obtain ⟨av, cv, ev⟩ := ho.ol.2.1.form
  obtain ⟨ak, ck, ek⟩ := ho.ol.2.2.form
  subst eb ev ek
  have HO := hid ho
  have HX : Hid (∀ w', Bw w w' → OW w' G (oStr o.bytes) (.slice ab o.bytes.length cb) (.slice none 0 0) (.slice none 0 0)) := fun w' hb => ⟨⟨(ho.below hb).ol.1, Sl.nil w' G 1, Sl.nil w' G 1⟩, (fun x hx => by cases hx), ho.b, ho.l1, Nat.zero_le _, Nat.zero_le _⟩
  clear ho h2 h3
  have hkk : o.kind = 1 := hk
  unfold objV
  rw [hkk]
  rw [hkk] at t1 n4
  clear hk hkk
  go_enter Tryz.func23, Tryz.ntmps23
  go_wp2
  all_goals try go_region
  all_goals go_wp2
  all_goals try go_region
  all_goals go_wp2
  all_goals refine bodyPost_ret (v := _) (by simp [results, Tryz.results23, go_sem]; rfl) rfl ?_
  all_goals exact ⟨_, _, _, rfl, HX.out _ (by repeat (first | exact Bw.refl _ | apply Bw.alloc | apply Bw.drewN | apply Bw.drew)), by repeat (first | exact Bw.refl _ | apply Bw.alloc | apply Bw.drewN | apply Bw.drew)⟩

set_option maxRecDepth 100000 in
set_option maxHeartbeats 4000000 in
theorem pl_2 (G : Nat → Prop) (o : AObj) (vb vv vk : Value) (w : World) (ho : OW w G o vb vv vk) (hk : o.kind = 2) :
    Calls Tryz.prog 23 #[objV o vb vv vk] w fun e w' => ∃ vb' vv' vk', e = .returned (.tuple #[objV (plO o) vb' vv' vk', .bool (plOK o)]) ∧ OW w' G (plO o) vb' vv' vk' ∧ Bw w w' := by
  have h2 : plO o = oArr o.vals := by unfold plO; rw [if_neg (by omega), if_pos hk]
  have h3 : plOK o = true := by unfold plOK; rw [hk]; rfl
  rw [h2, h3]
  have t1 : (o.kind == 1) = false := by rw [hk]; rfl
  have t2 : (o.kind == 2) = true := by rw [hk]; rfl
  have n4 : (o.kind != 4) = true := by rw [hk]; rfl
  obtain ⟨ab, cb, eb⟩ := ho.ol.1.form
  obtain ⟨av, cv, ev⟩ := ho.ol.2.1.form
  obtain ⟨ak, ck, ek⟩ := ho.ol.2.2.form
  subst eb ev ek
  have HO := hid ho
  have HX : Hid (∀ w', Bw w w' → OW w' G (oArr o.vals) (.slice none 0 0) (.slice av o.vals.length cv) (.slice none 0 0)) := fun w' hb => ⟨⟨Sl.nil w' G 1, (ho.below hb).ol.2.1, Sl.nil w' G 1⟩, ho.u, (fun x hx => by cases hx), Nat.zero_le _, ho.l2, Nat.zero_le _⟩
  clear ho h2 h3
  have hkk : o.kind = 2 := hk
  unfold objV
  rw [hkk]
  rw [hkk] at t1 t2 n4
  clear hk hkk
  go_enter Tryz.func23, Tryz.ntmps23
  go_wp2
  all_goals try go_region
  all_goals go_wp2
  all_goals try go_region
  all_goals go_wp2
  all_goals refine bodyPost_ret (v := _) (by simp [results, Tryz.results23, go_sem]; rfl) rfl ?_
  all_goals exact ⟨_, _, _, rfl, HX.out _ (by repeat (first | exact Bw.refl _ | apply Bw.alloc | apply Bw.drewN | apply Bw.drew)), by repeat (first | exact Bw.refl _ | apply Bw.alloc | apply Bw.drewN | apply Bw.drew)⟩

set_option maxRecDepth 100000 in
set_option maxHeartbeats 4000000 in
theorem pl_3 (G : Nat → Prop) (o : AObj) (vb vv vk : Value) (w : World) (ho : OW w G o vb vv vk) (hk : o.kind = 3) :
    Calls Tryz.prog 23 #[objV o vb vv vk] w fun e w' => ∃ vb' vv' vk', e = .returned (.tuple #[objV (plO o) vb' vv' vk', .bool (plOK o)]) ∧ OW w' G (plO o) vb' vv' vk' ∧ Bw w w' := by
  have h2 : plO o = oRec o.keys o.vals := by unfold plO; rw [if_neg (by omega), if_neg (by omega), if_pos hk]
  have h3 : plOK o = true := by unfold plOK; rw [hk]; rfl
  rw [h2, h3]
  have t1 : (o.kind == 1) = false := by rw [hk]; rfl
  have t2 : (o.kind == 2) = false := by rw [hk]; rfl
  have t4 : (o.kind == 4) = false := by rw [hk]; rfl
  have t3 : (o.kind == 3) = true := by rw [hk]; rfl
  have n4 : (o.kind != 4) = true := by rw [hk]; rfl
  obtain ⟨ab, cb, eb⟩ := ho.ol.1.form
  obtain ⟨av, cv, ev⟩ := ho.ol.2.1.form
  obtain ⟨ak, ck, ek⟩ := ho.ol.2.2.form
  subst eb ev ek
  have HO := hid ho
  have HX : Hid (∀ w', Bw w w' → OW w' G (oRec o.keys o.vals) (.slice none 0 0) (.slice av o.vals.length cv) (.slice ak o.keys.length ck)) := fun w' hb => ⟨⟨Sl.nil w' G 1, (ho.below hb).ol.2.1, (ho.below hb).ol.2.2⟩, ho.u, (fun x hx => by cases hx), Nat.zero_le _, ho.l2, ho.l3⟩
  clear ho h2 h3
  have hkk : o.kind = 3 := hk
  unfold objV
  rw [hkk]
  rw [hkk] at t1 t2 t4 t3 n4
  clear hk hkk
  go_enter Tryz.func23, Tryz.ntmps23
  go_wp2
  all_goals try go_region
  all_goals go_wp2
  all_goals try go_region
  all_goals go_wp2
  all_goals refine bodyPost_ret (v := _) (by simp [results, Tryz.results23, go_sem]; rfl) rfl ?_
  all_goals exact ⟨_, _, _, rfl, HX.out _ (by repeat (first | exact Bw.refl _ | apply Bw.alloc | apply Bw.drewN | apply Bw.drew)), by repeat (first | exact Bw.refl _ | apply Bw.alloc | apply Bw.drewN | apply Bw.drew)⟩

set_option maxRecDepth 100000 in
set_option maxHeartbeats 4000000 in
theorem pl_5 (G : Nat → Prop) (o : AObj) (vb vv vk : Value) (w : World) (ho : OW w G o vb vv vk) (hk : o.kind = 5) :
    Calls Tryz.prog 23 #[objV o vb vv vk] w fun e w' => ∃ vb' vv' vk', e = .returned (.tuple #[objV (plO o) vb' vv' vk', .bool (plOK o)]) ∧ OW w' G (plO o) vb' vv' vk' ∧ Bw w w' := by
  have h2 : plO o = oFun o.num o.vals := by unfold plO; rw [if_neg (by omega), if_neg (by omega), if_neg (by omega), if_neg (by omega), if_pos hk]
  have h3 : plOK o = true := by unfold plOK; rw [hk]; rfl
  rw [h2, h3]
  have t1 : (o.kind == 1) = false := by rw [hk]; rfl
  have t2 : (o.kind == 2) = false := by rw [hk]; rfl
  have t4 : (o.kind == 4) = false := by rw [hk]; rfl
  have t3 : (o.kind == 3) = false := by rw [hk]; rfl
  have t5 : (o.kind == 5) = true := by rw [hk]; rfl
  have n4 : (o.kind != 4) = true := by rw [hk]; rfl
  obtain ⟨ab, cb, eb⟩ := ho.ol.1.form
  obtain ⟨av, cv, ev⟩ := ho.ol.2.1.form
  obtain ⟨ak, ck, ek⟩ := ho.ol.2.2.form
  subst eb ev ek
  have HO := hid ho
  have HX : Hid (∀ w', Bw w w' → OW w' G (oFun o.num o.vals) (.slice none 0 0) (.slice av o.vals.length cv) (.slice none 0 0)) := fun w' hb => ⟨⟨Sl.nil w' G 1, (ho.below hb).ol.2.1, Sl.nil w' G 1⟩, ho.u, (fun x hx => by cases hx), Nat.zero_le _, ho.l2, Nat.zero_le _⟩
  clear ho h2 h3
  have hkk : o.kind = 5 := hk
  unfold objV
  rw [hkk]
  rw [hkk] at t1 t2 t4 t3 t5 n4
  clear hk hkk
  go_enter Tryz.func23, Tryz.ntmps23
  go_wp2
  all_goals try go_region
  all_goals go_wp2
  all_goals try go_region
  all_goals go_wp2
  all_goals refine bodyPost_ret (v := _) (by simp [results, Tryz.results23, go_sem]; rfl) rfl ?_
  all_goals exact ⟨_, _, _, rfl, HX.out _ (by repeat (first | exact Bw.refl _ | apply Bw.alloc | apply Bw.drewN | apply Bw.drew)), by repeat (first | exact Bw.refl _ | apply Bw.alloc | apply Bw.drewN | apply Bw.drew)⟩

set_option maxRecDepth 100000 in
set_option maxHeartbeats 4000000 in
theorem pl_6 (G : Nat → Prop) (o : AObj) (vb vv vk : Value) (w : World) (ho : OW w G o vb vv vk) (hk : o.kind = 6) :
    Calls Tryz.prog 23 #[objV o vb vv vk] w fun e w' => ∃ vb' vv' vk', e = .returned (.tuple #[objV (plO o) vb' vv' vk', .bool (plOK o)]) ∧ OW w' G (plO o) vb' vv' vk' ∧ Bw w w' := by
  have h2 : plO o = oCplx o.re o.im := by unfold plO; rw [if_neg (by omega), if_neg (by omega), if_neg (by omega), if_neg (by omega), if_neg (by omega), if_pos hk]
  have h3 : plOK o = true := by unfold plOK; rw [hk]; rfl
  rw [h2, h3]
  have t1 : (o.kind == 1) = false := by rw [hk]; rfl
  have t2 : (o.kind == 2) = false := by rw [hk]; rfl
  have t4 : (o.kind == 4) = false := by rw [hk]; rfl
  have t3 : (o.kind == 3) = false := by rw [hk]; rfl
  have t5 : (o.kind == 5) = false := by rw [hk]; rfl
  have t6 : (o.kind == 6) = true := by rw [hk]; rfl
  have n4 : (o.kind != 4) = true := by rw [hk]; rfl
  obtain ⟨ab, cb, eb⟩ := ho.ol.1.form
  obtain ⟨av, cv, ev⟩ := ho.ol.2.1.form
  obtain ⟨ak, ck, ek⟩ := ho.ol.2.2.form
  subst eb ev ek
  have HO := hid ho
  have HX : Hid (∀ w', Bw w w' → OW w' G (oCplx o.re o.im) (.slice none 0 0) (.slice none 0 0) (.slice none 0 0)) := fun w' hb => ⟨⟨Sl.nil w' G 1, Sl.nil w' G 1, Sl.nil w' G 1⟩, (fun x hx => by cases hx), (fun x hx => by cases hx), Nat.zero_le _, Nat.zero_le _, Nat.zero_le _⟩
  clear ho h2 h3
  have hkk : o.kind = 6 := hk
  unfold objV
  rw [hkk]
  rw [hkk] at t1 t2 t4 t3 t5 t6 n4
  clear hk hkk
  go_enter Tryz.func23, Tryz.ntmps23
  go_wp2
  all_goals try go_region
  all_goals go_wp2
  all_goals try go_region
  all_goals go_wp2
  all_goals refine bodyPost_ret (v := _) (by simp [results, Tryz.results23, go_sem]; rfl) rfl ?_
  all_goals exact ⟨_, _, _, rfl, HX.out _ (by repeat (first | exact Bw.refl _ | apply Bw.alloc | apply Bw.drewN | apply Bw.drew)), by repeat (first | exact Bw.refl _ | apply Bw.alloc | apply Bw.drewN | apply Bw.drew)⟩

set_option maxRecDepth 100000 in
set_option maxHeartbeats 4000000 in
theorem pl_4 (G : Nat → Prop) (o : AObj) (vb vv vk : Value) (w : World) (ho : OW w G o vb vv vk) (hk : o.kind = 4) :
    Calls Tryz.prog 23 #[objV o vb vv vk] w fun e w' => ∃ vb' vv' vk', e = .returned (.tuple #[objV (plO o) vb' vv' vk', .bool (plOK o)]) ∧ OW w' G (plO o) vb' vv' vk' ∧ Bw w w' := by
  have h2 : plO o = (4, [], o.vals, [], 0, 0, 0) := by unfold plO; rw [if_neg (by omega), if_neg (by omega), if_neg (by omega), if_pos hk]
  obtain ⟨r, hr⟩ : ∃ r, r = plOK o := ⟨_, rfl⟩
  have hle : ((o.vals.length : Int) == 1) = r := by rw [hr]; unfold plOK; rw [hk]; by_cases h : o.vals.length = 1 <;> simp [h] <;> omega
  rw [h2, ← hr]
  have t1 : (o.kind == 1) = false := by rw [hk]; rfl
  have t2 : (o.kind == 2) = false := by rw [hk]; rfl
  have t4 : (o.kind == 4) = true := by rw [hk]; rfl
  have n4 : (o.kind != 4) = false := by rw [hk]; rfl
  obtain ⟨ab, cb, eb⟩ := ho.ol.1.form
  obtain ⟨av, cv, ev⟩ := ho.ol.2.1.form
  obtain ⟨ak, ck, ek⟩ := ho.ol.2.2.form
  subst eb ev ek
  have HX : Hid (∀ w', Bw w w' → OW w' G ((4, [], o.vals, [], 0, 0, 0) : AObj) (.slice none 0 0) (.slice av o.vals.length cv) (.slice none 0 0)) := fun w' hb => ⟨⟨Sl.nil w' G 1, (ho.below hb).ol.2.1, Sl.nil w' G 1⟩, ho.u, (fun x hx => by cases hx), Nat.zero_le _, ho.l2, Nat.zero_le _⟩
  clear ho h2 hr
  have hkk : o.kind = 4 := hk
  unfold objV
  rw [hkk]
  rw [hkk] at t1 t2 t4 n4
  clear hk hkk
  go_enter Tryz.func23, Tryz.ntmps23
  go_wp2
  all_goals try go_region
  all_goals go_wp2
  all_goals try go_region
  all_goals go_wp2
  all_goals refine bodyPost_ret (v := _) (by simp [results, Tryz.results23, go_sem]; rfl) rfl ?_
  all_goals exact ⟨_, _, _, rfl, HX.out _ (by repeat (first | exact Bw.refl _ | apply Bw.alloc | apply Bw.drewN | apply Bw.drew)), by repeat (first | exact Bw.refl _ | apply Bw.alloc | apply Bw.drewN | apply Bw.drew)⟩

set_option maxRecDepth 100000 in
set_option maxHeartbeats 4000000 in
theorem pl_rest (G : Nat → Prop) (o : AObj) (vb vv vk : Value) (w : World) (ho : OW w G o vb vv vk) (hk : o.kind < 1 ∨ 6 < o.kind) :
    Calls Tryz.prog 23 #[objV o vb vv vk] w fun e w' => ∃ vb' vv' vk', e = .returned (.tuple #[objV (plO o) vb' vv' vk', .bool (plOK o)]) ∧ OW w' G (plO o) vb' vv' vk' ∧ Bw w w' := by
  have h2 : plO o = oItem o.kind o.num := by unfold plO; rw [if_neg (by omega), if_neg (by omega), if_neg (by omega), if_neg (by omega), if_neg (by omega), if_neg (by omega)]
  have h3 : plOK o = true := by unfold plOK; rw [decide_eq_true (by omega)]; rfl
  rw [h2, h3]
  have t1 : (o.kind == 1) = false := by rw [beq_eq_false_iff_ne]; omega
  have t2 : (o.kind == 2) = false := by rw [beq_eq_false_iff_ne]; omega
  have t4 : (o.kind == 4) = false := by rw [beq_eq_false_iff_ne]; omega
  have t3 : (o.kind == 3) = false := by rw [beq_eq_false_iff_ne]; omega
  have t5 : (o.kind == 5) = false := by rw [beq_eq_false_iff_ne]; omega
  have t6 : (o.kind == 6) = false := by rw [beq_eq_false_iff_ne]; omega
  have n4 : (o.kind != 4) = true := by rw [bne_iff_ne]; omega
  obtain ⟨ab, cb, eb⟩ := ho.ol.1.form
  obtain ⟨av, cv, ev⟩ := ho.ol.2.1.form
  obtain ⟨ak, ck, ek⟩ := ho.ol.2.2.form
  subst eb ev ek
  have HX : Hid (∀ w', Bw w w' → OW w' G (oItem o.kind o.num) (.slice none 0 0) (.slice none 0 0) (.slice none 0 0)) := fun w' hb => ⟨⟨Sl.nil w' G 1, Sl.nil w' G 1, Sl.nil w' G 1⟩, (fun x hx => by cases hx), (fun x hx => by cases hx), Nat.zero_le _, Nat.zero_le _, Nat.zero_le _⟩
  clear ho h2 h3 hk
  unfold objV
  go_enter Tryz.func23, Tryz.ntmps23
  go_wp2
  all_goals try go_region
  all_goals go_wp2
  all_goals try go_region
  all_goals go_wp2
  all_goals refine bodyPost_ret (v := _) (by simp [results, Tryz.results23, go_sem]; rfl) rfl ?_
  all_goals exact ⟨_, _, _, rfl, HX.out _ (by repeat (first | exact Bw.refl _ | apply Bw.alloc | apply Bw.drewN | apply Bw.drew)), by repeat (first | exact Bw.refl _ | apply Bw.alloc | apply Bw.drewN | apply Bw.drew)⟩

theorem pl_any (G : Nat → Prop) (o : AObj) (vb vv vk : Value) (w : World) (ho : OW w G o vb vv vk) :
    Calls Tryz.prog 23 #[objV o vb vv vk] w fun e w' => ∃ vb' vv' vk', e = .returned (.tuple #[objV (plO o) vb' vv' vk', .bool (plOK o)]) ∧ OW w' G (plO o) vb' vv' vk' ∧ Bw w w' := by
  by_cases h : o.kind < 1 ∨ 6 < o.kind
  · exact pl_rest G o vb vv vk w ho h
  · have h6 : o.kind = 1 ∨ o.kind = 2 ∨ o.kind = 3 ∨ o.kind = 4 ∨ o.kind = 5 ∨ o.kind = 6 := by omega
    rcases h6 with h | h | h | h | h | h
    · exact pl_1 G o vb vv vk w ho h
    · exact pl_2 G o vb vv vk w ho h
    · exact pl_3 G o vb vv vk w ho h
    · exact pl_4 G o vb vv vk w ho h
    · exact pl_5 G o vb vv vk w ho h
    · exact pl_6 G o vb vv vk w ho h

end Go.Proofs.YtjcoifdfemejkaaGreatDoor

