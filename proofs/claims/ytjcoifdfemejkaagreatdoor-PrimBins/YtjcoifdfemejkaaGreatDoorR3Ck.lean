/- The document's lists compared, keys sought, objects asked whether they may be made: the contracts. -/
import Derived.Test.YtjcoifdfemejkaaGreatDoorM8
import Derived.Test.YtjcoifdfemejkaaGreatDoorRSk
set_option linter.unusedSimpArgs false
set_option linter.unusedVariables false
namespace Go.Proofs.YtjcoifdfemejkaaGreatDoor
open Go Go.RowKit



set_option maxHeartbeats 2000000 in
theorem rlong_any (G : Nat → Prop) (o : AObj) (vb vv vk : Value) (w : World) (h : OL w G o vb vv vk)
    (m1 : o.bytes.length ≤ 9223372036854775807) (m2 : o.vals.length ≤ 9223372036854775807) (m3 : o.keys.length ≤ 9223372036854775807) :
    Calls Tryz.prog 67 #[objV o vb vv vk] w fun e w' => e = .returned (.bool (aLong o)) ∧ Ly w w' := by
  obtain ⟨ab, cb, rfl⟩ := h.1.form
  obtain ⟨av, cv, rfl⟩ := h.2.1.form
  obtain ⟨ak, ck, rfl⟩ := h.2.2.form
  clear h
  go_enter Tryz.func67, Tryz.ntmps67
  go_wp2
  all_goals go_ret
  all_goals refine ⟨ret_bool ?_, by repeat (first | exact Ly.refl _ | apply Ly.lay | apply Ly.alloc | apply Ly.drewN | apply Ly.drew)⟩
  all_goals simp_all [aLong]
  all_goals try omega

set_option maxHeartbeats 16000000 in
theorem rright_any (G : Nat → Prop) (hv : Value) (H : AHeap) (o : AObj) (vb vv vk : Value) (w : World) (hh : RdH w G hv H) (h : OL w G o vb vv vk) (hU : ∀ v ∈ o.vals, U v)
    (m0 : H.2.length ≤ 9223372036854775807) (m2 : o.vals.length ≤ 9223372036854775806) (m3 : o.keys.length ≤ 9223372036854775806) :
    Calls Tryz.prog 68 #[hv, objV o vb vv vk] w fun e w' => e = .returned (.bool (aRight H.2.length o)) ∧ Ly w w' := by
  have HO := hid h
  have HR := hid hh
  have HU := hid hU
  clear h hU
  obtain ⟨ab, cb, rfl⟩ := HO.out.1.form
  obtain ⟨av, cv, rfl⟩ := HO.out.2.1.form
  obtain ⟨ak, ck, rfl⟩ := HO.out.2.2.form
  obtain ⟨va, t, rfl, ht, hs, ho⟩ := hh
  obtain ⟨ah, ch, rfl⟩ := hs.form
  clear ht hs ho
  go_enter Tryz.func68, Tryz.ntmps68
  go_wp2
  go_loopw [5] (fun i wr => ∃ (k m : Nat) (os : List Obj), k ≤ o.vals.length ∧ i = .int .i64 k ∧ wr = lay ((w.alloc (.cells #[.int .i64 H.1, .slice ah H.2.length ch] 32)).alloc (.cells #[.int .i64 o.kind, .slice ab o.bytes.length cb, .slice av o.vals.length cv, .slice ak o.keys.length ck, .int .i64 o.num, .int .u64 o.re, .int .u64 o.im] 50)) os m ∧ ∀ j (hj : j < k) (hl : j < o.vals.length), gd H.2.length o.vals[j] = true) (fun i _ => o.vals.length - (intOf i).toNat)
  case atStart => exact ⟨0, 0, [], Nat.zero_le _, rfl, rfl, fun j hj => absurd hj (by omega)⟩
  case round =>
    obtain ⟨k, m, os, hk, rfl, rfl, hd⟩ := hrel
    have HD := hid hd
    clear hd
    by_cases hlt : k < o.vals.length
    · obtain ⟨b, off, rfl, hbs, c1⟩ := HO.out.2.1.at hlt
      have c2 : w.cell? ⟨b, off + k, none⟩ = some (.int .u64 o.vals[k]) := by rw [c1]; simp [hlt]
      have hb1 : (0 : Int) ≤ (k : Int) := by omega
      have hb2 : (k : Int) < (o.vals.length : Int) := by omega
      have hUk : U o.vals[k] := HU.out _ (List.getElem_mem hlt)
      have HUk := hid hUk
      have HG := hid (right_vals (n := H.2.length) hlt)
      have HN : Hid (gd H.2.length o.vals[k] = true → ∀ j (hj : j < k + 1) (hl : j < o.vals.length), gd H.2.length o.vals[j] = true) := by
        intro he j hj hl
        by_cases hjk : j = k
        · subst hjk; exact he
        · exact HD.out j (by omega) hl
      clear c1 hUk
      generalize o.vals[k] = z at c2 HUk HG HN
      cases hg : gd H.2.length z
      · have HG' := hid (HG.out hg)
        go_wp2
        go_region_held3 (fun w' => w'.cell? ⟨w.heap.size, 0, none⟩ = some (.int .i64 H.1) ∧ w'.cell? ⟨w.heap.size, 1, none⟩ = some (.slice ah H.2.length ch) ∧ w'.cell? ⟨w.heap.size + 1, 2, none⟩ = some (.slice (some ⟨b, off, none⟩) o.vals.length cv) ∧ w'.cell? ⟨b, off + k, none⟩ = some (.int .u64 z)) (simp [go_sem, hbs, c2])
          (first | (go_at_call 72; refine (rgood_any G _ H _ HUk.out _ (RdH.below HR.out (Ly.bw (by repeat (first | exact Ly.refl _ | apply Ly.lay | apply Ly.alloc | apply Ly.drewN | apply Ly.drew)))) m0).mono ?_; rintro e w' ⟨rfl, os', m', rfl⟩))
        go_wp2
        go_ret
        exact ⟨ret_bool HG'.out.symm, by repeat (first | exact Ly.refl _ | apply Ly.lay | apply Ly.alloc | apply Ly.drewN | apply Ly.drew)⟩
      · have HN' := hid (HN.out hg)
        go_wp2
        go_region_held3 (fun w' => w'.cell? ⟨w.heap.size, 0, none⟩ = some (.int .i64 H.1) ∧ w'.cell? ⟨w.heap.size, 1, none⟩ = some (.slice ah H.2.length ch) ∧ w'.cell? ⟨w.heap.size + 1, 2, none⟩ = some (.slice (some ⟨b, off, none⟩) o.vals.length cv) ∧ w'.cell? ⟨b, off + k, none⟩ = some (.int .u64 z)) (simp [go_sem, hbs, c2])
          (first | (go_at_call 72; refine (rgood_any G _ H _ HUk.out _ (RdH.below HR.out (Ly.bw (by repeat (first | exact Ly.refl _ | apply Ly.lay | apply Ly.alloc | apply Ly.drewN | apply Ly.drew)))) m0).mono ?_; rintro e w' ⟨rfl, os', m', rfl⟩))
        go_wp2
        go_roundw
        case rel => exact ⟨k + 1, _, _, by omega, by go_num, rfl, HN'.out⟩
        case measure => simp [intOf]; omega
    · have hall : o.vals.all (gd H.2.length) = true := by
        rw [List.all_eq_true]
        intro x hx
        obtain ⟨j, hj, rfl⟩ := List.getElem_of_mem hx
        exact HD.out j (by omega) hj
      have HA := hid hall
      have hkl : k = o.vals.length := by omega
      subst hkl
      clear hall hlt HD
      go_wp2
      go_loopw [6] (fun i wr => ∃ (k m : Nat), k ≤ o.keys.length ∧ i = .int .i64 k ∧ wr = lay ((w.alloc (.cells #[.int .i64 H.1, .slice ah H.2.length ch] 32)).alloc (.cells #[.int .i64 o.kind, .slice ab o.bytes.length cb, .slice av o.vals.length cv, .slice ak o.keys.length ck, .int .i64 o.num, .int .u64 o.re, .int .u64 o.im] 50)) os m ∧ ∀ p q (hp : p < k) (hq : q < p) (hl : p < o.keys.length), o.keys[p] ≠ o.keys[q]'(by omega)) (fun i _ => o.keys.length - (intOf i).toNat)
      case atStart => exact ⟨0, _, Nat.zero_le _, rfl, rfl, fun p q hp => absurd hp (by omega)⟩
      case round =>
        obtain ⟨k, m', hk', rfl, rfl, hd⟩ := hrel
        have HD := hid hd
        clear hd
        by_cases hlt : k < o.keys.length
        · have hl1 : 0 < o.keys.length := by omega
          obtain ⟨b, off, rfl, hbs, c1⟩ := HO.out.2.2.at hlt
          have c2 : w.cell? ⟨b, off + k, none⟩ = some (.string o.keys[k]) := by rw [c1]; simp [hlt]
          have hb1 : (0 : Int) ≤ (k : Int) := by omega
          have hb2 : (k : Int) < (o.keys.length : Int) := by omega
          have HK := hid (rfl : o.keys[k] = o.keys[k])
          clear c1
          go_wp2
          go_loopw [7] (fun i wr => ∃ (j m : Nat), j ≤ k ∧ i = .int .i64 j ∧ wr = lay ((w.alloc (.cells #[.int .i64 H.1, .slice ah H.2.length ch] 32)).alloc (.cells #[.int .i64 o.kind, .slice ab o.bytes.length cb, .slice av o.vals.length cv, .slice (some ⟨b, off, none⟩) o.keys.length ck, .int .i64 o.num, .int .u64 o.re, .int .u64 o.im] 50)) os m ∧ ∀ q (hq : q < j) (hl : q < o.keys.length), o.keys[k] ≠ o.keys[q]) (fun i _ => k - (intOf i).toNat)
          case atStart => exact ⟨0, _, Nat.zero_le _, rfl, rfl, fun q hq => absurd hq (by omega)⟩
          case round =>
            obtain ⟨j, m'', hj, rfl, rfl, he⟩ := hrel
            have HE := hid he
            clear he
            by_cases hjk : j < k
            · have hjl : j < o.keys.length := by omega
              obtain ⟨b', off', eb, hbs', c3⟩ := HO.out.2.2.at hjl
              cases eb
              have c4 : w.cell? ⟨b, off + j, none⟩ = some (.string o.keys[j]) := by rw [c3]; simp [hjl]
              have hb3 : (0 : Int) ≤ (j : Int) := by omega
              have hb4 : (j : Int) < (o.keys.length : Int) := by omega
              have hb5 : (j : Int) < (k : Int) := by omega
              clear c3 hbs'
              by_cases heq : o.keys[k] = o.keys[j]
              · have hr : aRight H.2.length o = false := by
                  have : decide o.keys.Nodup = false := by
                    rw [decide_eq_false_iff_not]
                    intro hn
                    exact (List.pairwise_iff_getElem.1 hn j k hjl hlt hjk) heq.symm
                  simp [aRight, this]
                have HRf := hid hr
                rw [heq] at c2
                clear hr heq
                generalize o.keys[j] = z at c2 c4
                go_wp2
                go_region
                all_goals go_wp2
                all_goals go_ret
                all_goals exact ⟨ret_bool HRf.out.symm, by repeat (first | exact Ly.refl _ | apply Ly.lay | apply Ly.alloc | apply Ly.drewN | apply Ly.drew)⟩
              · have hn : ∀ q (hq : q < j + 1) (hl : q < o.keys.length), o.keys[k] ≠ o.keys[q] := by
                  intro q hq hl
                  by_cases hqj : q = j
                  · subst hqj; exact heq
                  · exact HE.out q (by omega) hl
                have HN := hid hn
                have hne := str_ne heq
                clear hn heq
                go_wp2
                go_region
                all_goals go_wp2
                all_goals
                  go_roundw
                  case rel => first | exact ⟨j + 1, _, by omega, by go_num, rfl, HN.out⟩ | ((repeat apply Exists.intro); exact ⟨⟨j + 1, _, by omega, by go_num, rfl, HN.out⟩, rfl⟩)
                  case measure => simp [intOf]; omega
            · have hjk' : j = k := by omega
              subst hjk'
              have hn : ∀ p q (hp : p < j + 1) (hq : q < p) (hl : p < o.keys.length), o.keys[p] ≠ o.keys[q]'(by omega) := by
                intro p q hp hq hl
                by_cases hpj : p = j
                · subst hpj; exact HE.out q hq (by omega)
                · exact HD.out p q (by omega) hq hl
              have HN := hid hn
              clear hn
              go_wp2
              all_goals
                go_roundw
                case rel => first | exact ⟨j + 1, _, by omega, by go_num, rfl, HN.out⟩ | ((repeat apply Exists.intro); exact ⟨⟨j + 1, _, by omega, by go_num, rfl, HN.out⟩, rfl⟩)
                case measure => simp [intOf]; omega
        · have hnd : decide o.keys.Nodup = true := by
            rw [decide_eq_true_iff]
            exact List.pairwise_iff_getElem.2 fun p q hp hq hpq => fun e => HD.out q p (by omega) hpq hq e.symm
          have hA := HA.out
          have HR2 : Hid (aRight H.2.length o = (!(decide (o.kind = 3) && ((o.keys.length : Int) != (o.vals.length : Int))) && decide (0 ≤ o.num) && decide (1 ≤ o.kind) && decide (o.kind ≤ 9))) := by
            show aRight H.2.length o = _
            simp [aRight, hA, hnd]
          clear hnd hA
          go_wp2
          all_goals go_ret
          all_goals refine ⟨ret_bool ?_, by repeat (first | exact Ly.refl _ | apply Ly.lay | apply Ly.alloc | apply Ly.drewN | apply Ly.drew)⟩
          all_goals rw [HR2.out]
          all_goals simp_all
          all_goals omega

end Go.Proofs.YtjcoifdfemejkaaGreatDoor

