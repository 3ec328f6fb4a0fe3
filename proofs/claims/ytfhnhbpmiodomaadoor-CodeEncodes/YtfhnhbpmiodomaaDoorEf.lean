/- The document's Encode: the contract. -/
import Derived.Test.YtfhnhbpmiodomaaDoorEg
set_option linter.unusedVariables false
set_option linter.unusedSimpArgs false
namespace Go.Proofs.YtfhnhbpmiodomaaDoor
open Go Go.RowKit

/-- What the document's Encode answers. -/
def REncP (w : World) (m : AIm) (e : Ending) (w' : World) : Prop :=
  Bw w w' ∧ ((oks (iIm m) = true ∧ ∃ v, e = .returned (.tuple #[v, .int .i64 0]) ∧ OwnB w' w.heap.size v (byts (iIm m))) ∨ (oks (iIm m) = false ∧ e = .returned (.tuple #[.slice none 0 0, .int .i64 1])))

def qKey (x : List Int × Value) : Bool := x.1.all pl
def qFun (x : MFn) : Bool := rgt x.f

theorem own_mark (w : World) : OwnB (w.alloc (.cells #[.int .u8 74, .int .u8 81, .int .u8 48, .int .u8 49] 5)) w.heap.size (.slice (some ⟨w.heap.size, 0, none⟩) 4 4) markL :=
  ⟨rfl, .inr ⟨w.heap.size, 4, #[.int .u8 74, .int .u8 81, .int .u8 48, .int .u8 49], rfl, Nat.le_refl _, heap_alloc_new w _, Nat.le_refl _, by decide, rfl, rfl⟩⟩

section
variable {w : World}

set_option maxRecDepth 100000 in
set_option maxHeartbeats 2000000 in
theorem rEncode_any (vf vs vk : Value) (m : AIm) (G : Nat → Prop) (ha : RIm w G vf vs vk m) (hS : SmallI m) (hl : (byts (iIm m)).length ≤ 4000000) :
    Calls Tryd.prog 8 #[imV vf vs vk m] w (REncP w m) := by
  have hOE := oks_im hS
  obtain ⟨⟨ms, em, hf⟩, hs, ⟨mk, ek, hy⟩, hg⟩ := ha
  have HQE := hid (show oks (iIm m) = (pl m.globals && mk.all qKey && ms.all qFun) from by
    rw [hOE, ← em, ← ek, List.all_map, List.all_map]; rfl)
  have EM := hid em
  have EK := hid ek
  obtain ⟨p1, pk1, e1⟩ := hf.form
  obtain ⟨p2, pk2, e2⟩ := hs.form
  obtain ⟨p3, pk3, e3⟩ := hy.form
  subst e1 e2 e3
  unfold imV
  have HF := hid hf
  have HS := hid hs
  have HY := hid hy
  have HGI := hid hg
  have HSM := hid hS
  have HLL := hid hl
  have lf : ms.length ≤ 9223372036854775807 := by have := hS.1; rw [← em, List.length_map] at this; omega
  have lk : mk.length ≤ 9223372036854775807 := by have := hS.2.2.1; rw [← ek, List.length_map] at this; omega
  have lz : m.strs.length ≤ 9223372036854775807 := by have := hS.2.1; omega
  obtain ⟨W0, hW0⟩ : ∃ W0, W0 = (w.alloc (.cells #[.slice p1 ms.length pk1, .slice p2 m.strs.length pk2, .slice p3 mk.length pk3, .int .i64 m.globals] 26)) := ⟨_, rfl⟩
  have HWE := hid hW0
  have HSZ := hid (show W0.heap.size = (w.heap.size + 1) from by rw [hW0]; exact World.size_alloc _ _)
  have HW0 := hid (show Bw w W0 from by rw [hW0]; exact Bw.alloc (Bw.refl w) _)
  have HP := hid (show Blk W0 w.heap.size #[.slice p1 ms.length pk1, .slice p2 m.strs.length pk2, .slice p3 mk.length pk3, .int .i64 m.globals] 26 from by rw [hW0]; exact Blk.new w #[.slice p1 ms.length pk1, .slice p2 m.strs.length pk2, .slice p3 mk.length pk3, .int .i64 m.globals] 26)
  have HBS := hid (show ∀ w', Bw W0 w' → (w.heap.size + 1) ≤ w'.heap.size from fun w' hb => by have := hb.size; rw [HSZ.out] at this; exact this)
  have HB := hid (show Bw W0 W0 from Bw.refl _)
  clear hf hs hy hg em ek hOE hS hl hW0
  cases hp1 : pl m.globals
  · have HP1 := hid hp1
    have HR := hid (show oks (iIm m) = false by rw [HQE.out, hp1]; rfl)
    clear hp1
    go_enter Tryd.func8, Tryd.ntmps8
    go_wp2_with (first
      | (go_at_call 16; refine (rplain_any m.globals _ HGI.out).mono ?_; rw [HP1.out]; rintro e wn ⟨rfl, hwn⟩; subst wn)
      | fail)
    all_goals go_ret2
    all_goals exact ⟨by rw [← HWE.out]; exact HW0.out, .inr ⟨HR.out, rfl⟩⟩
  have HP1 := hid hp1
  clear hp1
  go_enter Tryd.func8, Tryd.ntmps8
  go_wp2_with (first
    | (go_at_call 16; refine (rplain_any m.globals _ HGI.out).mono ?_; rw [HP1.out]; rintro e wn ⟨rfl, hwn⟩; subst wn)
    | fail)
  go_loopw [4] (fun j wr => ∃ i, i ≤ mk.length ∧ j = .int .i64 (i : Nat) ∧ (mk.take i).all qKey = true ∧ Bw W0 wr) (fun j _ => mk.length - (intOf j).toNat)
  case atStart => exact ⟨0, Nat.zero_le _, rfl, rfl, by rw [← HWE.out]; exact Bw.refl _⟩
  case round =>
    obtain ⟨i, hi, rfl, hal, hbw⟩ := hrel
    replace HB := hid hbw
    have HAL := hid hal
    have u := (HP.out.bw hbw).cell
    have ul := (HP.out.bw hbw).lt
    clear hal
    by_cases hlt : i < mk.length
    · obtain ⟨g1, o1, d1, e1, _, hg1, _, x⟩ := (RKs.bw HY.out (HW0.out.trans hbw)).parts hlt (by decide)
      cases e1
      have x0 := x 0 (by decide)
      simp only [Nat.add_zero, Nat.mul_one, List.getElem?_cons_zero] at x0
      have hlt2 : (i : Int) < (mk.length : Int) := by omega
      have HT := hid (fun h => all_snoc (p := qKey) hlt HAL.out h)
      have HFF := hid (all_not (p := qKey) hlt)
      have hO := (RKs.bw HY.out (HW0.out.trans hbw)).2.1 _ (List.getElem_mem hlt)
      generalize mk[i] = y at x0 HT HFF hO
      obtain ⟨l, yv⟩ := y
      obtain ⟨r0, rk0, d0⟩ := hO.form
      simp only at d0 x0
      subst d0
      have HX := hid hO
      clear hO x hbw
      cases hp : l.all pl
      · have HR := hid (show oks (iIm m) = false by rw [HQE.out, HFF.out hp]; simp)
        have HPN := hid hp
        clear hp
        go_wp2_with (first
          | (go_at_call 17; refine (rnumbers_any _ l G (HX.out.bw (by repeat (first | exact Bw.refl _ | apply Bw.alloc | apply Bw.drewN | apply Bw.drew)))).mono ?_; rw [HPN.out]; rintro e w1 ⟨rfl, hb1⟩; replace HB := hid (HB.out.trans (Bw.trans (by repeat (first | exact Bw.refl _ | apply Bw.alloc | apply Bw.drewN | apply Bw.drew)) hb1)); clear hb1)
          | fail)
        all_goals go_ret2
        all_goals exact ⟨HW0.out.trans HB.out, .inr ⟨HR.out, rfl⟩⟩
      · have HR := hid (HT.out hp)
        have HPN := hid hp
        clear hp
        go_wp2_with (first
          | (go_at_call 17; refine (rnumbers_any _ l G (HX.out.bw (by repeat (first | exact Bw.refl _ | apply Bw.alloc | apply Bw.drewN | apply Bw.drew)))).mono ?_; rw [HPN.out]; rintro e w1 ⟨rfl, hb1⟩; replace HB := hid (HB.out.trans (Bw.trans (by repeat (first | exact Bw.refl _ | apply Bw.alloc | apply Bw.drewN | apply Bw.drew)) hb1)); clear hb1)
          | fail)
        go_roundw
        case rel => exact ⟨i + 1, by omega, by go_num, HR.out, HB.out⟩
        case measure => simp [intOf]; omega
    · obtain rfl : i = mk.length := by omega
      have HAK := hid (show mk.all qKey = true by have := HAL.out; rwa [List.take_length] at this)
      clear HAL hbw hlt
      go_wp2
      go_loopw [5] (fun j wr => ∃ i, i ≤ ms.length ∧ j = .int .i64 (i : Nat) ∧ (ms.take i).all qFun = true ∧ Bw W0 wr) (fun j _ => ms.length - (intOf j).toNat)
      case atStart => exact ⟨0, Nat.zero_le _, rfl, rfl, HB.out⟩
      case round =>
        obtain ⟨i, hi, rfl, hal, hbw⟩ := hrel
        replace HB := hid hbw
        have HAL := hid hal
        have u := (HP.out.bw hbw).cell
        have ul := (HP.out.bw hbw).lt
        clear hal
        by_cases hlt : i < ms.length
        · obtain ⟨g1, o1, d1, e1, _, hg1, _, x⟩ := (RFs.bw HF.out (HW0.out.trans hbw)).parts hlt (by decide)
          cases e1
          have x0 := x 0 (by decide)
          have x1 := x 1 (by decide)
          have x2 := x 2 (by decide)
          have x3 := x 3 (by decide)
          have x4 := x 4 (by decide)
          have x5 := x 5 (by decide)
          simp only [Nat.add_zero, Nat.mul_one, ← Nat.add_assoc, fnC, List.getElem?_cons_zero, List.getElem?_cons_succ] at x0 x1 x2 x3 x4 x5
          have hlt2 : (i : Int) < (ms.length : Int) := by omega
          have HT := hid (fun h => all_snoc (p := qFun) hlt HAL.out h)
          have HFF := hid (all_not (p := qFun) hlt)
          have hO := (RFs.bw HF.out (HW0.out.trans hbw)).2.1 _ (List.getElem_mem hlt)
          generalize ms[i] = y at x0 x1 x2 x3 x4 x5 HT HFF hO
          obtain ⟨f, xb, xc, xo, xt⟩ := y
          obtain ⟨r0, rk0, d0⟩ := hO.b.form
          obtain ⟨r1, rk1, d1'⟩ := hO.c.form
          obtain ⟨r2, rk2, d2⟩ := hO.o.form
          obtain ⟨r3, rk3, d3⟩ := hO.t.form
          simp only at d0 d1' d2 d3 x0 x1 x2 x3 x4 x5
          subst d0 d1' d2 d3
          have HX := hid hO
          clear hO x hbw
          cases hp : rgt f
          · have HR := hid (show oks (iIm m) = false by rw [HQE.out, HFF.out hp]; simp)
            have HPN := hid hp
            clear hp
            go_wp2_with (first
              | (go_at_call 18; refine (rright_any ⟨f, .slice r0 f.boxes.length rk0, .slice r1 f.caps.length rk1, .slice r2 f.code.length rk2, .slice r3 f.tries.length rk3⟩ G (HX.out.bw (by repeat (first | exact Bw.refl _ | apply Bw.alloc | apply Bw.drewN | apply Bw.drew)))).mono ?_; rw [HPN.out]; rintro e w1 ⟨rfl, hb1⟩; replace HB := hid (HB.out.trans (Bw.trans (by repeat (first | exact Bw.refl _ | apply Bw.alloc | apply Bw.drewN | apply Bw.drew)) hb1)); clear hb1)
              | fail)
            all_goals go_ret2
            all_goals exact ⟨HW0.out.trans HB.out, .inr ⟨HR.out, rfl⟩⟩
          · have HR := hid (HT.out hp)
            have HPN := hid hp
            clear hp
            go_wp2_with (first
              | (go_at_call 18; refine (rright_any ⟨f, .slice r0 f.boxes.length rk0, .slice r1 f.caps.length rk1, .slice r2 f.code.length rk2, .slice r3 f.tries.length rk3⟩ G (HX.out.bw (by repeat (first | exact Bw.refl _ | apply Bw.alloc | apply Bw.drewN | apply Bw.drew)))).mono ?_; rw [HPN.out]; rintro e w1 ⟨rfl, hb1⟩; replace HB := hid (HB.out.trans (Bw.trans (by repeat (first | exact Bw.refl _ | apply Bw.alloc | apply Bw.drewN | apply Bw.drew)) hb1)); clear hb1)
              | fail)
            go_roundw
            case rel => exact ⟨i + 1, by omega, by go_num, HR.out, HB.out⟩
            case measure => simp [intOf]; omega
        · obtain rfl : i = ms.length := by omega
          have HAF := hid (show ms.all qFun = true by have := HAL.out; rwa [List.take_length] at this)
          clear HAL hbw hlt
          have hok : oks (iIm m) = true := by rw [HQE.out, HP1.out, HAK.out, HAF.out]; rfl
          have HOK := hid hok
          have HL := hid (ep_len hok HLL.out)
          have HE := hid (ep_end hok)
          have HN1 := hid (pl_b (ok_iL (oks_im4 hok).1).1)
          have HO1 := hid (ok_iL (oks_im4 hok).1).2
          have HN2 := hid (show 0 ≤ (mk.length : Int) ∧ (mk.length : Int) ≤ 4611686018427387903 from by have := pl_b (ok_iL (oks_im4 hok).2.1).1; rw [← EK.out, List.length_map] at this; exact this)
          have HO2 := hid (ok_iL (oks_im4 hok).2.1).2
          have HN3 := hid (pl_b HP1.out)
          have HN4 := hid (show 0 ≤ (ms.length : Int) ∧ (ms.length : Int) ≤ 4611686018427387903 from by have := pl_b (ok_iL (oks_im4 hok).2.2.2).1; rw [← EM.out, List.length_map] at this; exact this)
          have HO4 := hid (ok_iL (oks_im4 hok).2.2.2).2
          have HEL := hid (show m.keys.length = mk.length from by rw [← EK.out, List.length_map])
          have HFL := hid (show m.funs.length = ms.length from by rw [← EM.out, List.length_map])
          clear hok HAK HAF
          go_upto_region 14 with fail
          have HR30 := hid ((own_mark _).low (HBS.out _ (HB.out.trans (by repeat (first | exact Bw.refl _ | apply Bw.alloc | apply Bw.drewN | apply Bw.drew)))))
          have HB30 := hid (HB.out.trans (show Bw wr _ from (by repeat (first | exact Bw.refl _ | apply Bw.alloc | apply Bw.drewN | apply Bw.drew))))
          have u := (HP.out.bw HB30.out).cell
          have ul := (HP.out.bw HB30.out).lt
          have HD30 := hid trivial
          go_wp2_with (first
            | (go_at_call_of 19 (Value.int .i64 (m.strs.length : Nat)); refine (rnumber_any _ (m.strs.length : Nat) _ (Nat.le_refl _) HN1.out.1 HN1.out.2).mono ?_; rintro e w31 ⟨v31, rfl, ho, hb⟩; have HB31 := hid (show Bw W0 w31 from HB30.out.trans (Bw.trans (by repeat (first | exact Bw.refl _ | apply Bw.alloc | apply Bw.drewN | apply Bw.drew)) hb)); have HQ31 := hid (show OwnB w31 _ v31 (nb m.strs.length) from by rw [Int.toNat_natCast] at ho; exact ho); obtain ⟨av31, cv31, ev⟩ := HQ31.out.form; subst ev; have HR31 := hid (HR30.out.bw (Bw.trans (by repeat (first | exact Bw.refl _ | apply Bw.alloc | apply Bw.drewN | apply Bw.drew)) hb)); have HD31 := hid trivial; clear ho hb)
            | (at_builtin; (fail_if_success (have _q := HD32)); refine wpList_appB rfl _ _ rfl (w.heap.size + 1) (.slice (some ⟨wr.heap.size, 0, none⟩) 4 4) (markL) rfl HR31.out (.slice av31 (nb m.strs.length).length cv31) (nb m.strs.length) rfl HQ31.out.sl (by have := nblN HN1.out; have : markL.length = 4 := rfl; omega) (HBS.out _ HB31.out) ?_; intro v32 w32 ho hg; have HB32 := hid (HR31.out.grown HB31.out (by rw [HSZ.out]; exact Nat.le_refl _) hg); have HR32 := hid (show OwnB w32 _ v32 (ep1 m) from ho); obtain ⟨av32, cv32, ev⟩ := HR32.out.form; subst ev; have u := (HP.out.bw HB32.out).cell; have ul := (HP.out.bw HB32.out).lt; have HD32 := hid trivial; clear ho hg)
            | fail)
          go_loopw [6, 7] (fun b j wr => ∃ i, i ≤ m.strs.length ∧ j = .int .i64 (i : Nat) ∧ OwnB wr (w.heap.size + 1) b (ep2 m i) ∧ Bw W0 wr) (fun _ j _ => m.strs.length - (intOf j).toNat)
          case atStart => exact ⟨0, Nat.zero_le _, rfl, HR32.out.of (by unfold ep2; simp), HB32.out⟩
          case round =>
            obtain ⟨i, hi, rfl, ho, hbw⟩ := hrel
            have HB40 := hid hbw
            have HR40 := hid ho
            obtain ⟨av40, cv40, ev⟩ := HR40.out.form
            subst ev
            have u := (HP.out.bw hbw).cell
            have ul := (HP.out.bw hbw).lt
            clear ho
            by_cases hlt : i < m.strs.length
            · obtain ⟨g1, o1, d1, e1, _, hg1, _, x⟩ := (HS.out.bw HW0.out).parts hlt (by decide)
              cases e1
              have x0 := x 0 (by decide)
              simp only [Nat.add_zero, Nat.mul_one, List.getElem?_cons_zero] at x0
              have hlt2 : (i : Int) < (m.strs.length : Int) := by omega
              have HCH := hid (HS.out.2.1 _ (List.getElem_mem hlt)).1
              have HML := hid (HSM.out.2.2.2.1 _ (List.getElem_mem hlt))
              have HST := hid (fun (s : List Int) (h1 : m.strs[i] = s) (h2 : pl (s.length : Int) = true) => ep2_step hlt h1 h2)
              generalize m.strs[i] = s at x0 HCH HML HST
              have HS2 := hid (HST.out s rfl (pl_nat (by have := HML.out; omega)))
              have hsz : (strOfNums s).size = s.length := by
                have := Lib.strCells_length (strOfNums s)
                rw [strCells_nums s HCH.out, List.length_map] at this
                exact this.symm
              obtain ⟨ss, hss⟩ : ∃ ss, strOfNums s = ss := ⟨_, rfl⟩
              rw [hss] at x0 hsz
              have HSS := hid hss.symm
              have HSI := hid hsz
              have HM0 := hid (show 0 ≤ (ss.size : Int) ∧ (ss.size : Int) ≤ 4611686018427387903 from by rw [hsz]; have := HML.out; omega)
              have HK0 := hid (nblN HM0.out)
              have FS := hid (show ∀ w', Bw W0 w' → w'.cell? ⟨w.heap.size, 1, none⟩ = some (.slice (some ⟨g1, o1, none⟩) m.strs.length pk2) ∧ w'.cell? ⟨g1, o1 + i, none⟩ = some (.string ss) from fun w' hb => ⟨(HP.out.bw hb).cell 1, by rw [← x0]; exact World.cell?_of_block (w := W0) (w' := w') (hb.block g1 hg1)⟩)
              clear x hbw x0 HST hss hsz
              go_upto_region 18 with fail
              refine wp_region_W (fun w' => w'.cell? ⟨w.heap.size, 1, none⟩ = some (.slice (some ⟨g1, o1, none⟩) m.strs.length pk2) ∧ w'.cell? ⟨g1, o1 + i, none⟩ = some (.string ss)) (fun j => if j == 7 || j == 8 || j == 14 then 0 else 1) (by kernel_rfl) ?_
              refine wpAnyW_take (i := 0) (oi := { dst := some 56, op := Op.move (Operand.tmp 6), type := 29, pos := "ref.go:158", after := #[], guard := none }) (v := ?_) rfl (by kernel_rfl) (by kernel_rfl) (by kernel_rfl) (by kernel_rfl) (fun _ _ _ h => h) (Or.inl ⟨by rfl, fun w _ => ?_⟩) ?_
              rotate_left
              · (go_simp; first | done | with_reducible rfl)
              try simp only [Act.put, List.setIfInBounds_toArray, List.set_cons_zero, List.set_cons_succ]
              refine wpAnyW_take (i := 1) (oi := { dst := some 57, op := Op.fieldAddr 26 (Operand.tmp 1) 1, type := 0, pos := "ref.go:158", after := #[], guard := none }) (v := ?_) rfl (by kernel_rfl) (by kernel_rfl) (by kernel_rfl) (by kernel_rfl) (fun _ _ _ h => h) (Or.inl ⟨by rfl, fun w _ => ?_⟩) ?_
              rotate_left
              · (go_simp; first | done | with_reducible rfl)
              try simp only [Act.put, List.setIfInBounds_toArray, List.set_cons_zero, List.set_cons_succ]
              refine wpAnyW_load (i := 2) (oi := { dst := some 58, op := Op.load 23 (Operand.tmp 57), type := 23, pos := "ref.go:158", after := #[{ on := 1, ground := Ground.data }], guard := none }) (v := ?_) rfl (by kernel_rfl) (by kernel_rfl) (by kernel_rfl) (by kernel_rfl) (by kernel_rfl) (fun _ _ _ h => h) (Or.inl ⟨by rfl, fun w hS => ?_⟩) (FS.out _ (HB40.out.trans (by repeat (first | exact Bw.refl _ | apply Bw.alloc | apply Bw.drewN | apply Bw.drew)))) ?_
              rotate_left
              · (obtain ⟨s0, s1⟩ := hS; go_simp; first | done | with_reducible rfl)
              try simp only [Act.put, List.setIfInBounds_toArray, List.set_cons_zero, List.set_cons_succ]
              refine wpAnyW_take (i := 3) (oi := { dst := some 59, op := Op.move (Operand.tmp 7), type := 3, pos := "ref.go:158", after := #[], guard := none }) (v := ?_) rfl (by kernel_rfl) (by kernel_rfl) (by kernel_rfl) (by kernel_rfl) (fun _ _ _ h => h) (Or.inl ⟨by rfl, fun w _ => ?_⟩) ?_
              rotate_left
              · (go_simp; first | done | with_reducible rfl)
              try simp only [Act.put, List.setIfInBounds_toArray, List.set_cons_zero, List.set_cons_succ]
              refine wpAnyW_take (i := 4) (oi := { dst := some 60, op := Op.indexAddr 23 (Operand.tmp 58) (Operand.tmp 59), type := 0, pos := "ref.go:158", after := #[{ on := 2, ground := Ground.data }, { on := 3, ground := Ground.data }], guard := none }) (v := ?_) rfl (by kernel_rfl) (by kernel_rfl) (by kernel_rfl) (by kernel_rfl) (fun _ _ _ h => h) (Or.inl ⟨by rfl, fun w _ => ?_⟩) ?_
              rotate_left
              · (go_simp; first | done | with_reducible rfl)
              try simp only [Act.put, List.setIfInBounds_toArray, List.set_cons_zero, List.set_cons_succ]
              refine wpAnyW_load (i := 5) (oi := { dst := some 61, op := Op.load 9 (Operand.tmp 60), type := 9, pos := "ref.go:158", after := #[{ on := 4, ground := Ground.data }], guard := none }) (v := ?_) rfl (by kernel_rfl) (by kernel_rfl) (by kernel_rfl) (by kernel_rfl) (by kernel_rfl) (fun _ _ _ h => h) (Or.inl ⟨by rfl, fun w hS => ?_⟩) (FS.out _ (HB40.out.trans (by repeat (first | exact Bw.refl _ | apply Bw.alloc | apply Bw.drewN | apply Bw.drew)))) ?_
              rotate_left
              · (obtain ⟨s0, s1⟩ := hS; go_simp; first | done | with_reducible rfl)
              try simp only [Act.put, List.setIfInBounds_toArray, List.set_cons_zero, List.set_cons_succ]
              refine wpAnyW_take (i := 6) (oi := { dst := some 62, op := Op.call { callee := Callee.builtin Builtin.len, args := #[Operand.tmp 61], argTypes := #[9] }, type := 3, pos := "ref.go:158", after := #[{ on := 5, ground := Ground.data }], guard := none }) (v := ?_) rfl (by kernel_rfl) (by kernel_rfl) (by kernel_rfl) (by kernel_rfl) (fun _ _ _ h => h) (Or.inl ⟨by rfl, fun w _ => ?_⟩) ?_
              rotate_left
              · (go_simp; first | done | with_reducible rfl)
              try simp only [Act.put, List.setIfInBounds_toArray, List.set_cons_zero, List.set_cons_succ]
              refine wpAnyW_take (i := 9) (oi := { dst := some 65, op := Op.fieldAddr 26 (Operand.tmp 1) 1, type := 0, pos := "ref.go:158", after := #[], guard := none }) (v := ?_) rfl (by kernel_rfl) (by kernel_rfl) (by kernel_rfl) (by kernel_rfl) (fun _ _ _ h => h) (Or.inl ⟨by rfl, fun w _ => ?_⟩) ?_
              rotate_left
              · (go_simp; first | done | with_reducible rfl)
              try simp only [Act.put, List.setIfInBounds_toArray, List.set_cons_zero, List.set_cons_succ]
              refine wpAnyW_load (i := 10) (oi := { dst := some 66, op := Op.load 23 (Operand.tmp 65), type := 23, pos := "ref.go:158", after := #[{ on := 9, ground := Ground.data }], guard := none }) (v := ?_) rfl (by kernel_rfl) (by kernel_rfl) (by kernel_rfl) (by kernel_rfl) (by kernel_rfl) (fun _ _ _ h => h) (Or.inl ⟨by rfl, fun w hS => ?_⟩) (FS.out _ (HB40.out.trans (by repeat (first | exact Bw.refl _ | apply Bw.alloc | apply Bw.drewN | apply Bw.drew)))) ?_
              rotate_left
              · (obtain ⟨s0, s1⟩ := hS; go_simp; first | done | with_reducible rfl)
              try simp only [Act.put, List.setIfInBounds_toArray, List.set_cons_zero, List.set_cons_succ]
              refine wpAnyW_take (i := 11) (oi := { dst := some 67, op := Op.move (Operand.tmp 7), type := 3, pos := "ref.go:158", after := #[], guard := none }) (v := ?_) rfl (by kernel_rfl) (by kernel_rfl) (by kernel_rfl) (by kernel_rfl) (fun _ _ _ h => h) (Or.inl ⟨by rfl, fun w _ => ?_⟩) ?_
              rotate_left
              · (go_simp; first | done | with_reducible rfl)
              try simp only [Act.put, List.setIfInBounds_toArray, List.set_cons_zero, List.set_cons_succ]
              refine wpAnyW_take (i := 12) (oi := { dst := some 68, op := Op.indexAddr 23 (Operand.tmp 66) (Operand.tmp 67), type := 0, pos := "ref.go:158", after := #[{ on := 10, ground := Ground.data }, { on := 11, ground := Ground.data }], guard := none }) (v := ?_) rfl (by kernel_rfl) (by kernel_rfl) (by kernel_rfl) (by kernel_rfl) (fun _ _ _ h => h) (Or.inl ⟨by rfl, fun w _ => ?_⟩) ?_
              rotate_left
              · (go_simp; first | done | with_reducible rfl)
              try simp only [Act.put, List.setIfInBounds_toArray, List.set_cons_zero, List.set_cons_succ]
              refine wpAnyW_load (i := 13) (oi := { dst := some 69, op := Op.load 9 (Operand.tmp 68), type := 9, pos := "ref.go:158", after := #[{ on := 12, ground := Ground.data }], guard := none }) (v := ?_) rfl (by kernel_rfl) (by kernel_rfl) (by kernel_rfl) (by kernel_rfl) (by kernel_rfl) (fun _ _ _ h => h) (Or.inl ⟨by rfl, fun w hS => ?_⟩) (FS.out _ (HB40.out.trans (by repeat (first | exact Bw.refl _ | apply Bw.alloc | apply Bw.drewN | apply Bw.drew)))) ?_
              rotate_left
              · (obtain ⟨s0, s1⟩ := hS; go_simp; first | done | with_reducible rfl)
              try simp only [Act.put, List.setIfInBounds_toArray, List.set_cons_zero, List.set_cons_succ]
              refine wpAnyW_ready (rs := [7]) (by kernel_rfl) (by simp) ?_
              refine (AllReadyW.cons (o := { dst := some 63, op := Op.call { callee := Callee.value (Operand.func 19), args := #[Operand.tmp 62], argTypes := #[3] }, type := 29, pos := "ref.go:158", after := #[{ on := 6, ground := Ground.data }], guard := none }) rfl (fun K hK => ?_) AllReadyW.nil)
              go_simp
              refine (rnumber_any _ (ss.size : Nat) _ (Nat.le_refl _) HM0.out.1 HM0.out.2).mono ?_
              rintro e w41 ⟨v41, rfl, ho, hb⟩
              have HB41 := hid (show Bw W0 w41 from HB40.out.trans (Bw.trans (by repeat (first | exact Bw.refl _ | apply Bw.alloc | apply Bw.drewN | apply Bw.drew)) hb))
              have HR41 := hid (HR40.out.bw (show Bw wr w41 from Bw.trans (by repeat (first | exact Bw.refl _ | apply Bw.alloc | apply Bw.drewN | apply Bw.drew)) hb))
              rw [Int.toNat_natCast] at ho
              have HQ41 := hid (show OwnB w41 _ v41 (nb ss.size) from ho)
              obtain ⟨av41, cv41, ev⟩ := HQ41.out.form
              subst ev
              clear ho hb
              refine hK.out _ _ (FS.out _ HB41.out) ?_
              clear hK K
              try simp only [Act.put, List.setIfInBounds_toArray, List.set_cons_zero, List.set_cons_succ]
              refine wpAnyW_ready (rs := [8]) (by kernel_rfl) (by simp) ?_
              refine (AllReadyW.cons (o := { dst := some 64, op := Op.call { callee := Callee.builtin Builtin.append, args := #[Operand.tmp 56, Operand.tmp 63], argTypes := #[29, 29] }, type := 29, pos := "ref.go:158", after := #[{ on := 0, ground := Ground.data }, { on := 7, ground := Ground.data }, { on := 7, ground := Ground.chain }], guard := none }) rfl (fun K hK => ?_) AllReadyW.nil)
              refine step_appB (by rfl) (.tmp 56) (.tmp 63) (by rfl) (w.heap.size + 1) (.slice av40 (ep2 m i).length cv40) (ep2 m i) (by rfl) HR41.out (.slice av41 (nb ss.size).length cv41) (nb ss.size) (by rfl) HQ41.out.sl (by have := HL.out.l2 i; have := HK0.out; omega) (HBS.out _ HB41.out) ?_
              intro v42 w42 ho hg
              have HB42 := hid (HR41.out.grown HB41.out (by rw [HSZ.out]; exact Nat.le_refl _) hg)
              obtain ⟨R42, hr⟩ : ∃ R, ep2 m i ++ nb ss.size = R := ⟨_, rfl⟩
              rw [hr] at ho
              have HX42 := hid hr
              have HXL42 := hid (show R42.length ≤ 4000009 from by rw [← hr, List.length_append]; have := HK0.out; have := HL.out.l2 i; omega)
              clear hr
              have HR42 := hid (show OwnB w42 _ v42 R42 from ho)
              obtain ⟨av42, cv42, ev⟩ := HR42.out.form
              subst ev
              clear ho hg
              refine hK.out _ _ (FS.out _ HB42.out) ?_
              clear hK K
              try simp only [Act.put, List.setIfInBounds_toArray, List.set_cons_zero, List.set_cons_succ]
              refine wpAnyW_ready (rs := [14]) (by kernel_rfl) (by simp) ?_
              refine (AllReadyW.cons (o := { dst := some 70, op := Op.call { callee := Callee.builtin Builtin.append, args := #[Operand.tmp 64, Operand.tmp 69], argTypes := #[29, 9] }, type := 29, pos := "ref.go:158", after := #[{ on := 8, ground := Ground.data }, { on := 13, ground := Ground.data }, { on := 8, ground := Ground.chain }], guard := none }) rfl (fun K hK => ?_) AllReadyW.nil)
              refine step_appS (by rfl) (.tmp 64) (.tmp 69) (by rfl) (w.heap.size + 1) (.slice av42 R42.length cv42) R42 (by rfl) HR42.out ss s (by rfl) HSS.out HCH.out (by have := HXL42.out; have := HML.out; omega) (HBS.out _ HB42.out) ?_
              intro v43 w43 ho hg
              have HB43 := hid (HR42.out.grown HB42.out (by rw [HSZ.out]; exact Nat.le_refl _) hg)
              have HR43 := hid (show OwnB w43 _ v43 (ep2 m (i + 1)) from by rw [← HS2.out, ← HSI.out, HX42.out]; exact ho)
              obtain ⟨av43, cv43, ev⟩ := HR43.out.form
              subst ev
              clear ho hg
              refine hK.out _ _ (FS.out _ HB43.out) ?_
              clear hK K
              try simp only [Act.put, List.setIfInBounds_toArray, List.set_cons_zero, List.set_cons_succ]
              refine wpAnyW_take (i := 15) (oi := { dst := some 6, op := Op.assign (Operand.tmp 70), type := 29, pos := "ref.go:158", after := #[{ on := 14, ground := Ground.data }, { on := 14, ground := Ground.chain }, { on := 0, ground := Ground.phase }, { on := 1, ground := Ground.phase }, { on := 2, ground := Ground.phase }, { on := 3, ground := Ground.phase }, { on := 4, ground := Ground.phase }, { on := 5, ground := Ground.phase }, { on := 6, ground := Ground.phase }, { on := 7, ground := Ground.phase }, { on := 8, ground := Ground.phase }, { on := 9, ground := Ground.phase }, { on := 10, ground := Ground.phase }, { on := 11, ground := Ground.phase }, { on := 12, ground := Ground.phase }, { on := 13, ground := Ground.phase }, { on := 14, ground := Ground.phase }], guard := none }) (v := ?_) rfl (by kernel_rfl) (by kernel_rfl) (by kernel_rfl) (by kernel_rfl) (fun _ _ _ h => h) (Or.inl ⟨by rfl, fun w _ => ?_⟩) ?_
              rotate_left
              · (go_simp; first | done | with_reducible rfl)
              try simp only [Act.put, List.setIfInBounds_toArray, List.set_cons_zero, List.set_cons_succ]
              refine wpAnyW_done (by kernel_rfl) ?_ _
              have hlg : decide (4194304 < ((ep2 m (i + 1)).length : Int)) = false := decide_eq_false (by have := HL.out.l2 (i + 1); omega)
              go_wp2
              go_roundw
              case rel => exact ⟨i + 1, by omega, by go_num, HR43.out, HB43.out⟩
              case measure => simp [intOf]; omega
            · obtain rfl : i = m.strs.length := by omega
              clear hbw hlt
              go_wp2_with (first
                | (go_at_call_of 19 (Value.int .i64 (mk.length : Nat)); refine (rnumber_any _ (mk.length : Nat) _ (Nat.le_refl _) HN2.out.1 HN2.out.2).mono ?_; rintro e w44 ⟨v44, rfl, ho, hb⟩; have HB44 := hid (show Bw W0 w44 from HB40.out.trans (Bw.trans (by repeat (first | exact Bw.refl _ | apply Bw.alloc | apply Bw.drewN | apply Bw.drew)) hb)); have HQ44 := hid (show OwnB w44 _ v44 (nb mk.length) from by rw [Int.toNat_natCast] at ho; exact ho); obtain ⟨av44, cv44, ev⟩ := HQ44.out.form; subst ev; have HR44 := hid (HR40.out.bw (Bw.trans (by repeat (first | exact Bw.refl _ | apply Bw.alloc | apply Bw.drewN | apply Bw.drew)) hb)); have HD44 := hid trivial; clear ho hb)
                | (at_builtin; (fail_if_success (have _q := HD45)); refine wpList_appB rfl _ _ rfl (w.heap.size + 1) (.slice av40 (ep2 m m.strs.length).length cv40) (ep2 m m.strs.length) rfl HR44.out (.slice av44 (nb mk.length).length cv44) (nb mk.length) rfl HQ44.out.sl (by have := HL.out.l2 m.strs.length; have := nblN HN2.out; omega) (HBS.out _ HB44.out) ?_; intro v45 w45 ho hg; have HB45 := hid (HR44.out.grown HB44.out (by rw [HSZ.out]; exact Nat.le_refl _) hg); have HR45 := hid (show OwnB w45 _ v45 (ep3 m) from by unfold ep3; rw [HEL.out]; exact ho); obtain ⟨av45, cv45, ev⟩ := HR45.out.form; subst ev; have u := (HP.out.bw HB45.out).cell; have ul := (HP.out.bw HB45.out).lt; have HD45 := hid trivial; clear ho hg)
                | fail)
              go_loopw [6, 8] (fun b j wr => ∃ i, i ≤ mk.length ∧ j = .int .i64 (i : Nat) ∧ OwnB wr (w.heap.size + 1) b (ep4 m i) ∧ Bw W0 wr) (fun _ j _ => mk.length - (intOf j).toNat)
              case atStart => exact ⟨0, Nat.zero_le _, rfl, HR45.out.of (by unfold ep4; simp), HB45.out⟩
              case round =>
                obtain ⟨i, hi, rfl, ho, hbw⟩ := hrel
                have HB50 := hid hbw
                have HR50 := hid ho
                obtain ⟨av50, cv50, ev⟩ := HR50.out.form
                subst ev
                have u := (HP.out.bw hbw).cell
                have ul := (HP.out.bw hbw).lt
                clear ho
                by_cases hlt : i < mk.length
                · obtain ⟨g1, o1, d1, e1, _, hg1, _, x⟩ := (RKs.bw HY.out (HW0.out.trans hbw)).parts hlt (by decide)
                  cases e1
                  have x0 := x 0 (by decide)
                  simp only [Nat.add_zero, Nat.mul_one, List.getElem?_cons_zero] at x0
                  have hlt2 : (i : Int) < (mk.length : Int) := by omega
                  have hO := (RKs.bw HY.out (HW0.out.trans hbw)).2.1 _ (List.getElem_mem hlt)
                  have HMM := hid (show ∃ h : i < m.keys.length, m.keys[i] = mk[i].1 from ⟨by rw [HEL.out]; exact hlt, by simp only [← EK.out, List.getElem_map]⟩)
                  generalize mk[i] = y at x0 hO HMM
                  obtain ⟨l, yv⟩ := y
                  obtain ⟨r0, rk0, d0⟩ := hO.form
                  simp only at d0 x0
                  subst d0
                  have HX := hid hO
                  obtain ⟨hik, hki⟩ := HMM.out
                  replace hki : m.keys[i] = l := hki
                  have HS2 := hid (ep4_step hik hki)
                  have HOO := hid (HO2.out l (by rw [← hki]; exact List.getElem_mem hik))
                  obtain ⟨bx, hbx⟩ : ∃ bx, byts (iL iN l) = bx := ⟨_, rfl⟩
                  have HBL := hid (show bx.length ≤ 4000000 from by
                    have h1 := HL.out.l4 (i + 1)
                    rw [← HS2.out, List.length_append, hbx] at h1
                    omega)
                  have HBX := hid hbx
                  have HBY := hid (show (byts (iL iN l)).length ≤ 4194304 from by rw [hbx]; have := HBL.out; omega)
                  have HLP := hid (HL.out.l4 i)
                  clear hO x hbw hki hbx HMM
                  go_wp2_with (first
                    | (go_at_call 20; refine (rlist_any _ l G (HX.out.bw (by repeat (first | exact Bw.refl _ | apply Bw.alloc | apply Bw.drewN | apply Bw.drew))) HOO.out HBY.out).mono ?_; rintro e w51 ⟨v51, rfl, ho, hb⟩; rw [HBX.out] at ho; have HB51 := hid (show Bw W0 w51 from HB50.out.trans (Bw.trans (by repeat (first | exact Bw.refl _ | apply Bw.alloc | apply Bw.drewN | apply Bw.drew)) hb)); have HQ51 := hid (show OwnB w51 _ v51 bx from ho); obtain ⟨av51, cv51, ev⟩ := HQ51.out.form; subst ev; have HR51 := hid (HR50.out.bw (Bw.trans (by repeat (first | exact Bw.refl _ | apply Bw.alloc | apply Bw.drewN | apply Bw.drew)) hb)); clear ho hb)
                    | (at_builtin; (fail_if_success (have _q := HD52)); refine wpList_appB rfl _ _ rfl (w.heap.size + 1) (.slice av50 (ep4 m i).length cv50) (ep4 m i) rfl HR51.out (.slice av51 (bx).length cv51) (bx) rfl HQ51.out.sl (by have := HLP.out; have := HBL.out; omega) (HBS.out _ HB51.out) ?_; intro v52 w52 ho hg; have HB52 := hid (HR51.out.grown HB51.out (by rw [HSZ.out]; exact Nat.le_refl _) hg); have HR52 := hid (show OwnB w52 _ v52 (ep4 m (i + 1)) from by rw [← HS2.out, HBX.out]; exact ho); obtain ⟨av52, cv52, ev⟩ := HR52.out.form; subst ev; have u := (HP.out.bw HB52.out).cell; have ul := (HP.out.bw HB52.out).lt; have HD52 := hid trivial; clear ho hg)
                    | fail)
                  go_roundw
                  case rel => exact ⟨i + 1, by omega, by go_num, HR52.out, HB52.out⟩
                  case measure => simp [intOf]; omega
                · obtain rfl : i = mk.length := by omega
                  clear hbw hlt
                  go_wp2_with (first
                    | (go_at_call 19; (fail_if_success (have _q := HD54)); refine (rnumber_any _ m.globals _ (Nat.le_refl _) HN3.out.1 HN3.out.2).mono ?_; rintro e w54 ⟨v54, rfl, ho, hb⟩; have HB54 := hid (show Bw W0 w54 from HB50.out.trans (Bw.trans (by repeat (first | exact Bw.refl _ | apply Bw.alloc | apply Bw.drewN | apply Bw.drew)) hb)); have HQ54 := hid (show OwnB w54 _ v54 (nb (m.globals).toNat) from ho); obtain ⟨av54, cv54, ev⟩ := HQ54.out.form; subst ev; have HR54 := hid (HR50.out.bw (Bw.trans (by repeat (first | exact Bw.refl _ | apply Bw.alloc | apply Bw.drewN | apply Bw.drew)) hb)); have HD54 := hid trivial; clear ho hb)
                    | (at_builtin; (fail_if_success (have _q := HD55)); refine wpList_appB rfl _ _ rfl (w.heap.size + 1) (.slice av50 (ep4 m mk.length).length cv50) (ep4 m mk.length) rfl HR54.out (.slice av54 (nb m.globals.toNat).length cv54) (nb m.globals.toNat) rfl HQ54.out.sl (by have := HL.out.l4 mk.length; have := nbl HN3.out; omega) (HBS.out _ HB54.out) ?_; intro v55 w55 ho hg; have HB55 := hid (HR54.out.grown HB54.out (by rw [HSZ.out]; exact Nat.le_refl _) hg); have HR55 := hid (show OwnB w55 _ v55 (ep5 m) from by unfold ep5; rw [HEL.out]; exact ho); obtain ⟨av55, cv55, ev⟩ := HR55.out.form; subst ev; have u := (HP.out.bw HB55.out).cell; have ul := (HP.out.bw HB55.out).lt; have HD55 := hid trivial; clear ho hg)
                    | (go_at_call 19; (fail_if_success (have _q := HD56)); refine (rnumber_any _ (ms.length : Nat) _ (Nat.le_refl _) HN4.out.1 HN4.out.2).mono ?_; rintro e w56 ⟨v56, rfl, ho, hb⟩; have HB56 := hid (show Bw W0 w56 from HB55.out.trans (Bw.trans (by repeat (first | exact Bw.refl _ | apply Bw.alloc | apply Bw.drewN | apply Bw.drew)) hb)); have HQ56 := hid (show OwnB w56 _ v56 (nb ms.length) from by rw [Int.toNat_natCast] at ho; exact ho); obtain ⟨av56, cv56, ev⟩ := HQ56.out.form; subst ev; have HR56 := hid (HR55.out.bw (Bw.trans (by repeat (first | exact Bw.refl _ | apply Bw.alloc | apply Bw.drewN | apply Bw.drew)) hb)); have HD56 := hid trivial; clear ho hb)
                    | (at_builtin; (fail_if_success (have _q := HD57)); refine wpList_appB rfl _ _ rfl (w.heap.size + 1) (.slice av55 (ep5 m).length cv55) (ep5 m) rfl HR56.out (.slice av56 (nb ms.length).length cv56) (nb ms.length) rfl HQ56.out.sl (by have := HL.out.l5; have := nblN HN4.out; omega) (HBS.out _ HB56.out) ?_; intro v57 w57 ho hg; have HB57 := hid (HR56.out.grown HB56.out (by rw [HSZ.out]; exact Nat.le_refl _) hg); have HR57 := hid (show OwnB w57 _ v57 (ep6 m) from by unfold ep6; rw [HFL.out]; exact ho); obtain ⟨av57, cv57, ev⟩ := HR57.out.form; subst ev; have u := (HP.out.bw HB57.out).cell; have ul := (HP.out.bw HB57.out).lt; have HD57 := hid trivial; clear ho hg)
                    | fail)
                  go_loopw [6, 9] (fun b j wr => ∃ i, i ≤ ms.length ∧ j = .int .i64 (i : Nat) ∧ OwnB wr (w.heap.size + 1) b (ep7 m i) ∧ Bw W0 wr) (fun _ j _ => ms.length - (intOf j).toNat)
                  case atStart => exact ⟨0, Nat.zero_le _, rfl, HR57.out.of (by unfold ep7; simp), HB57.out⟩
                  case round =>
                    obtain ⟨i, hi, rfl, ho, hbw⟩ := hrel
                    have HB60 := hid hbw
                    have HR60 := hid ho
                    obtain ⟨av60, cv60, ev⟩ := HR60.out.form
                    subst ev
                    have u := (HP.out.bw hbw).cell
                    have ul := (HP.out.bw hbw).lt
                    clear ho
                    by_cases hlt : i < ms.length
                    · obtain ⟨g1, o1, d1, e1, _, hg1, _, x⟩ := (RFs.bw HF.out (HW0.out.trans hbw)).parts hlt (by decide)
                      cases e1
                      have x0 := x 0 (by decide)
                      have x1 := x 1 (by decide)
                      have x2 := x 2 (by decide)
                      have x3 := x 3 (by decide)
                      have x4 := x 4 (by decide)
                      have x5 := x 5 (by decide)
                      simp only [Nat.add_zero, Nat.mul_one, ← Nat.add_assoc, fnC, List.getElem?_cons_zero, List.getElem?_cons_succ] at x0 x1 x2 x3 x4 x5
                      have hlt2 : (i : Int) < (ms.length : Int) := by omega
                      have hO := (RFs.bw HF.out (HW0.out.trans hbw)).2.1 _ (List.getElem_mem hlt)
                      have HMM := hid (show ∃ h : i < m.funs.length, m.funs[i] = ms[i].f from ⟨by rw [HFL.out]; exact hlt, by simp only [← EM.out, List.getElem_map]⟩)
                      generalize ms[i] = y at x0 x1 x2 x3 x4 x5 hO HMM
                      obtain ⟨f, xb, xc, xo, xt⟩ := y
                      obtain ⟨r0, rk0, d0⟩ := hO.b.form
                      obtain ⟨r1, rk1, d1'⟩ := hO.c.form
                      obtain ⟨r2, rk2, d2⟩ := hO.o.form
                      obtain ⟨r3, rk3, d3⟩ := hO.t.form
                      simp only at d0 d1' d2 d3 x0 x1 x2 x3 x4 x5
                      subst d0 d1' d2 d3
                      have HX := hid hO
                      clear hO x hbw
                      obtain ⟨hik, hki⟩ := HMM.out
                      replace hki : m.funs[i] = f := hki
                      have HS2 := hid (ep7_step hik hki)
                      have HOO := hid (HO4.out f (by rw [← hki]; exact List.getElem_mem hik))
                      obtain ⟨bx, hbx⟩ : ∃ bx, byts (iFn f) = bx := ⟨_, rfl⟩
                      have HBL := hid (show bx.length ≤ 4000000 from by
                        have h1 := HL.out.l7 (i + 1)
                        rw [← HS2.out, List.length_append, hbx] at h1
                        omega)
                      have HBX := hid hbx
                      have HBY := hid (show (byts (iFn f)).length ≤ 4194304 from by rw [hbx]; have := HBL.out; omega)
                      have HLP := hid (HL.out.l7 i)
                      clear hki hbx HMM
                      go_wp2_with (first
                        | (go_at_call 21; refine (rfun_any ⟨f, .slice r0 f.boxes.length rk0, .slice r1 f.caps.length rk1, .slice r2 f.code.length rk2, .slice r3 f.tries.length rk3⟩ G (HX.out.bw (by repeat (first | exact Bw.refl _ | apply Bw.alloc | apply Bw.drewN | apply Bw.drew))) HOO.out HBY.out).mono ?_; rintro e w61 ⟨v61, rfl, ho, hb⟩; rw [HBX.out] at ho; have HB61 := hid (show Bw W0 w61 from HB60.out.trans (Bw.trans (by repeat (first | exact Bw.refl _ | apply Bw.alloc | apply Bw.drewN | apply Bw.drew)) hb)); have HQ61 := hid (show OwnB w61 _ v61 bx from ho); obtain ⟨av61, cv61, ev⟩ := HQ61.out.form; subst ev; have HR61 := hid (HR60.out.bw (Bw.trans (by repeat (first | exact Bw.refl _ | apply Bw.alloc | apply Bw.drewN | apply Bw.drew)) hb)); clear ho hb)
                        | (at_builtin; (fail_if_success (have _q := HD62)); refine wpList_appB rfl _ _ rfl (w.heap.size + 1) (.slice av60 (ep7 m i).length cv60) (ep7 m i) rfl HR61.out (.slice av61 (bx).length cv61) (bx) rfl HQ61.out.sl (by have := HLP.out; have := HBL.out; omega) (HBS.out _ HB61.out) ?_; intro v62 w62 ho hg; have HB62 := hid (HR61.out.grown HB61.out (by rw [HSZ.out]; exact Nat.le_refl _) hg); have HR62 := hid (show OwnB w62 _ v62 (ep7 m (i + 1)) from by rw [← HS2.out, HBX.out]; exact ho); obtain ⟨av62, cv62, ev⟩ := HR62.out.form; subst ev; have u := (HP.out.bw HB62.out).cell; have ul := (HP.out.bw HB62.out).lt; have HD62 := hid trivial; clear ho hg)
                        | fail)
                      go_roundw
                      case rel => exact ⟨i + 1, by omega, by go_num, HR62.out, HB62.out⟩
                      case measure => simp [intOf]; omega
                    · obtain rfl : i = ms.length := by omega
                      clear hbw hlt
                      have hlg : decide (4194304 < ((ep7 m ms.length).length : Int)) = false := decide_eq_false (by have := HL.out.l7 ms.length; omega)
                      go_wp2
                      all_goals go_ret2
                      all_goals exact ⟨HW0.out.trans HB60.out, .inl ⟨HOK.out, _, rfl, (HR60.out.of (by rw [← HE.out, HFL.out])).low (Nat.le_succ _)⟩⟩

end

end Go.Proofs.YtfhnhbpmiodomaaDoor
