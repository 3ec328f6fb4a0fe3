/- For all lists of texts and of words that may be handed in, the statement PrimRecords of layer 9 answers true: what is put under a key of a record is there, and no other one's is changed; keys come in the order in which they were put first; no condition but that the listed tables lie as the program's text lays them. -/
import Derived.Test.YtajnpdiepiinjaaGreatDoorFr9
import Derived.Test.YtajnpdiepiinjaaGreatDoorKI
set_option linter.unusedVariables false
set_option linter.unusedSimpArgs false
namespace Go.Proofs.YtajnpdiepiinjaaGreatDoor.primRecords
open Go.ChangeShapes Go.WideShapes Go.ChangeAt Go.RowKit

theorem new200 : aMakeE (200, []) (oRec [] []) = 0 ∧ aMakeV (200, []) (oRec [] []) = 2 := by decide
theorem new200h : aMakeH (200, []) (oRec [] []) = R1 [] [] := by unfold aMakeH; rw [new200.1, if_pos rfl]; rfl

/-- What is carried through the first loop. -/
structure PI (w0 w : World) (bs : List Nat) (vo vh : Value) (O : List ByteArray) (V : List Int) (k : Nat) : Prop where
  hs : HS w w0.heap.size (R1 O V) bs
  bw : Bw w0 w
  bl : ∀ b ∈ bs, w0.heap.size ≤ b
  o : InS w0 w bs vo O
  h : InRow w0 w bs vh V
  len : O.length = V.length
  le : O.length ≤ k
  nd : O.Nodup
  sz : ∀ s ∈ O, s.size ≤ 100
  u : ∀ x ∈ V, U x

theorem str_same (s : ByteArray) : (s.toList == s.toList) = true := by simp
theorem put_old {O : List ByteArray} {V : List Int} {s : ByteArray} {x : Int} (hg : gd 1 x = true) (hl : O.length ≤ 60) (h : 0 ≤ aKey O s) : aPutE (R1 O V) 2 s x = 0 ∧ aPutH (R1 O V) 2 s x = R1 O (V.set (aKey O s).toNat x) := by
  have := r1_put O V s x hg hl
  rwa [if_pos h] at this
theorem put_new {O : List ByteArray} {V : List Int} {s : ByteArray} {x : Int} (hg : gd 1 x = true) (hl : O.length ≤ 60) (h : ¬ 0 ≤ aKey O s) : aPutE (R1 O V) 2 s x = 0 ∧ aPutH (R1 O V) 2 s x = R1 (O ++ [s]) (V ++ [x]) := by
  have := r1_put O V s x hg hl
  rwa [if_neg h] at this

set_option maxHeartbeats 16000000 in
set_option maxRecDepth 100000 in
theorem core (w : World) (ht : Tf w) (har : Ar w) (v0 : Value) (l0 : List ByteArray) (w0 : Sl w (fun _ => True) v0 l0.length 1 (l0.map Value.string) ∧ l0.length ≤ maxLen)
    (v1 : Value) (l1 : List Int) (w1 : Sl w (fun _ => True) v1 l1.length 1 (l1.map (Value.int .u64)) ∧ (∀ a ∈ l1, U a) ∧ l1.length ≤ maxLen) :
    Calls Tryz.prog 7 #[v0, v1] w fun e w' => e = .returned (.bool true) ∧ Bw w w' := by
  obtain ⟨a0, c0, rfl⟩ := w0.1.form
  obtain ⟨a1, c1, rfl⟩ := w1.1.form
  have hm0 := w0.2
  have hm1 := w1.2.2
  unfold maxLen at hm0 hm1
  have W0 := hid w0
  have W1 := hid w1
  have HT := hid ht
  have HA := hid har
  clear w0 w1 ht har
  obtain ⟨i2, hi2, hz2, hs2, hy2⟩ := info_parts infoV
  have I2 := hid (And.intro hi2 (And.intro hz2 (And.intro hs2 hy2)))
  obtain ⟨i3, hi3, hz3, hs3, hy3⟩ := info_parts infoS
  have I3 := hid (And.intro hi3 (And.intro hz3 (And.intro hs3 hy3)))
  clear hi2 hz2 hs2 hy2 hi3 hz3 hs3 hy3
  by_cases h0 : l0.length ≤ 60
  rotate_left
  · have h0' : decide ((60 : Int) < (l0.length : Int)) = true := decide_eq_true (by omega)
    go_enter Tryz.func7, Tryz.ntmps7
    go_wp2_with (first
      | (go_at_call 9; refine (live_any _ HT.out).mono ?_; rintro e wl ⟨rfl, hbl⟩; have BL := hid hbl; clear hbl)
      | fail)
    all_goals go_ret
    all_goals exact ⟨rfl, BL.out⟩
  have h0' : decide ((60 : Int) < (l0.length : Int)) = false := decide_eq_false (by omega)
  by_cases h1 : l1.length = l0.length
  rotate_left
  · have h1' : ((l1.length : Int) != (l0.length : Int)) = true := by simp; omega
    go_enter Tryz.func7, Tryz.ntmps7
    go_wp2_with (first
      | (go_at_call 9; refine (live_any _ HT.out).mono ?_; rintro e wl ⟨rfl, hbl⟩; have BL := hid hbl; clear hbl)
      | fail)
    all_goals go_ret
    all_goals exact ⟨rfl, BL.out⟩
  have h1' : ((l1.length : Int) != (l0.length : Int)) = false := by simp; omega
  have HLE := hid h1
  have U2 : U 2 := ⟨by decide, by decide⟩
  obtain ⟨n1, hn1⟩ : ∃ n, l1.length = n := ⟨_, rfl⟩
  rw [hn1] at h1' hm1 HLE W1 ⊢
  have HN1 := hid hn1
  clear h1 hn1
  go_enter Tryz.func7, Tryz.ntmps7
  go_wp2_with (first
    | (go_at_call 24; refine (new_ok 200 _ (by decide) (by decide)).mono ?_; rintro e w1 ⟨rfl, hs1, hb1, hl1⟩; have S1 := hid hs1; have B1 := hid (And.intro hb1 (show ∀ b ∈ [w.heap.size], w.heap.size ≤ b by simp)); clear hs1 hb1 hl1)
    | (go_at_call 31; refine (rec_any (fun _ => True) _ _ [] [] _ S1.out (Sl.nil _ _ 1) (Sl.nil _ _ 1) (fun x hx => by cases hx) (by decide) (by decide)).mono ?_; rw [new200.1, new200.2, new200h]; rintro e w2 ⟨rfl, bs2, hs2, hn2⟩; have S2 := hid hs2; have B2 := hid (hn2.bw B1.out.1 B1.out.2); clear hs2 hn2)
    | fail)
  go_loopw [9, 10, 11] (fun o hd j wr => ∃ (k : Nat) (bs : List Nat) (O : List ByteArray) (V : List Int), k ≤ l0.length ∧ j = .int .i64 k ∧ PI w wr bs o hd O V k) (fun o hd j _ => l0.length - (intOf j).toNat)
  case atStart => exact ⟨0, _, [], [], Nat.zero_le _, rfl, ⟨S2.out, B2.out.1, B2.out.2, InS.nil _ _ _, InRow.nil _ _ _, rfl, Nat.le_refl _, List.nodup_nil, fun s h => (by cases h), fun x h => (by cases h)⟩⟩
  case round =>
    obtain ⟨k, bs, O, V, hk, rfl, hpi⟩ := hrel
    have HPI := hid hpi
    obtain ⟨ao, co, e⟩ := own_form hpi.o.1
    subst e
    obtain ⟨ah, ch, e⟩ := own_form hpi.h.1
    subst e
    have hOl : O.length ≤ 60 := Nat.le_trans hpi.le (by omega)
    have hVl : V.length ≤ 60 := by have := hpi.len; omega
    clear hpi
    by_cases hlt : k < l0.length
    · have hlt2 : (k : Int) < (l0.length : Int) := by omega
      have hlt1 : k < l1.length := by rw [HN1.out, HLE.out]; exact hlt
      have hlt3 : (k : Int) < (n1 : Int) := by have := HLE.out; omega
      obtain ⟨bb, off, e, hbb, cb⟩ := W0.out.1.at hlt
      cases e
      have W1' := W1.out.1
      rw [← HN1.out] at W1'
      obtain ⟨bv, ov, e, hbv, cv⟩ := W1'.at hlt1
      cases e
      have ck : w.cell? ⟨bb, off + k, none⟩ = some (.string l0[k]) := by rw [cb]; simp [hlt]
      have cx : w.cell? ⟨bv, ov + k, none⟩ = some (.int .u64 l1[k]) := by rw [cv]; simp [hlt1]
      have HUx := hid (W1.out.2.1 _ (List.getElem_mem hlt1))
      have HCK := hid ck
      have HCX := hid cx
      clear cb cv W1'
      have ck1 : wr.cell? ⟨bb, off + k, none⟩ = some (.string l0[k]) := (cell_bw HPI.out.bw hbb).trans ck
      have cx1 : wr.cell? ⟨bv, ov + k, none⟩ = some (.int .u64 l1[k]) := (cell_bw HPI.out.bw hbv).trans cx
      have hbb1 : bb < wr.heap.size := Nat.lt_of_lt_of_le hbb HPI.out.bw.size
      have hbv1 : bv < wr.heap.size := Nat.lt_of_lt_of_le hbv HPI.out.bw.size
      clear ck cx
      generalize l0[k] = s at ck1 HCK
      generalize l1[k] = x at cx1 HCX HUx
      by_cases hsz : s.size ≤ 100
      rotate_left
      · have bsz : decide ((100 : Int) < (s.size : Int)) = true := decide_eq_true (by omega)
        clear hsz
        go_upto_region 12 with fail
        go_quiet (fail)
        go_wp2_with (first
          | (go_at_call 9; refine (live_any _ (HT.out.bw (HPI.out.bw.trans (Bw.drewN (Bw.refl _) _)))).mono ?_; rintro e wl ⟨rfl, hbl⟩; have BL := hid ((HPI.out.bw.trans (Bw.drewN (Bw.refl _) _)).trans hbl); clear hbl)
          | fail)
        all_goals go_ret
        all_goals exact ⟨rfl, BL.out⟩
      have bsz : decide ((100 : Int) < (s.size : Int)) = false := decide_eq_false (by omega)
      have HSZ := hid hsz
      clear hsz
      have HOB := hid (r1_ob O V)
      have HCAP := hid (show ∀ o ∈ (R1 O V).2, o.keys.length ≤ 256 from fun o ho => by simp [R1] at ho; subst ho; rw [rec_keys]; omega)
      cases hg : gd 1 x
      · have HGF := hid (show gd (R1 O V).2.length x = false from hg)
        have HVL := hid (show (ob (R1 O V) 2).vals.length < 256 by rw [HOB.out, rec_vals]; omega)
        go_upto_region 12 with fail
        go_region_held3 (fun w' => w'.cell? ⟨bb, off + k, none⟩ = some (.string s) ∧ w'.cell? ⟨bv, ov + k, none⟩ = some (.int .u64 x)) (first | (simp [go_sem, *]; done) | exact ⟨y0, y1⟩)
          (first
            | (go_at_call 20; refine (SetField_bad 2 s x U2 HUx.out (HPI.out.hs.bw (by repeat (first | exact Bw.refl _ | apply Bw.alloc | apply Bw.drewN | apply Bw.drew))) (r1_kk O V) HVL.out HGF.out).mono ?_; rintro e w5 ⟨rfl, hb5⟩; have B5 := hid (show Bw w w5 from HPI.out.bw.trans (Bw.trans (by repeat (first | exact Bw.refl _ | apply Bw.alloc | apply Bw.drewN | apply Bw.drew)) hb5)); have y0 := (cell_bw B5.out hbb).trans HCK.out; have y1 := (cell_bw B5.out hbv).trans HCX.out; clear hb5)
            | fail)
        go_wp2_with (first
          | (go_at_call 9; refine (live_any _ (HT.out.bw (B5.out.trans (by repeat (first | exact Bw.refl _ | apply Bw.alloc | apply Bw.drewN | apply Bw.drew))))).mono ?_; rintro e wl ⟨rfl, hbl⟩; have BL := hid ((B5.out.trans (by repeat (first | exact Bw.refl _ | apply Bw.alloc | apply Bw.drewN | apply Bw.drew))).trans hbl); clear hbl)
          | fail)
        all_goals go_ret
        all_goals exact ⟨rfl, BL.out⟩
      · by_cases hak : 0 ≤ aKey O s
        · have HPT := hid (put_old (V := V) hg hOl hak)
          go_upto_region 12 with fail
          go_region_held3 (fun w' => w'.cell? ⟨bb, off + k, none⟩ = some (.string s) ∧ w'.cell? ⟨bv, ov + k, none⟩ = some (.int .u64 x)) (first | (simp [go_sem, *]; done) | exact ⟨y0, y1⟩)
            (first
              | (go_at_call 20; refine (SetField_yes 2 s x U2 HUx.out (HPI.out.hs.bw (by repeat (first | exact Bw.refl _ | apply Bw.alloc | apply Bw.drewN | apply Bw.drew))) HCAP.out HPT.out.1).mono ?_; rw [HPT.out.2]; rintro e w5 ⟨rfl, bs5, hs5, hn5⟩; have N5 := hid (show Nx bs wr w5 bs5 from Bw.nxBefore (by repeat (first | exact Bw.refl _ | apply Bw.alloc | apply Bw.drewN | apply Bw.drew)) hn5); have S5 := hid hs5; have BB := hid (N5.out.bw HPI.out.bw HPI.out.bl); have B5 := hid BB.out.1; have B5L := hid BB.out.2; have IO := hid (HPI.out.o.nx N5.out); have IH := hid (HPI.out.h.nx N5.out); have y0 := (cell_bw B5.out hbb).trans HCK.out; have y1 := (cell_bw B5.out hbv).trans HCX.out; clear hs5 hn5)
              | fail)
          go_wp2
          go_loopw [12, 13] (fun z j wr => ∃ q : Nat, q ≤ O.length ∧ z = .int .i64 (aKey (O.take q) s) ∧ j = .int .i64 q ∧ Bw w5 wr) (fun z j _ => O.length - (intOf j).toNat)
          case atStart => exact ⟨0, Nat.zero_le _, rfl, rfl, (by repeat (first | exact Bw.refl _ | apply Bw.alloc | apply Bw.drewN | apply Bw.drew))⟩
          case round =>
            obtain ⟨q, hq, rfl, rfl, hb6⟩ := hrel
            have HB6 := hid hb6
            clear hb6
            have HBW := hid (B5.out.trans HB6.out)
            have ck2 := (cell_bw HBW.out hbb).trans HCK.out
            have cx2 := (cell_bw HBW.out hbv).trans HCX.out
            have hbb2 : bb < wr.heap.size := Nat.lt_of_lt_of_le hbb HBW.out.size
            have hbv2 : bv < wr.heap.size := Nat.lt_of_lt_of_le hbv HBW.out.size
            by_cases hqt : q < O.length
            · have hqt2 : (q : Int) < (O.length : Int) := by omega
              obtain ⟨bo, oo, e, hbo, cbo⟩ := (IO.out.bw HB6.out).sl.at hqt
              cases e
              have co : wr.cell? ⟨bo, oo + q, none⟩ = some (.string O[q]) := by rw [cbo]; simp [hqt]
              clear cbo
              by_cases he : O[q] = s
              · have HZ := hid (akey_take_hit HPI.out.nd hqt he)
                rw [he] at co
                clear he
                generalize aKey (O.take q) s = z0
                go_upto_region 18 with fail
                go_quiet (fail)
                go_wp2
                go_roundw
                case rel => exact ⟨q + 1, by omega, by rw [HZ.out], by go_num, HB6.out.trans (Bw.drewN (Bw.refl _) _)⟩
                case measure => simp [intOf]; omega
              · have hne := str_ne he
                have HZ := hid (akey_take_miss hqt he)
                clear he
                generalize O[q] = y at co hne
                obtain ⟨z0, hz0⟩ : ∃ z0, aKey (O.take q) s = z0 := ⟨_, rfl⟩
                rw [hz0]
                have HZ0 := hid hz0
                clear hz0
                go_upto_region 18 with fail
                go_quiet (fail)
                go_wp2
                go_roundw
                case rel => exact ⟨q + 1, by omega, by rw [HZ.out, HZ0.out], by go_num, HB6.out.trans (Bw.drewN (Bw.refl _) _)⟩
                case measure => simp [intOf]; omega
            · obtain rfl : q = O.length := by omega
              rw [List.take_length]
              clear hqt hq
              obtain ⟨p, hp⟩ : ∃ p : Nat, aKey O s = p := ⟨(aKey O s).toNat, by omega⟩
              rw [hp]
              have hpl : p < V.length := by have := aKey_lt O s; have := HPI.out.len; omega
              have hpl2 : (p : Int) < (V.length : Int) := by omega
              have bz : decide ((p : Int) < 0) = false := decide_eq_false (by omega)
              have IO2 := hid (IO.out.bw HB6.out)
              have ih2 := IH.out.bw HB6.out
              have HS2 := hid (S5.out.bw HB6.out)
              obtain ⟨bh, oh, e, hbh, cbh⟩ := ih2.sl.at hpl
              cases e
              have c7 : wr.cell? ⟨bh, oh + p, none⟩ = some (.int .u64 V[p]) := by rw [cbh]; simp [hpl]
              obtain ⟨r1, r2, r3, r4, r5⟩ := ih2.set hpl x
              have HPE := hid hp
              have HPX := hid (show PI w (wr.setCell ⟨bh, oh + p, none⟩ (.int .u64 x)) bs5 (.slice ao O.length co) (.slice (some ⟨bh, oh, none⟩) V.length ch) O (V.set p x) (k + 1) from
                ⟨by have := HS2.out.grown r2 (fun k hk => by cases hk; exact r4); rwa [HPE.out, Int.toNat_natCast] at this, bw_grownAt HBW.out r2 r3, B5L.out, IO2.out.beside ih2 r2, r1,
                 by simp [HPI.out.len], by have := HPI.out.le; omega, HPI.out.nd, HPI.out.sz, fun t ht => by
                  rcases List.mem_or_eq_of_mem_set ht with h | h
                  · exact HPI.out.u t h
                  · subst h; exact HUx.out⟩)
              clear cbh ih2 r1 r2 r3 r4 hp
              generalize V[p] = vp at c7
              go_wp2
              go_roundw
              case rel => exact ⟨k + 1, bs5, _, _, by omega, by go_num, HPX.out⟩
              case measure => simp [intOf]; omega
        · have HPT := hid (put_new (V := V) hg hOl hak)
          have HNI := hid (akey_none hak)
          go_upto_region 12 with fail
          go_region_held3 (fun w' => w'.cell? ⟨bb, off + k, none⟩ = some (.string s) ∧ w'.cell? ⟨bv, ov + k, none⟩ = some (.int .u64 x)) (first | (simp [go_sem, *]; done) | exact ⟨y0, y1⟩)
            (first
              | (go_at_call 20; refine (SetField_yes 2 s x U2 HUx.out (HPI.out.hs.bw (by repeat (first | exact Bw.refl _ | apply Bw.alloc | apply Bw.drewN | apply Bw.drew))) HCAP.out HPT.out.1).mono ?_; rw [HPT.out.2]; rintro e w5 ⟨rfl, bs5, hs5, hn5⟩; have N5 := hid (show Nx bs wr w5 bs5 from Bw.nxBefore (by repeat (first | exact Bw.refl _ | apply Bw.alloc | apply Bw.drewN | apply Bw.drew)) hn5); have S5 := hid hs5; have BB := hid (N5.out.bw HPI.out.bw HPI.out.bl); have B5 := hid BB.out.1; have B5L := hid BB.out.2; have IO := hid (HPI.out.o.nx N5.out); have IH := hid (HPI.out.h.nx N5.out); have y0 := (cell_bw B5.out hbb).trans HCK.out; have y1 := (cell_bw B5.out hbv).trans HCX.out; clear hs5 hn5)
              | fail)
          go_wp2
          go_loopw [12, 13] (fun z j wr => ∃ q : Nat, q ≤ O.length ∧ z = .int .i64 (aKey (O.take q) s) ∧ j = .int .i64 q ∧ Bw w5 wr) (fun z j _ => O.length - (intOf j).toNat)
          case atStart => exact ⟨0, Nat.zero_le _, rfl, rfl, (by repeat (first | exact Bw.refl _ | apply Bw.alloc | apply Bw.drewN | apply Bw.drew))⟩
          case round =>
            obtain ⟨q, hq, rfl, rfl, hb6⟩ := hrel
            have HB6 := hid hb6
            clear hb6
            have HBW := hid (B5.out.trans HB6.out)
            have ck2 := (cell_bw HBW.out hbb).trans HCK.out
            have cx2 := (cell_bw HBW.out hbv).trans HCX.out
            have hbb2 : bb < wr.heap.size := Nat.lt_of_lt_of_le hbb HBW.out.size
            have hbv2 : bv < wr.heap.size := Nat.lt_of_lt_of_le hbv HBW.out.size
            by_cases hqt : q < O.length
            · have hqt2 : (q : Int) < (O.length : Int) := by omega
              obtain ⟨bo, oo, e, hbo, cbo⟩ := (IO.out.bw HB6.out).sl.at hqt
              cases e
              have co : wr.cell? ⟨bo, oo + q, none⟩ = some (.string O[q]) := by rw [cbo]; simp [hqt]
              clear cbo
              by_cases he : O[q] = s
              · have HZ := hid (akey_take_hit HPI.out.nd hqt he)
                rw [he] at co
                clear he
                generalize aKey (O.take q) s = z0
                go_upto_region 18 with fail
                go_quiet (fail)
                go_wp2
                go_roundw
                case rel => exact ⟨q + 1, by omega, by rw [HZ.out], by go_num, HB6.out.trans (Bw.drewN (Bw.refl _) _)⟩
                case measure => simp [intOf]; omega
              · have hne := str_ne he
                have HZ := hid (akey_take_miss hqt he)
                clear he
                generalize O[q] = y at co hne
                obtain ⟨z0, hz0⟩ : ∃ z0, aKey (O.take q) s = z0 := ⟨_, rfl⟩
                rw [hz0]
                have HZ0 := hid hz0
                clear hz0
                go_upto_region 18 with fail
                go_quiet (fail)
                go_wp2
                go_roundw
                case rel => exact ⟨q + 1, by omega, by rw [HZ.out, HZ0.out], by go_num, HB6.out.trans (Bw.drewN (Bw.refl _) _)⟩
                case measure => simp [intOf]; omega
            · obtain rfl : q = O.length := by omega
              rw [List.take_length]
              clear hqt hq
              have IO2 := hid (IO.out.bw HB6.out)
              have IH2 := hid (IH.out.bw HB6.out)
              have HS2 := hid (S5.out.bw HB6.out)
              have HNW := hid (heap_alloc_new wr (.cells #[.string s] 9))
              obtain ⟨z0, hz0⟩ : ∃ z0, aKey O s = z0 := ⟨_, rfl⟩
              rw [hz0]
              have bz : decide (z0 < 0) = true := decide_eq_true (by omega)
              have hz1 : z0 < 0 := by omega
              clear hz0
              go_wp2_with (first
                | (at_builtin; refine wpList_append_row _ rfl _ _ 67 rfl 9 i3 (.string ByteArray.empty) 1 16 Tryz.underlying67 I3.out.1 I3.out.2.1 I3.out.2.2.1 I3.out.2.2.2 rfl (by decide) (.slice ao O.length co) O.length (O.map Value.string) rfl ?c0 ⟨wr.heap.size, 0, none⟩ 1 1 [.string s] rfl rfl ?c1 ?c2 ?c3 ?c4 ?_)
                | fail)
              case c0 => exact (IO2.out.bw (Bw.alloc (Bw.refl _) _)).1
              case c1 => exact new_cells (by simpa using HNW.out) rfl
              case c2 => intro u hu; simp at hu; subst hu; rfl
              case c3 => unfold maxLen; omega
              case c4 => omega
              intro v' w7 how hgr hvb
              obtain ⟨av', cv', e⟩ := own_form how
              subst e
              have hO7 := IO2.out.bw (Bw.alloc (Bw.refl wr) (.cells #[.string s] 9))
              have hH7 := IH2.out.bw (Bw.alloc (Bw.refl wr) (.cells #[.string s] 9))
              have hB7 := Bw.alloc HBW.out (.cells #[.string s] 9)
              have hS7 := HS2.out.bw (Bw.alloc (Bw.refl wr) (.cells #[.string s] 9))
              have HS8 := hid (hS7.grown hgr (fun k hk => (hO7.2 k hk).2))
              have HB8 := hid (hO7.bwGrown hB7 hgr)
              have HO8 := hid (hO7.grown (l' := O ++ [s]) hB7 (fun b hb => hS7.lt hb) (by simpa using how) (hvb.imp id (fun h k hk => by have := h k hk; simpa using this)))
              have HH8 := hid (hH7.beside hO7 hgr)
              have cx3 := (cell_bw HB8.out hbv).trans HCX.out
              have hbv3 : bv < w7.heap.size := Nat.lt_of_lt_of_le hbv HB8.out.size
              have HNW2 := hid (heap_alloc_new w7 (.cells #[.int .u64 x] 27))
              clear how hgr hvb hO7 hH7 hB7 hS7
              go_wp2_with (first
                | (at_builtin; refine wpList_append_row _ rfl _ _ 61 rfl 27 i2 (.int .u64 0) 1 8 Tryz.underlying61 I2.out.1 I2.out.2.1 I2.out.2.2.1 I2.out.2.2.2 rfl (by decide) (.slice ah V.length ch) V.length (V.map (Value.int .u64)) rfl ?d0 ⟨w7.heap.size, 0, none⟩ 1 1 [.int .u64 x] rfl rfl ?d1 ?d2 ?d3 ?d4 ?_)
                | fail)
              case d0 => exact (HH8.out.bw (Bw.alloc (Bw.refl _) _)).1
              case d1 => exact new_cells (by simpa using HNW2.out) rfl
              case d2 => intro u hu; simp at hu; subst hu; rfl
              case d3 => unfold maxLen; omega
              case d4 => omega
              intro v9 w9 how hgr hvb
              obtain ⟨av9, cv9, e⟩ := own_form how
              subst e
              have hO7 := HO8.out.bw (Bw.alloc (Bw.refl w7) (.cells #[.int .u64 x] 27))
              have hH7 := HH8.out.bw (Bw.alloc (Bw.refl w7) (.cells #[.int .u64 x] 27))
              have hB7 := Bw.alloc HB8.out (.cells #[.int .u64 x] 27)
              have hS7 := HS8.out.bw (Bw.alloc (Bw.refl w7) (.cells #[.int .u64 x] 27))
              have HPX := hid (show PI w w9 bs5 (.slice av' (O.length + 1) cv') (.slice av9 (V.length + 1) cv9) (O ++ [s]) (V ++ [x]) (k + 1) from
                ⟨hS7.grown hgr (fun k hk => (hH7.2 k hk).2), hH7.bwGrown hB7 hgr, B5L.out, hO7.beside hH7 hgr, hH7.grown (l' := V ++ [x]) hB7 (fun b hb => hS7.lt hb) (by simpa using how) (hvb.imp id (fun h k hk => by have := h k hk; simpa using this)),
                 by simp [HPI.out.len], by have := HPI.out.le; simp; omega, by rw [List.nodup_append]; exact ⟨HPI.out.nd, by simp, fun a ha b hb e => by simp at hb; subst hb; subst e; exact HNI.out ha⟩,
                 fun t ht => by rcases List.mem_append.1 ht with h | h; exact HPI.out.sz t h; simp at h; subst h; exact HSZ.out, fun t ht => by rcases List.mem_append.1 ht with h | h; exact HPI.out.u t h; simp at h; subst h; exact HUx.out⟩)
              clear how hgr hvb hO7 hH7 hB7 hS7
              go_wp2
              go_roundw
              case rel => exact ⟨k + 1, bs5, _, _, by omega, by go_num, HPX.out⟩
              case measure => simp [intOf]; omega
    · obtain rfl : k = l0.length := by omega
      clear hlt hk
      have HNW := hid (Blk.new wr #[.int .u64 2] 27)
      obtain ⟨L, hL⟩ : ∃ L, 4 * ((1 + O.length : Nat) : Int) + 2 = L := ⟨_, rfl⟩
      have HAR := hid (r3_arr O V hOl)
      have HAT := hid (fun q hq => r3_at O V q hq hOl)
      rw [hL] at HAR HAT
      have HUL := hid (show U L by rw [← hL]; unfold U; omega)
      have HLD := hid hL
      have HLN := hid (show ((ob (R3 O V) L).vals.length : Int) = O.length by rw [HAR.out.2, oArr_vals, wds_len])
      clear hL
      go_wp2_with (first
        | (go_at_call 27; refine (pure_keys O V wr.heap.size (HA.out.bw (Bw.alloc HPI.out.bw _)) (HPI.out.hs.bw (Bw.alloc (Bw.refl _) _)) (fun s hs => by have := HPI.out.sz s hs; omega) hOl (HNW.out.cell 0) HNW.out.lt).mono ?_; rw [HLD.out]; rintro e w5 ⟨rfl, bs5, hs5, hn5⟩; have S5 := hid hs5; have BB := hid (hn5.bw (Bw.alloc HPI.out.bw _) HPI.out.bl); have IO := hid ((HPI.out.o.bw (Bw.alloc (Bw.refl _) _)).nx hn5); have IH := hid ((HPI.out.h.bw (Bw.alloc (Bw.refl _) _)).nx hn5); clear hs5 hn5)
        | (go_at_call 32; refine (len_list L HUL.out _ S5.out (.inl HAR.out.1)).mono ?_; rw [HLN.out]; rintro e w6 ⟨rfl, hl6⟩; have B56 := hid hl6.bw; clear hl6)
        | fail)
      go_loopw [18] (fun j wr => ∃ q : Nat, q ≤ O.length ∧ j = .int .i64 q ∧ Bw w5 wr) (fun j _ => O.length - (intOf j).toNat)
      case atStart => exact ⟨0, Nat.zero_le _, rfl, B56.out⟩
      case round =>
        obtain ⟨q, hq, rfl, hb7⟩ := hrel
        have HB7 := hid hb7
        clear hb7
        by_cases hqt : q < O.length
        · have hqt2 : (q : Int) < (O.length : Int) := by omega
          have hqv : q < V.length := by have := HPI.out.len; omega
          have hqv2 : (q : Int) < (V.length : Int) := by omega
          have HSQ := hid (r3_str O V q hqt hOl)
          have HAQ := hid (HAT.out q hqt)
          have HFQ := hid (r3_field O V HPI.out.nd q hqt)
          obtain ⟨S, hS⟩ : ∃ S, 4 * ((1 + q : Nat) : Int) + 2 = S := ⟨_, rfl⟩
          rw [hS] at HSQ HAQ
          have HUS := hid (show U S by rw [← hS]; unfold U; omega)
          have HBS := hid (show (ob (R3 O V) S).bytes = nms O[q] by rw [HSQ.out.2]; rfl)
          have HNS := hid (nms_str O[q])
          have HNB := hid (nms_byte O[q])
          have HNL := hid (show (nms O[q]).length ≤ 100 by rw [nms_len]; exact HPI.out.sz _ (List.getElem_mem hqt))
          obtain ⟨bo, oo, e, hbo, cbo⟩ := IO.out.sl.at hqt
          cases e
          have co : w5.cell? ⟨bo, oo + q, none⟩ = some (.string O[q]) := by rw [cbo]; simp [hqt]
          obtain ⟨bh, oh, e, hbh, cbh⟩ := IH.out.sl.at hqv
          cases e
          have chh : w5.cell? ⟨bh, oh + q, none⟩ = some (.int .u64 (V.getD q 0)) := by rw [cbh]; simp [hqv]
          have HCO := hid co
          have HCH := hid chh
          have co7 := (cell_bw HB7.out hbo).trans co
          have hbo7 : bo < wr.heap.size := Nat.lt_of_lt_of_le hbo HB7.out.size
          clear cbo cbh hS co chh
          generalize V.getD q 0 = vq at HCH HFQ
          generalize O[q] = y at HFQ HBS HNS HNB HNL HCO co7
          generalize nms y = ny at HBS HNS HNB HNL
          go_wp2_with (first
            | (go_at_call 33; refine (at_any L q HUL.out _ (S5.out.bw HB7.out)).mono ?_; rw [HAQ.out.1, HAQ.out.2]; rintro e w8 ⟨rfl, hl8⟩; have B8 := hid (HB7.out.trans hl8.bw); clear hl8)
            | (go_at_call 26; refine (bytes_yes S HUS.out _ (S5.out.bw B8.out) HSQ.out.1).mono ?_; rw [HBS.out]; rintro e w9 ⟨r9, rfl, ho9, hb9⟩; obtain ⟨a9, c9, rfl⟩ := own_form ho9; have Y9 := hid (by_own ho9 HNB.out (by have := HNL.out; omega)); have B9 := hid (B8.out.trans hb9); have co9 := (cell_bw B9.out hbo).trans HCO.out; have hbo9 : bo < w9.heap.size := Nat.lt_of_lt_of_le hbo B9.out.size; clear ho9 hb9)
            | (go_at_call 21; refine (Field_any 2 y U2 (S5.out.bw B9.out)).mono ?_; rw [HFQ.out.1, HFQ.out.2, show fF 0 = 0 from rfl, show fV 0 vq = vq from rfl]; rintro e wa ⟨rfl, hba⟩; have Ya := hid (Y9.out.bw hba); have Ba := hid (B9.out.trans hba); clear hba)
            | (go_at_call 23; refine (index_rec 2 S U2 HUS.out (S5.out.bw Ba.out) (r3_rec O V).1 HSQ.out.1).mono ?_; rw [HBS.out, HNS.out, HFQ.out.1, HFQ.out.2, show fF 0 = 0 from rfl, show fV 0 vq = vq from rfl]; rintro e wb ⟨rfl, hbb9⟩; have Yb := hid (Ya.out.bw hbb9); have Bb := hid (Ba.out.trans hbb9); have cob := (cell_bw Bb.out hbo).trans HCO.out; have chb := (cell_bw Bb.out hbh).trans HCH.out; have hbob : bo < wb.heap.size := Nat.lt_of_lt_of_le hbo Bb.out.size; have hbhb : bh < wb.heap.size := Nat.lt_of_lt_of_le hbh Bb.out.size; have hcv := fun m => (Yb.out.bw (Bw.drewN (Bw.refl _) m)).conv0; have hcv0 := Yb.out.conv0; rw [HNS.out] at hcv0; simp only [HNS.out] at hcv; clear hbb9)
            | fail)
          go_quiet (fail)
          go_wp2
          go_roundw
          case rel => exact ⟨q + 1, by omega, by go_num, Bb.out.trans (Bw.drewN (Bw.refl _) _)⟩
          case measure => simp [intOf]; omega
        · obtain rfl : q = O.length := by omega
          clear hqt hq
          go_wp2_with (first
            | (go_at_call 9; refine (live_any _ (HT.out.bw (BB.out.1.trans HB7.out))).mono ?_; rintro e wl ⟨rfl, hbl⟩; have BL := hid ((BB.out.1.trans HB7.out).trans hbl); clear hbl)
            | fail)
          all_goals go_ret
          all_goals exact ⟨rfl, BL.out⟩

theorem walk (w : World) (htf : Tf w) (har : Ar w) (v0 : Value) (l0 : List ByteArray) (w0 : Sl w (fun _ => True) v0 l0.length 1 (l0.map Value.string) ∧ l0.length ≤ maxLen) (v1 : Value) (l1 : List Int) (w1 : Sl w (fun _ => True) v1 l1.length 1 (l1.map (Value.int .u64)) ∧ (∀ a ∈ l1, U a) ∧ l1.length ≤ maxLen) :
    Calls Tryz.prog 7 #[v0, v1] w fun e w' => e = .returned (.bool true) ∧ Bw w w' := by
  exact core w htf har v0 l0 w0 v1 l1 w1

set_option maxRecDepth 100000 in
theorem lifted (os : Os) (started : os.Started) (H : Type) (enc : TypeId × Value → H) :
    ReturnsInHanded {} Tryz.checked os 7 .any (fun w args => (Rows.primRecordsSpec.pre enc Tryz.prog Tryz.f7 [] false w args ∧ laidMetH Tryz.prog laidS w) ∧ sizedMet enc Tryz.prog Tryz.f7 (OpenSpec.ofChange Rows.primRecordsSpec) false w args)
      (Rows.primRecordsSpec.post enc Tryz.prog Tryz.f7 false true false false) := by
  refine returnsInHanded_of_change_and (C := Tryz.checked) (X := fun w _ => laidMetH Tryz.prog laidS w) (fun _ _ _ hh h => h.of_heap hh) ownK started (by kernel_rfl) Tryz.func7
    (ChangeSpec.witness_shaped (enc := enc) (C := Tryz.checked) (os := os) (X := fun w _ => laidMetH Tryz.prog laidS w) false (World.doorLaid Tryz.prog 400 os) #[.slice none 0 0, .slice none 0 0] 8 rfl (World.shaped_of_RefB (by kernel_rfl) (by kernel_rfl)) (by kernel_rfl) (by kernel_rfl) (by kernel_rfl) (door_met os _)) ?_
  intro W base args ds gs before hval0 hW _ _ hL _
  have hval : ∀ (j : Nat) t v, Tryz.f7.params[j]? = some t → args[j]? = some v → Value.okWide Tryz.prog W .any base t v := hval0
  have hW' := hW
  obtain ⟨p, q, hA0, hV, rfl, hfz, hnd⟩ := hW
  have hA : DataW.TrodAll enc Tryz.prog W 0 (fun _ => true) true Tryz.f7.params.toList args.toList ds p := hA0
  rw [Tryz.params7] at hA hval
  obtain ⟨v0, vs0, d0, ds0, p0, q0, hargs, rfl, rfl, h0, r0⟩ := trodAll_cons hA
  obtain ⟨v1, vs1, d1, ds1, p1, q1, rfl, rfl, rfl, h1, r1⟩ := trodAll_cons r0
  obtain ⟨rfl, rfl, rfl⟩ := trodAll_nil r1
  obtain rfl : args = #[v0, v1] := by cases args; simp_all
  obtain ⟨rfl, rfl⟩ := trodVars_none hV
  have k0 := h0
  have lt0 : ∀ x ∈ p0, x.block < W.heap.size := by obtain ⟨m, hm⟩ := k0; exact DataW.trod_lt m _ _ _ hm
  have k1 := h1
  have lt1 : ∀ x ∈ p1, x.block < W.heap.size := by obtain ⟨m, hm⟩ := k1; exact DataW.trod_lt m _ _ _ hm
  obtain ⟨l0, w0⟩ := open_strs (hval 0 67 v0 rfl rfl) h0
  obtain ⟨l1, w1⟩ := open_vals (hval 1 61 v1 rfl rfl) h1
  clear hA0 hval0
  refine (walk W (tf_of_laid hL) (ar_of_laid hL) v0 l0 w0 v1 l1 w1).mono fun e W' ⟨he, bel⟩ => ?_
  subst he
  exact ⟨_, rfl, _, _, _, [], _, [], hW', trodAll_mk1 (shut_bool Tryz.underlying4 _), (trodAll_cons_mk (Below.trod laidOut (by kernel_rfl) (of_decide_eq_true (by kernel_rfl)) k0 bel lt0) (trodAll_cons_mk (Below.trod laidOut (by kernel_rfl) (of_decide_eq_true (by kernel_rfl)) k1 bel lt1) trodAll_mk0)), rfl, Below.frame bel _, fun h => by cases h⟩

theorem over : Rows.primRecordsRow.holds Tryz.pinned (OpenSpec.ofChange Rows.primRecordsSpec) :=
  OpenClaim.holds_of_wide 7 Tryz.f7 rfl rfl rfl rfl rfl rfl rfl ⟨rfl, rfl, rfl, rfl, rfl⟩ rfl rfl rfl rfl rfl (by kernel_rfl) Tryz.func7 (by kernel_rfl)
    (of_decide_eq_true (by kernel_rfl)) (by unfold Func.isWrapper; first | (rw [if_pos (by decide +kernel)]; kernel_rfl) | (rw [if_neg (by decide +kernel)]; exact ⟨rfl, rfl⟩))
    (fun os started H enc _ => lifted os started H enc)

theorem card : Rows.PrimRecordsCardSaid :=
  Claim7.holds_tied_plain_at .later [] [.data, .data, .data, .data, .data, .data, .data] true (true, "30ba780aa47119653ab3e8081b0a33507b5c2ddb5d70185776cadd84b12b0ea8") false
    over (fun _ h => by cases h) (by kernel_rfl) (fun _ h => by cases h) primRecords_row_tie rfl ⟨rfl, rfl⟩ (by kernel_rfl) rfl
    (fun f fn hf hfn => by
      obtain rfl : f = 7 := Option.some.inj ((show Tryz.prog.funcNamed "jacquard/jacquardlaw09.PrimRecords" = some 7 by kernel_rfl).symm.trans hf) |>.symm
      obtain rfl : fn = Tryz.f7 := (Option.some.inj (Tryz.func7.symm.trans hfn)).symm
      exact ⟨by kernel_rfl, fun j t ht => by
        rw [Tryz.params7] at ht
        have hm : t ∈ [61, 67] := by have h9 := Array.mem_of_getElem? ht; simp at h9 ⊢; first | exact h9 | (rcases h9 with h9 | h9 <;> simp [h9]; done) | (rcases h9 with h9 | h9 | h9 <;> simp [h9]; done) | (rcases h9 with h9 | h9 | h9 | h9 <;> simp [h9]; done)
        have hall : ([61, 67].all fun u => !Tryz.prog.wantsStandIn u) = true := by kernel_rfl
        exact (show Tryz.prog.wantsStandIn t = false by simpa using List.all_eq_true.1 hall t hm)⟩)
    (by kernel_rfl)
end Go.Proofs.YtajnpdiepiinjaaGreatDoor.primRecords
namespace Go.Proofs.YtajnpdiepiinjaaGreatDoor
theorem primRecords_holds : Rows.PrimRecordsCardSaid := primRecords.card
#print axioms primRecords_holds
end Go.Proofs.YtajnpdiepiinjaaGreatDoor
