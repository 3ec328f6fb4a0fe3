/- firstPlaces, keysAreRight, imageFault: contracts. -/
import Derived.Test.YtcljlmjcjfmppaaDoorGa
import Derived.Test.YtcljlmjcjfmppaaDoorVq
import Derived.Maps.OwnOps
import Derived.StringKeys
set_option linter.unusedSimpArgs false
set_option linter.unusedVariables false
namespace Go.Proofs.YtcljlmjcjfmppaaDoor
open Go Go.RowKit

theorem nums_back (l : List Int) (h : ∀ c ∈ l, 0 ≤ c ∧ c ≤ 255) : (strOfNums l).data.toList.map (fun u => (u.toNat : Int)) = l := by
  unfold strOfNums
  simp only [List.map_map]
  conv => rhs; rw [← List.map_id l]
  apply List.map_congr_left
  intro c hc
  have := h c hc
  simp only [Function.comp, id]
  rw [UInt8.toNat_ofNat_of_lt' (by show c.toNat < 256; omega)]
  omega

/-- A text of bytes; its key. -/
def Bs (s : List Int) : Prop := ∀ c ∈ s, 0 ≤ c ∧ c ≤ 255
def kyL (s : List Int) : Lit := .string (strOfNums s).data.toList

theorem ky_ne {s u : List Int} (hs : Bs s) (hu : Bs u) (h : u ≠ s) : (strOfNums u).data.toList ≠ (strOfNums s).data.toList := fun e => h (by rw [← nums_back u hu, ← nums_back s hs, e])

/-- The datum of a map that has just these texts, each with the place where it stands first. -/
structure RowT (D : DataW Unit) (l : List (List Int)) : Prop where
  tidy : Maps.Tidy D
  ok : ∀ s ∈ l, Bs s
  has : ∀ s, Bs s → Maps.has D (kyL s) = decide (s ∈ l)
  at_ : ∀ s, s ∈ l → D.atKey (kyL s) (.lit (.int .i64 0)) = .lit (.int .i64 (l.idxOf s : Nat))

theorem RowT.nil : RowT (.map []) [] := ⟨Maps.tidy_empty, fun s h => (by cases h), fun v _ => (by simp [Maps.has]), fun v h => (by cases h)⟩

theorem key_str (s : List Int) : WideAt.IsKeyLit (kyL s) := by simp [WideAt.IsKeyLit, kyL]

theorem RowT.old {D : DataW Unit} {l : List (List Int)} (h : RowT D l) {s : List Int} (hs : s ∈ l) : RowT D (l ++ [s]) where
  tidy := h.tidy
  ok := fun u hu => by
    rcases List.mem_append.1 hu with h1 | h1
    · exact h.ok u h1
    · simp at h1; subst h1; exact h.ok _ hs
  has := fun u hb => by rw [h.has u hb]; by_cases hu : u = s <;> simp [hu, hs]
  at_ := fun u hu => by
    have hm : u ∈ l := by
      rcases List.mem_append.1 hu with h1 | h1
      · exact h1
      · simp at h1; subst h1; exact hs
    rw [h.at_ u hm, List.idxOf_append, if_pos hm]

theorem RowT.snoc {D : DataW Unit} {l : List (List Int)} (h : RowT D l) {s : List Int} (hb : Bs s) (hs : s ∉ l) : RowT (D.put (kyL s) (.lit (.int .i64 l.length))) (l ++ [s]) where
  tidy := h.tidy.put (key_str s) _
  ok := fun u hu => by
    rcases List.mem_append.1 hu with h1 | h1
    · exact h.ok u h1
    · simp at h1; subst h1; exact hb
  has := fun u hbu => by
    by_cases hu : u = s
    · subst hu
      rw [Maps.has_put_same h.tidy.isMap (key_str u)]
      simp
    · rw [Maps.has_put_other (by simpa [kyL] using ky_ne hb hbu hu), h.has u hbu]
      simp [hu]
  at_ := fun u hu => by
    by_cases he : u = s
    · subst he
      rw [Maps.atKey_put_same h.tidy.isMap (key_str u), List.idxOf_append, if_neg hs]
      simp
    · have hm : u ∈ l := by
        rcases List.mem_append.1 hu with h1 | h1
        · exact h1
        · simp at h1; exact absurd h1 he
      rw [Maps.atKey_put_other (by simpa [kyL] using ky_ne hb (h.ok u hm) he), h.at_ u hm, List.idxOf_append, if_pos hm]

theorem underM : Tryd.prog.underlying 72 = some (.map 9 3) := by kernel_rfl
theorem underMI : Tryd.prog.underlying 3 = some (.int .i64) := by kernel_rfl
theorem zeroMI (w : World) : (zeroValue 3).run Tryd.prog w = .ok (.int .i64 0) w := by kernel_rfl
theorem underS9 : Tryd.prog.underlying 9 = some .string := by kernel_rfl
theorem lawS : Maps.Keyed Tryd.prog 9 := Maps.string_keyed underS9

abbrev OM (w : World) (b n : Nat) (D : DataW Unit) : Prop := w.ownsMap Tryd.prog 9 (plainElem (H := Unit) Tryd.prog 3) b n D

/-- What is carried through firstPlaces. -/
structure FI (w0 w : World) (mb g : Nat) (l : List (List Int)) (i : Nat) : Prop where
  mp : ∃ D, OM w mb i D ∧ RowT D (l.take i)
  bk : Blk w g (((fpl l).take i ++ List.replicate (l.length - i) 0).map (Value.int .i64)).toArray 3
  bw : Bw w0 w
  mn : w0.heap.size ≤ mb
  gn : w0.heap.size ≤ g
  ne : mb ≠ g

theorem idx_take {l : List (List Int)} {i : Nat} {s : List Int} (h : s ∈ l.take i) : (l.take i).idxOf s = l.idxOf s := by
  conv => rhs; rw [← List.take_append_drop i l]
  rw [List.idxOf_append, if_pos h]

theorem fill_set {l : List (List Int)} {i : Nat} (hi : i < l.length) : ((fpl l).take i ++ List.replicate (l.length - i) 0).set i ((l.idxOf l[i] : Nat) : Int) = (fpl l).take (i + 1) ++ List.replicate (l.length - (i + 1)) 0 := by
  have hl : ((fpl l).take i).length = i := by rw [List.length_take, fpl_len]; omega
  obtain ⟨k, hk⟩ : ∃ k, l.length - i = k + 1 := ⟨l.length - i - 1, by omega⟩
  rw [hk, show l.length - (i + 1) = k by omega, List.set_append, if_neg (by omega), hl, Nat.sub_self, List.replicate_succ, List.set_cons_zero, List.take_succ_eq_append_getElem (by rw [fpl_len]; exact hi), List.append_assoc]
  congr 1
  simp [fpl]

theorem fill_at {l : List (List Int)} {i : Nat} (hi : i < l.length) : (((fpl l).take i ++ List.replicate (l.length - i) 0).map (Value.int .i64)).toArray[i]? = some (.int .i64 0) := by
  have hl : ((fpl l).take i).length = i := by rw [List.length_take, fpl_len]; omega
  simp only [List.getElem?_toArray, List.getElem?_map]
  rw [List.getElem?_append_right (by omega), hl, Nat.sub_self, List.getElem?_replicate, if_pos (by omega)]
  rfl

theorem FI.next {w0 w w' : World} {mb g i : Nat} {l : List (List Int)} (h : FI w0 w mb g l i) (hi : i < l.length) {D : DataW Unit} (ho : OM w' mb (i + 1) D) (hr : RowT D (l.take i ++ [l[i]])) (hw : ∀ b, b < w.heap.size → b ≠ mb → w'.heap[b]? = w.heap[b]?) (hb : Bw w0 w') :
    FI w0 (w'.setCell ⟨g, i, none⟩ (.int .i64 (l.idxOf l[i] : Nat))) mb g l (i + 1) := by
  refine ⟨⟨D, ho.setCell (by exact fun e => h.ne e) _, by rw [List.take_succ_eq_append_getElem hi]; exact hr⟩, ?_, Bw.setCell hb h.gn _, h.mn, h.gn, h.ne⟩
  have hk : Blk w' g _ 3 := h.bk.keep (hw g h.bk.lt (fun e => h.ne e.symm))
  have := hk.set i (.int .i64 (l.idxOf l[i] : Nat))
  rw [← fill_set hi, List.map_set]
  simpa using this

section
variable {w w' : World}

set_option maxRecDepth 100000 in
set_option maxHeartbeats 2000000 in
theorem first_any (az : Option Addr) (ks : Nat) (l : List (List Int)) (G : Nat → Prop) (hs : RStrs w G (.slice az l.length ks) l) (hl : l.length ≤ 1000000) :
    Calls Tryd.prog 25 #[.slice az l.length ks] w fun e w' => (∃ g, e = .returned (.slice (some ⟨g, 0, none⟩) l.length l.length) ∧ w.heap.size ≤ g ∧ Blk w' g ((fpl l).map (Value.int .i64)).toArray 3) ∧ Bw w w' := by
  obtain ⟨i1, hi1, hz1, hs1, hy1⟩ := info_parts2 infoI64
  have I1 := hid (And.intro hi1 (And.intro hz1 (And.intro hs1 hy1)))
  have HS := hid hs
  clear hi1 hz1 hs1 hy1 hs
  have hmm := @run_makeMap Tryd.prog
  have HMK := hid (World.ownsMap_made w Tryd.prog 9 (plainElem (H := Unit) Tryd.prog 3))
  obtain ⟨W0, hW0⟩ : ∃ W0, w.alloc (.map #[] 0) = W0 := ⟨_, rfl⟩
  have HWE := hid hW0
  clear hW0
  go_enter Tryd.func25, Tryd.ntmps25
  go_wp2_with (first
    | (at_make; refine wpList_make_full _ rfl _ _ 33 rfl 0 3 i1 (.int .i64 0) 1 undIs I1.out.1 I1.out.2.1 I1.out.2.2.1 _ _ _ _ l.length rfl rfl rfl rfl (by rw [I1.out.2.2.2]; omega) (by unfold maxLen; omega) (Nat.zero_le _) ?_; intro w1 hown hgr; have hb1 : Bw W0 w1 := (by rw [← HWE.out]; exact bw_none hgr); have hbk := own_blk hown; simp only [World.size_alloc] at hbk ⊢; have HFI := hid (show FI w w1 w.heap.size (w.heap.size + 1) l 0 from ⟨⟨_, by have := HMK.out; exact this.kept hgr (by simp), RowT.nil⟩, by rw [List.take_zero, List.nil_append, Nat.sub_zero, ← made_int]; exact hbk, (show Bw w W0 by rw [← HWE.out]; exact Bw.alloc (Bw.refl w) _).trans hb1, Nat.le_refl _, by omega, by omega⟩); clear hown hgr hb1 hbk)
    | fail)
  go_loopw [15] (fun j wr => ∃ i, i ≤ l.length ∧ j = .int .i64 (i : Nat) ∧ FI w wr w.heap.size (w.heap.size + 1) l i) (fun j _ => l.length - (intOf j).toNat)
  case atStart => exact ⟨0, Nat.zero_le _, rfl, HFI.out⟩
  case round =>
    obtain ⟨i, hi, rfl, hfi⟩ := hrel
    clear HFI
    have HF := hid hfi
    by_cases hlt : i < l.length
    · have hlt2 : (i : Int) < (l.length : Int) := by omega
      obtain ⟨g, o, cap, e, _, hg, _, x⟩ := (RL.bw HS.out hfi.bw).parts hlt (by decide)
      cases e
      have x0 := x 0 (by decide)
      simp only [Nat.add_zero, Nat.mul_one, List.getElem?_cons_zero] at x0
      have hbs : Bs l[i] := (HS.out.2.1 _ (List.getElem_mem hlt)).1
      have HBS := hid hbs
      obtain ⟨D, ho, hr⟩ := hfi.mp
      have HO := hid ho
      have HR := hid hr
      have HK := hid (Go.WideMaps.keyOf_string_mk (P := Tryd.prog) (k := 9) underS9 (s := strOfNums l[i]) (by rw [strOfNums_size]; exact (HS.out.2.1 _ (List.getElem_mem hlt)).2))
      have hhas : Maps.has D (kyL l[i]) = decide (l[i] ∈ l.take i) := hr.has _ hbs
      have yb := hfi.bk.lt
      have yf := hfi.bk.free
      have yc := (hfi.bk.cell i).trans (fill_at hlt)
      have HYC := hid (fill_at hlt)
      clear x ho hr hfi hbs
      by_cases hm : l[i] ∈ l.take i
      · rw [decide_eq_true hm] at hhas
        have HAT := hid (show D.atKey (kyL l[i]) (.lit (.int .i64 0)) = .lit (.int .i64 (l.idxOf l[i] : Nat)) by rw [HR.out.at_ _ hm, idx_take hm])
        have HNX := hid (HF.out.next hlt (HO.out.mono (Nat.le_succ _)) (HR.out.old hm) (fun b _ _ => rfl) HF.out.bw)
        clear hm
        generalize (l.idxOf l[i] : Nat) = q at HAT HNX
        go_wp2_with (first
          | (at_lookup; refine wpList_lookup_own_ok_int _ rfl _ _ 72 rfl 9 3 .i64 lawS underM underMI (zeroMI _) w.heap.size i D rfl HO.out _ _ rfl HK.out ?_; intro c hat hwc; rw [show Maps.has D (.string (strOfNums l[i]).data.toList) = true from hhas]; clear hat hwc)
          | (at_lookup; refine wpList_lookup_own_int _ rfl _ _ 72 rfl 9 3 .i64 lawS underM underMI (zeroMI _) w.heap.size i D rfl HO.out _ _ rfl HK.out ?_; intro c hat hwc; obtain rfl : c = (q : Int) := (by have := HAT.out.symm.trans hat; injection this with e1; injection e1 with _ e2; exact e2.symm); clear hat hwc)
          | fail)
        go_roundw
        case rel => exact ⟨i + 1, by omega, by go_num, HNX.out⟩
        case measure => simp [intOf]; omega
      · rw [decide_eq_false hm] at hhas
        have hrs := HR.out.snoc HBS.out hm
        have hlen : (l.take i).length = i := by rw [List.length_take]; omega
        rw [hlen] at hrs
        have HRS := hid hrs
        have HAT := hid (show (D.put (kyL l[i]) (.lit (.int .i64 (i : Nat)))).atKey (kyL l[i]) (.lit (.int .i64 0)) = .lit (.int .i64 (l.idxOf l[i] : Nat)) by
          rw [hrs.at_ _ (List.mem_append.2 (.inr (List.mem_singleton.2 rfl))), ← List.take_succ_eq_append_getElem hlt, idx_take (by rw [List.take_succ_eq_append_getElem hlt]; exact List.mem_append.2 (.inr (List.mem_singleton.2 rfl)))])
        have HNX := hid (fun (w1 : World) (h1 : OM w1 w.heap.size (i + 1) (D.put (kyL l[i]) (.lit (.int .i64 (i : Nat))))) (h2 : wr.mapTurned w1 w.heap.size) => HF.out.next hlt h1 HRS.out (fun b hb hne => h2.grown.block b hb (fun e => hne (Option.some.inj e))) (bw_grownAt HF.out.bw h2.grown (Nat.le_refl _)))
        have HBK := hid (fun (w1 : World) (h2 : wr.mapTurned w1 w.heap.size) => HF.out.bk.grown h2.grown (by omega))
        clear hm hrs hlen
        generalize (l.idxOf l[i] : Nat) = q at HAT HNX
        go_wp2_with (first
          | (at_lookup; refine wpList_lookup_own_ok_int _ rfl _ _ 72 rfl 9 3 .i64 lawS underM underMI (zeroMI _) w.heap.size i D rfl HO.out _ _ rfl HK.out ?_; intro c hat hwc; rw [show Maps.has D (.string (strOfNums l[i]).data.toList) = false from hhas]; clear hat hwc)
          | (at_mapUpdate; refine wpList_mapUpdate_in _ rfl _ _ _ 72 rfl 9 3 lawS underM _ w.heap.size i D rfl HO.out (by unfold maxLen; omega) _ _ _ rfl rfl HK.out _ [] (plainElem_int underMI (WalkArith.wf_i64 (by omega))) ?_; intro w1 hown1 hturn1; have HO1 := hid hown1; have HN1 := hid (HNX.out w1 hown1 hturn1); have yb1 := (HBK.out w1 hturn1).lt; have yf1 := (HBK.out w1 hturn1).free; have yc1 := ((HBK.out w1 hturn1).cell i).trans HYC.out; clear hown1 hturn1)
          | (at_lookup; refine wpList_lookup_own_int _ rfl _ _ 72 rfl 9 3 .i64 lawS underM underMI (zeroMI _) w.heap.size (i + 1) _ rfl HO1.out _ _ rfl HK.out ?_; intro c hat hwc; obtain rfl : c = (q : Int) := (by have := HAT.out.symm.trans hat; injection this with e1; injection e1 with _ e2; exact e2.symm); clear hat hwc)
          | fail)
        go_roundw
        case rel => exact ⟨i + 1, by omega, by go_num, HN1.out⟩
        case measure => simp [intOf]; omega
    · obtain rfl : i = l.length := by omega
      have HBK := hid (show Blk wr (w.heap.size + 1) ((fpl l).map (Value.int .i64)).toArray 3 by have := hfi.bk; rwa [List.take_of_length_le (by rw [fpl_len]; omega), Nat.sub_self, List.replicate_zero, List.append_nil] at this)
      clear hlt hi hfi
      go_wp2
      all_goals go_ret
      all_goals exact ⟨⟨_, rfl, by omega, HBK.out⟩, HF.out.bw⟩

end

end Go.Proofs.YtcljlmjcjfmppaaDoor
