/- What a word looks like, as a string. · Objects behind some others, all references moved: what words look like; plain data. · The heap of a world whose objects stand behind some others. -/
import Derived.Test.YtimidonagbfjcaaGreatDoorK17
set_option linter.unusedSimpArgs false
set_option linter.unusedVariables false
namespace Go.Proofs.YtimidonagbfjcaaGreatDoor
open Go Go.RowKit

/-- A row of bytes. -/
def ByL (t : List Value) : Prop := ∃ L : List Int, t = L.map (Value.int .u8) ∧ ∀ c ∈ L, 0 ≤ c ∧ c ≤ 255

theorem byl_nil : ByL [] := ⟨[], rfl, fun c hc => by cases hc⟩
theorem byl_app {a b : List Value} (ha : ByL a) (hb : ByL b) : ByL (a ++ b) := by
  obtain ⟨L, rfl, hL⟩ := ha
  obtain ⟨M, rfl, hM⟩ := hb
  exact ⟨L ++ M, by simp, fun c hc => (List.mem_append.1 hc).elim (hL c) (hM c)⟩
theorem byl_one (c : Int) (h : 0 ≤ c ∧ c ≤ 255) : ByL [.int .u8 c] := ⟨[c], rfl, fun d hd => by rw [List.mem_singleton] at hd; subst hd; exact h⟩
theorem byl_str (s : ByteArray) : ByL (Lib.strCells s) := by
  refine ⟨s.data.toList.map (fun u => (u.toNat : Int)), by unfold Lib.strCells; simp [List.map_map, Function.comp_def], fun c hc => ?_⟩
  obtain ⟨u, _, rfl⟩ := List.mem_map.1 hc
  have := u.toNat_lt
  omega
theorem byl_btw (i : Nat) : ByL (btw i) := by
  rw [← btw_cells]; exact byl_str _
theorem byl_txs {f : Int → List Value} (hf : ∀ x, ByL (f x)) : ∀ (l : List Int) (i : Nat), ByL (txs f i l)
  | [], _ => byl_nil
  | x :: r, i => byl_app (byl_btw i) (byl_app (hf x) (byl_txs hf r (i + 1)))
theorem byl_fxs {f : Int → List Value} (hf : ∀ x, ByL (f x)) : ∀ (l : List (ByteArray × Int)) (i : Nat), ByL (fxs f i l)
  | [], _ => byl_nil
  | p :: r, i => byl_app (byl_btw i) (byl_app (byl_str p.1) (byl_app (byl_str ⟨#[58, 32]⟩) (byl_app (hf p.2) (byl_fxs hf r (i + 1)))))

theorem byl_tx (H : AHeap) : ∀ (n : Nat) (W : List Int) (v : Int), ByL (tx H n W v)
  | 0, _, _ => byl_nil
  | n + 1, W, v => by
    rw [tx]
    split
    · split
      · exact byl_str _
      · split
        · exact byl_app (byl_one 91 (by decide)) (byl_app (byl_txs (fun x => byl_tx H n _ x) _ _) (byl_one 93 (by decide)))
        · split
          · exact byl_app (byl_one 123 (by decide)) (byl_app (byl_fxs (fun x => byl_tx H n _ x) _ _) (byl_one 125 (by decide)))
          · exact byl_app (byl_one 38 (by decide)) (byl_tx H n _ _)
    · exact byl_str _

/-- What is shown of a word: nothing, if it is too long. -/
def shown (H : AHeap) (v : Int) : List Value := if fits [] (txt H v) = true then txt H v else []
/-- As a string. -/
def shownS (H : AHeap) (v : Int) : ByteArray := strOfNums ((shown H v).map intOf)

theorem shown_len (H : AHeap) (v : Int) : (shown H v).length ≤ 65536 := by
  unfold shown
  split
  · rename_i h
    have := fits_le h
    simpa using this
  · simp

theorem shown_byl (H : AHeap) (v : Int) : ByL (shown H v) := by
  unfold shown
  split
  · exact byl_tx H _ _ _
  · exact byl_nil

/-- The program's Text, and what it is as a string. -/
theorem text_str {b0 : Nat} {H : AHeap} {bs : List Nat} (hs : Sane H) (v : Int) (hU : U v) (w : World) (hp : Pd w) (h : HS w b0 H bs) :
    Calls Tryz.prog 11 #[.pointer (some ⟨b0, 0, none⟩), .int .u64 v] w fun e w' => ∃ r, e = .returned (.tuple #[r, .int .i64 (if fits [] (txt H v) = true then 0 else 2)]) ∧ (∀ w2, Bw w' w2 → (convert 30 9 r).run Tryz.prog w2 = .ok (.string (shownS H v)) w2) ∧ Bw w w' := by
  refine (text_any (fun o ho => (hs o ho).1) (fun o ho => (hs o ho).2) v hU w hp h).mono fun e w' ⟨r, he, ho, hb⟩ => ⟨r, he, fun w2 hb2 => ?_, hb⟩
  have hl := shown_len H v
  obtain ⟨L, hL, hLb⟩ := shown_byl H v
  have hz : shownS H v = strOfNums L := by
    unfold shownS
    rw [hL]
    simp [List.map_map, Function.comp_def, intOf]
  have ho2 : w2.ownsRow w.heap.size 5 1 r (shown H v).length (shown H v) := own_bw ho hb2
  rw [hL] at ho2 hl
  rw [List.length_map] at ho2 hl
  rw [hz]
  exact conv_own ho2 hLb (by omega)

end Go.Proofs.YtimidonagbfjcaaGreatDoor

set_option linter.unusedSimpArgs false
set_option linter.unusedVariables false
namespace Go.Proofs.YtimidonagbfjcaaGreatDoor
open Go Go.RowKit

/-- A word, a reference's index being greater by n. -/
def mv (n : Nat) (v : Int) : Int := if v % 4 = 2 ∧ v / 4 ≤ 1000 then v + 4 * (n : Int) else v
/-- An object of such words. -/
def mvO (n : Nat) (o : AObj) : AObj := withVals o (o.vals.map (mv n))

theorem kd_two {v : Int} : kd v = 2 ↔ v % 4 = 2 ∧ v / 4 ≤ 2147483647 := by
  unfold kd
  repeat' split
  all_goals omega

theorem mv_yes {n : Nat} {v : Int} (h : v % 4 = 2 ∧ v / 4 ≤ 1000) : mv n v = v + 4 * (n : Int) := if_pos h
theorem mv_no {n : Nat} {v : Int} (h : ¬ (v % 4 = 2 ∧ v / 4 ≤ 1000)) : mv n v = v := if_neg h

theorem mv_U {n : Nat} (hn : n ≤ 19) {v : Int} (h : U v) : U (mv n v) := by
  unfold mv
  unfold U at h ⊢
  split <;> omega

theorem mv_ref {n : Nat} (hn : n ≤ 19) {v : Int} (h : v % 4 = 2 ∧ v / 4 ≤ 1000) : kd (mv n v) = 2 ∧ kd v = 2 ∧ idxV (mv n v) = idxV v + n ∧ idxV v = v / 4 := by
  have h1 : kd v = 2 := kd_two.2 ⟨h.1, by omega⟩
  have h2 : kd (mv n v) = 2 := by rw [mv_yes h]; exact kd_two.2 ⟨by omega, by omega⟩
  refine ⟨h2, h1, ?_, ?_⟩
  · unfold idxV
    rw [if_pos (.inl h2), if_pos (.inl h1), mv_yes h]
    omega
  · unfold idxV
    rw [if_pos (.inl h1)]

/-- The same objects behind n others. -/
def Mvd (n : Nat) (H H' : AHeap) : Prop := H'.1 = H.1 ∧ H.2.length ≤ 100 ∧ ∃ C : List AObj, C.length = n ∧ H'.2 = C ++ H.2.map (mvO n)

theorem Mvd.len {n : Nat} {H H' : AHeap} (h : Mvd n H H') : H'.2.length = H.2.length + n := by
  obtain ⟨_, _, C, hC, e⟩ := h
  rw [e, List.length_append, List.length_map, hC]
  omega

theorem mvO_kind (n : Nat) (o : AObj) : (mvO n o).kind = o.kind := rfl

theorem getD_mv {n : Nat} {H H' : AHeap} (h : Mvd n H H') (i : Nat) (hi : i < H.2.length) : H'.2.getD (i + n) noObj = mvO n (H.2.getD i noObj) := by
  obtain ⟨_, _, C, hC, e⟩ := h
  rw [e, List.getD_eq_getElem?_getD, List.getD_eq_getElem?_getD, List.getElem?_append_right (by omega), show i + n - C.length = i by omega, List.getElem?_map, List.getElem?_eq_getElem hi]
  rfl

theorem kk_ob (H : AHeap) (v : Int) : kk H v = if kd v = 2 ∧ idxV v < H.2.length then (ob H v).kind else 0 := rfl

theorem ob_mv {n : Nat} (hn : n ≤ 19) {H H' : AHeap} (h : Mvd n H H') {v : Int} (hU : U v) (hr : v % 4 = 2 ∧ v / 4 ≤ 1000) (hi : idxV v < H.2.length) : ob H' (mv n v) = mvO n (ob H v) := by
  obtain ⟨_, _, h3, h4⟩ := mv_ref hn hr
  have h0 := idx_bd v hU
  unfold ob
  rw [h3, show (idxV v + (n : Int)).toNat = (idxV v).toNat + n by omega]
  exact getD_mv h _ (by omega)

theorem kk_mv {n : Nat} (hn : n ≤ 19) {H H' : AHeap} (h : Mvd n H H') {v : Int} (hU : U v) : kk H' (mv n v) = kk H v := by
  have hl := h.len
  have h100 := h.2.1
  rw [kk_ob, kk_ob]
  by_cases hr : v % 4 = 2 ∧ v / 4 ≤ 1000
  · obtain ⟨h1, h2, h3, h4⟩ := mv_ref hn hr
    by_cases hi : idxV v < H.2.length
    · rw [if_pos ⟨h1, by omega⟩, if_pos ⟨h2, hi⟩, ob_mv hn h hU hr hi]; rfl
    · rw [if_neg (by omega), if_neg (by omega)]
  · rw [mv_no hr]
    have hno : kd v = 2 → 1000 < idxV v := by
      intro e
      have e2 := kd_two.1 e
      unfold idxV
      rw [if_pos (.inl e)]
      omega
    rw [if_neg (by intro e; have := hno e.1; omega), if_neg (by intro e; have := hno e.1; omega)]

theorem ref_of {H : AHeap} (h100 : H.2.length ≤ 100) {v : Int} (hk : kk H v ≠ 0) : (v % 4 = 2 ∧ v / 4 ≤ 1000) ∧ idxV v < H.2.length := by
  obtain ⟨h1, h2, _⟩ := kk_ref hk
  have h3 := kd_two.1 h1
  have h4 : idxV v = v / 4 := by unfold idxV; rw [if_pos (.inl h1)]
  exact ⟨⟨h3.1, by omega⟩, h2⟩

theorem mv_inj {n : Nat} {H : AHeap} (h100 : H.2.length ≤ 100) {a b : Int} (ha : kk H a ≠ 0) (hb : kk H b ≠ 0) (e : mv n a = mv n b) : a = b := by
  rw [mv_yes (ref_of h100 ha).1, mv_yes (ref_of h100 hb).1] at e
  omega

theorem mv_zero (n : Nat) : mv n 0 = 0 := by unfold mv; rw [if_neg (by decide)]

theorem plL_mv {n : Nat} (hn : n ≤ 19) (v : Int) : plL (mv n v) = plL v := by
  by_cases hr : v % 4 = 2 ∧ v / 4 ≤ 1000
  · obtain ⟨h1, h2, _, _⟩ := mv_ref hn hr
    unfold plL
    rw [if_neg (by omega), if_neg (by omega), if_neg (by omega), if_neg (by omega), if_neg (by omega), if_neg (by omega)]
  · rw [mv_no hr]

theorem field_mv {n : Nat} (hn : n ≤ 19) {H H' : AHeap} (h : Mvd n H H') {v : Int} (hU : U v) (hk : kk H v ≠ 0) (s : ByteArray) : aFieldV H' (mv n v) s = mv n (aFieldV H v s) := by
  have hr := ref_of h.2.1 hk
  unfold aFieldV
  rw [kk_mv hn h hU, ob_mv hn h hU hr.1 hr.2]
  split
  · show (if 0 ≤ aKey (ob H v).keys s then ((ob H v).vals.map (mv n)).getD (aKey (ob H v).keys s).toNat 0 else 0) = _
    split
    · rw [List.getD_eq_getElem?_getD, List.getD_eq_getElem?_getD, List.getElem?_map]
      cases (ob H v).vals[(aKey (ob H v).keys s).toNat]? with
      | none => exact (mv_zero n).symm
      | some x => rfl
    · exact (mv_zero n).symm
  · exact (mv_zero n).symm

theorem at_mv {n : Nat} (hn : n ≤ 19) {H H' : AHeap} (h : Mvd n H H') {v : Int} (hU : U v) (hk : kk H v = 4) (i : Int) : aAtV H' (mv n v) i = mv n (aAtV H v i) := by
  have hr := ref_of h.2.1 (by omega : kk H v ≠ 0)
  have e1 : aAtV H v i = if 0 ≤ i ∧ i < (ob H v).vals.length then (ob H v).vals.getD i.toNat 0 else 0 := by
    unfold aAtV
    rw [if_neg (by omega : ¬ kk H v = 1), if_pos (.inr hk : kk H v = 2 ∨ kk H v = 4)]
  have e2 : aAtV H' (mv n v) i = if 0 ≤ i ∧ i < (((ob H v).vals.map (mv n)).length : Int) then ((ob H v).vals.map (mv n)).getD i.toNat 0 else 0 := by
    unfold aAtV
    rw [kk_mv hn h hU, ob_mv hn h hU hr.1 hr.2, if_neg (by omega : ¬ kk H v = 1), if_pos (.inr hk : kk H v = 2 ∨ kk H v = 4)]
    rfl
  rw [e1, e2, List.length_map]
  split
  · rw [List.getD_eq_getElem?_getD, List.getD_eq_getElem?_getD, List.getElem?_map]
    cases (ob H v).vals[i.toNat]? with
    | none => exact (mv_zero n).symm
    | some x => rfl
  · exact (mv_zero n).symm

theorem wdL_mv {n : Nat} (hn : n ≤ 19) {H H' : AHeap} (h : Mvd n H H') {v : Int} (hU : U v) : wdL H' (mv n v) = wdL H v := by
  unfold wdL
  rw [kk_mv hn h hU]
  by_cases k0 : kk H v = 0
  · rw [if_pos k0, if_pos k0, plL_mv hn]
  · have hr := ref_of h.2.1 k0
    rw [ob_mv hn h hU hr.1 hr.2, if_neg k0, if_neg k0]
    rfl

theorem txs_mv {n : Nat} {f g : Int → List Value} : ∀ (l : List Int) (i : Nat), (∀ x ∈ l, g (mv n x) = f x) → txs g i (l.map (mv n)) = txs f i l
  | [], _, _ => rfl
  | x :: r, i, h => by
    rw [List.map_cons, txs, txs, h x (List.mem_cons_self ..), txs_mv r (i + 1) (fun y hy => h y (List.mem_cons_of_mem _ hy))]

theorem fxs_mv {n : Nat} {f g : Int → List Value} : ∀ (l : List (ByteArray × Int)) (i : Nat), (∀ p ∈ l, g (mv n p.2) = f p.2) → fxs g i (l.map fun p => (p.1, mv n p.2)) = fxs f i l
  | [], _, _ => rfl
  | p :: r, i, h => by
    rw [List.map_cons, fxs, fxs, h p (List.mem_cons_self ..), fxs_mv r (i + 1) (fun y hy => h y (List.mem_cons_of_mem _ hy))]

theorem idxOf_map {f : Int → Int} : ∀ (W : List Int) (v : Int), (∀ x ∈ W, f x = f v → x = v) → (W.map f).idxOf (f v) = W.idxOf v
  | [], _, _ => rfl
  | x :: r, v, h => by
    rw [List.map_cons, List.idxOf_cons, List.idxOf_cons, idxOf_map r v (fun y hy => h y (List.mem_cons_of_mem _ hy))]
    by_cases e : x = v
    · subst e; simp
    · have e2 : ¬ f x = f v := fun e' => e (h x (List.mem_cons_self ..) e')
      simp [beq_eq_false_iff_ne.2 e, beq_eq_false_iff_ne.2 e2]

/-- What is moved looks as it did. -/
theorem tx_mv {n : Nat} (hn : n ≤ 19) {H H' : AHeap} (h : Mvd n H H') (hok : HOK H) : ∀ (k : Nat) (W : List Int) (v : Int), (∀ x ∈ W, kk H x ≠ 0) → U v → tx H' k (W.map (mv n)) (mv n v) = tx H k W v
  | 0, _, _, _, _ => rfl
  | k + 1, W, v, hW, hU => by
    rw [tx, tx, kk_mv hn h hU]
    by_cases hk : (kk H v == 2 || kk H v == 3 || kk H v == 4) = true
    · rw [if_pos hk, if_pos hk]
      have hk0 : kk H v ≠ 0 := by intro e; rw [e] at hk; revert hk; decide
      have hr := ref_of h.2.1 hk0
      have hm := ob_in hU hk0
      have hinj : ∀ x ∈ W, mv n x = mv n v → x = v := fun x hx e => mv_inj h.2.1 (hW x hx) hk0 e
      by_cases hv : v ∈ W
      · have hv' : mv n v ∈ W.map (mv n) := List.mem_map.2 ⟨v, hv, rfl⟩
        rw [if_pos hv, if_pos hv', idxOf_map W v hinj, List.length_map]
      · have hv' : mv n v ∉ W.map (mv n) := by
          intro hm'
          obtain ⟨x, hx, e⟩ := List.mem_map.1 hm'
          exact hv (hinj x hx e ▸ hx)
        rw [if_neg hv, if_neg hv']
        have hW' : ∀ x ∈ W ++ [v], kk H x ≠ 0 := by
          intro x hx
          rcases List.mem_append.1 hx with hx | hx
          · exact hW x hx
          · rw [List.mem_singleton] at hx; subst hx; exact hk0
        have ew : W.map (mv n) ++ [mv n v] = (W ++ [v]).map (mv n) := by simp
        have ih := fun x (hx : U x) => tx_mv hn h hok k (W ++ [v]) x hW' hx
        rw [ew]
        by_cases k2 : kk H v = 2
        · rw [if_pos k2, if_pos k2, ob_mv hn h hU hr.1 hr.2]
          show [Value.int .u8 91] ++ (txs _ 0 ((ob H v).vals.map (mv n)) ++ [Value.int .u8 93]) = _
          rw [txs_mv _ _ (fun x hx => ih x ((hok _ hm).2.2.2.1 x hx))]
        · rw [if_neg k2, if_neg k2]
          by_cases k3 : kk H v = 3
          · rw [if_pos k3, if_pos k3]
            have ef : flds H' (mv n v) = (flds H v).map fun p => (p.1, mv n p.2) := by
              unfold flds
              rw [ob_mv hn h hU hr.1 hr.2, List.map_map]
              show (ob H v).keys.map _ = _
              apply List.map_congr_left
              intro s _
              simp only [Function.comp, field_mv hn h hU hk0]
            rw [ef, fxs_mv]
            intro p hp
            unfold flds at hp
            obtain ⟨s, _, rfl⟩ := List.mem_map.1 hp
            exact ih _ (field_U hok hU k3)
          · rw [if_neg k3, if_neg k3]
            have k4 : kk H v = 4 := by
              simp only [Bool.or_eq_true, beq_iff_eq] at hk
              omega
            rw [at_mv hn h hU k4, ih _ (at_U hok hU k4)]
    · rw [if_neg hk, if_neg hk, wdL_mv hn h hU]

theorem tx_succ (H : AHeap) (n : Nat) (W : List Int) (v : Int) : tx H (n + 1) W v =
    if (kk H v == 2 || kk H v == 3 || kk H v == 4) = true then
      if v ∈ W then Lib.strCells (⟨#[94]⟩ ++ strOfNums (itoaL ((W.length : Int) - (W.idxOf v : Int))))
      else if kk H v = 2 then [.int .u8 91] ++ (txs (tx H n (W ++ [v])) 0 (ob H v).vals ++ [.int .u8 93])
      else if kk H v = 3 then [.int .u8 123] ++ (fxs (tx H n (W ++ [v])) 0 (flds H v) ++ [.int .u8 125])
      else [.int .u8 38] ++ tx H n (W ++ [v]) (aAtV H v 0)
    else Lib.strCells (strOfNums (wdL H v)) := rfl

/-- More fuel changes nothing. -/
theorem tx_fuel {H : AHeap} (hok : HOK H) : ∀ (k : Nat) (W : List Int) (v : Int), H.2.length < k + W.length → W.Nodup → (∀ x ∈ W, U x ∧ kk H x ≠ 0) → U v → tx H (k + 1) W v = tx H k W v
  | 0, W, v, hf, hnd, hW, _ => by
    have := within_len hnd hW
    omega
  | k + 1, W, v, hf, hnd, hW, hU => by
    rw [tx_succ H (k + 1) W v, tx_succ H k W v]
    by_cases hk : (kk H v == 2 || kk H v == 3 || kk H v == 4) = true
    · rw [if_pos hk, if_pos hk]
      have hk0 : kk H v ≠ 0 := by intro e; rw [e] at hk; revert hk; decide
      have hm := ob_in hU hk0
      by_cases hv : v ∈ W
      · rw [if_pos hv, if_pos hv]
      · rw [if_neg hv, if_neg hv]
        have hnd' : (W ++ [v]).Nodup := by
          rw [List.nodup_append]
          refine ⟨hnd, by simp, ?_⟩
          intro a ha b hb e
          rw [List.mem_singleton] at hb
          exact hv (hb ▸ e ▸ ha)
        have hW' : ∀ x ∈ W ++ [v], U x ∧ kk H x ≠ 0 := by
          intro x hx'
          rcases List.mem_append.1 hx' with h | h
          · exact hW x h
          · rw [List.mem_singleton] at h; subst h; exact ⟨hU, hk0⟩
        have hf' : H.2.length < k + (W ++ [v]).length := by rw [List.length_append, List.length_singleton]; omega
        have ih := fun x (hx : U x) => tx_fuel hok k (W ++ [v]) x hf' hnd' hW' hx
        by_cases k2 : kk H v = 2
        · rw [if_pos k2, if_pos k2]
          have : ∀ (l : List Int) (i : Nat), (∀ x ∈ l, U x) → txs (tx H (k + 1) (W ++ [v])) i l = txs (tx H k (W ++ [v])) i l := by
            intro l
            induction l with
            | nil => intro _ _; rfl
            | cons x r ihl => intro i hu; rw [txs, txs, ih x (hu x (List.mem_cons_self ..)), ihl (i + 1) (fun y hy => hu y (List.mem_cons_of_mem _ hy))]
          rw [this _ _ (hok _ hm).2.2.2.1]
        · rw [if_neg k2, if_neg k2]
          by_cases k3 : kk H v = 3
          · rw [if_pos k3, if_pos k3]
            have : ∀ (l : List (ByteArray × Int)) (i : Nat), (∀ p ∈ l, U p.2) → fxs (tx H (k + 1) (W ++ [v])) i l = fxs (tx H k (W ++ [v])) i l := by
              intro l
              induction l with
              | nil => intro _ _; rfl
              | cons p r ihl => intro i hu; rw [fxs, fxs, ih p.2 (hu p (List.mem_cons_self ..)), ihl (i + 1) (fun y hy => hu y (List.mem_cons_of_mem _ hy))]
            rw [this _ _ (fun p hp => by
              unfold flds at hp
              obtain ⟨s, _, rfl⟩ := List.mem_map.1 hp
              exact field_U hok hU k3)]
          · rw [if_neg k3, if_neg k3]
            have k4 : kk H v = 4 := by
              simp only [Bool.or_eq_true, beq_iff_eq] at hk
              omega
            rw [ih _ (at_U hok hU k4)]
    · rw [if_neg hk, if_neg hk]

theorem txt_mv {n : Nat} (hn : n ≤ 19) {H H' : AHeap} (h : Mvd n H H') (hok : HOK H) {v : Int} (hU : U v) : txt H' (mv n v) = txt H v := by
  unfold txt
  have h1 := tx_mv hn h hok (H'.2.length + 1) [] v (by simp) hU
  rw [List.map_nil] at h1
  rw [h1, h.len]
  have : ∀ m, tx H (H.2.length + m + 1) [] v = tx H (H.2.length + 1) [] v := by
    intro m
    induction m with
    | zero => rfl
    | succ m ih =>
      rw [← ih]
      exact tx_fuel hok (H.2.length + m + 1) [] v (by simp; omega) (by simp) (by simp) hU
  exact this n

theorem gd_mv {n : Nat} (hn : n ≤ 19) {a : Nat} (ha : a ≤ 100) (v : Int) : gd (a + n) (mv n v) = gd a v := by
  unfold gd
  by_cases hr : v % 4 = 2 ∧ v / 4 ≤ 1000
  · obtain ⟨h1, h2, h3, h4⟩ := mv_ref hn hr
    rw [h1, h2, h3]
    have e : decide (idxV v + (n : Int) < ((a + n : Nat) : Int)) = decide (idxV v < (a : Int)) := by
      by_cases hq : idxV v < (a : Int)
      · rw [decide_eq_true hq, decide_eq_true (by omega)]
      · rw [decide_eq_false hq, decide_eq_false (by omega)]
    rw [e]
  · rw [mv_no hr]
    by_cases hk : kd v = 2
    · have e2 := kd_two.1 hk
      have hi : 1000 < idxV v := by unfold idxV; rw [if_pos (.inl hk)]; omega
      rw [decide_eq_false (by omega : ¬ idxV v < ((a + n : Nat) : Int)), decide_eq_false (by omega : ¬ idxV v < (a : Int))]
    · rw [decide_eq_true (by omega : kd v ≠ 2)]
      simp

end Go.Proofs.YtimidonagbfjcaaGreatDoor

set_option linter.unusedSimpArgs false
set_option linter.unusedVariables false
namespace Go.Proofs.YtimidonagbfjcaaGreatDoor
open Go Go.RowKit

theorem mkOK_mv (n : Nat) (o : AObj) : mkOK (mvO n o) = mkOK o := by
  unfold mkOK
  show (decide (1 ≤ o.kind) && decide (o.kind ≤ 9) && (decide (o.kind ≠ 4) || decide ((o.vals.map (mv n)).length = 1))) = _
  rw [List.length_map]

theorem plO_mv (n : Nat) (o : AObj) : plO (mvO n o) = mvO n (plO o) := by
  unfold plO
  show (if o.kind = 1 then oStr o.bytes else if o.kind = 2 then oArr (o.vals.map (mv n)) else if o.kind = 3 then oRec o.keys (o.vals.map (mv n)) else if o.kind = 4 then (4, [], o.vals.map (mv n), [], 0, 0, 0) else if o.kind = 5 then oFun o.num (o.vals.map (mv n)) else if o.kind = 6 then oCplx o.re o.im else oItem o.kind o.num) = _
  repeat' split
  all_goals rfl

theorem pLong_mv (n : Nat) (o : AObj) : pLong (mvO n o) = pLong o := by
  unfold pLong
  show (if o.kind = 1 then decide ((65536 : Int) < o.bytes.length) else if o.kind = 2 then decide ((65536 : Int) < ((o.vals.map (mv n)).length : Int)) else if o.kind = 3 then decide ((256 : Int) < o.keys.length) else if o.kind = 5 then decide ((256 : Int) < ((o.vals.map (mv n)).length : Int)) else false) = _
  rw [List.length_map]

theorem all_mv {n : Nat} (hn : n ≤ 19) {a : Nat} (ha : a ≤ 100) (l : List Int) : (l.map (mv n)).all (gd (a + n)) = l.all (gd a) := by
  rw [List.all_map]
  congr 1
  funext x
  exact gd_mv hn ha x

theorem pSound_mv {n : Nat} (hn : n ≤ 19) {a : Nat} (ha : a ≤ 100) (o : AObj) : pSound (a + n) (mvO n o) = pSound a o := by
  have e1 : (mvO n o).kind = o.kind := rfl
  have e2 : (mvO n o).vals = o.vals.map (mv n) := rfl
  have e3 : (mvO n o).keys = o.keys := rfl
  have e4 : (mvO n o).num = o.num := rfl
  unfold pSound
  rw [e1, e2, e3, e4, all_mv hn ha, List.length_map]

theorem mk_mv {n : Nat} (hn : n ≤ 19) {H H' : AHeap} (h : Mvd n H H') (h1 : H.1 = 100) (h2 : H.2.length ≤ 80) (o : AObj) : Mvd n (mkH H o) (mkH H' (mvO n o)) := by
  have hl := h.len
  unfold mkH
  rw [mkOK_mv, plO_mv]
  split
  · generalize plO o = p
    have eE : aMakeE H' (mvO n p) = aMakeE H p := by
      unfold aMakeE
      rw [pLong_mv, hl, pSound_mv hn (by omega), h.1]
      repeat' split
      all_goals first | rfl | omega
    unfold aMakeH
    rw [eE]
    split
    · obtain ⟨a1, a2, C, hC, e⟩ := h
      refine ⟨a1, by simp only [List.length_append, List.length_singleton]; omega, C, hC, ?_⟩
      show H'.2 ++ [mvO n p] = C ++ (H.2 ++ [p]).map (mvO n)
      rw [e]; simp
    · exact h
  · exact h

theorem mkH_more (H : AHeap) (o : AObj) : (mkH H o).1 = H.1 ∧ (mkH H o).2.length ≤ H.2.length + 1 := by
  unfold mkH
  split
  · unfold aMakeH
    split
    · exact ⟨rfl, by simp⟩
    · exact ⟨rfl, by omega⟩
  · exact ⟨rfl, by omega⟩

theorem fold_mv {n : Nat} (hn : n ≤ 19) : ∀ (Os : List AObj) (H H' : AHeap), Mvd n H H' → H.1 = 100 → H.2.length + Os.length ≤ 80 → Mvd n (Os.foldl mkH H) ((Os.map (mvO n)).foldl mkH H')
  | [], H, H', h, _, _ => h
  | o :: r, H, H', h, h1, h2 => by
    have hm := mkH_more H o
    rw [List.length_cons] at h2
    exact fold_mv hn r _ _ (mk_mv hn h h1 (by omega) o) (hm.1.trans h1) (by omega)

/-- An entry that is written behind, moved. -/
def mvW (n : Nat) (x : Int × Int × Int) : Int × Int × Int := (mv n x.1, x.2.1, mv n x.2.2)

theorem wr_mv {n : Nat} (hn : n ≤ 19) {H H' : AHeap} (h : Mvd n H H') (x : Int × Int × Int) (hU : U x.1) : Mvd n (wrH H x) (wrH H' (mvW n x)) := by
  have hl := h.len
  have h100 := h.2.1
  unfold wrH aSetH mvW
  simp only
  rw [kk_mv hn h hU, hl, gd_mv hn h100]
  by_cases hk : kk H x.1 = 2 ∨ kk H x.1 = 4
  · have hk0 : kk H x.1 ≠ 0 := by omega
    have hr := ref_of h100 hk0
    have eo := ob_mv hn h hU hr.1 hr.2
    have ev : (ob H' (mv n x.1)).vals = (ob H x.1).vals.map (mv n) := by rw [eo]; rfl
    obtain ⟨_, _, e3, _⟩ := mv_ref hn hr.1
    have hb := idx_bd x.1 hU
    rw [ev, List.length_map]
    split
    · obtain ⟨a1, a2, C, hC, e⟩ := h
      refine ⟨a1, by simpa using a2, C, hC, ?_⟩
      show H'.2.set (idxV (mv n x.1)).toNat (withVals (ob H' (mv n x.1)) (((ob H x.1).vals.map (mv n)).set x.2.1.toNat (mv n x.2.2))) = C ++ (H.2.set (idxV x.1).toNat (withVals (ob H x.1) ((ob H x.1).vals.set x.2.1.toNat x.2.2))).map (mvO n)
      rw [e3, show (idxV x.1 + (n : Int)).toNat = (idxV x.1).toNat + n by omega, e, List.set_append_right _ _ (by omega), show (idxV x.1).toNat + n - C.length = (idxV x.1).toNat by omega, List.map_set, eo]
      congr 2
      show withVals (mvO n (ob H x.1)) _ = mvO n (withVals (ob H x.1) _)
      unfold mvO
      show withVals (withVals (ob H x.1) _) _ = withVals (withVals (ob H x.1) _) (((ob H x.1).vals.set x.2.1.toNat x.2.2).map (mv n))
      rw [List.map_set]
      rfl
    · exact h
  · rw [if_neg (fun c => hk c.1), if_neg (fun c => hk c.1)]
    exact h

theorem foldW_mv {n : Nat} (hn : n ≤ 19) : ∀ (Ws : List (Int × Int × Int)) (H H' : AHeap), (∀ x ∈ Ws, U x.1) → Mvd n H H' → Mvd n (Ws.foldl wrH H) ((Ws.map (mvW n)).foldl wrH H')
  | [], H, H', _, h => h
  | x :: r, H, H', hu, h => foldW_mv hn r _ _ (fun y hy => hu y (List.mem_cons_of_mem _ hy)) (wr_mv hn h x (hu x (List.mem_cons_self ..)))

/-- The objects that stand ahead. -/
def cob (i : Nat) : AObj := (6, [], [], [], 0, (i : Int), 0)

theorem mk_cob (C : List AObj) (i : Nat) (h : C.length ≤ 80) : mkH (100, C) (cob i) = (100, C ++ [cob i]) := by
  have e1 : mkOK (cob i) = true := rfl
  have e2 : plO (cob i) = cob i := rfl
  have e3 : aMakeE (100, C) (cob i) = 0 := by
    unfold aMakeE
    rw [if_neg (by simp [pLong, cob, AObj.kind]), if_neg (by simp [pSound, cob, AObj.kind, AObj.num]), if_neg (by show ¬ (100 : Int) ≤ (C.length : Int); omega)]
  unfold mkH
  rw [if_pos e1, e2]
  unfold aMakeH
  rw [if_pos e3]

theorem ahead (n : Nat) (hn : n ≤ 19) : ∃ C : List AObj, C.length = n ∧ ((List.range n).map cob).foldl mkH (100, []) = (100, C) := by
  induction n with
  | zero => exact ⟨[], rfl, rfl⟩
  | succ n ih =>
    obtain ⟨C, hC, e⟩ := ih (by omega)
    refine ⟨C ++ [cob n], by simp [hC], ?_⟩
    rw [List.range_succ, List.map_append, List.foldl_append, e]
    exact mk_cob C n (by omega)

/-- The heap of a moved world is the moved heap. -/
theorem made_mv {n : Nat} (hn : n ≤ 19) (Os : List AObj) (Ws : List (Int × Int × Int)) (hO : Os.length ≤ 30) (hu : ∀ x ∈ Ws, U x.1) : Mvd n (madeH Os Ws) (madeH ((List.range n).map cob ++ Os.map (mvO n)) (Ws.map (mvW n))) := by
  obtain ⟨C, hC, e⟩ := ahead n hn
  unfold madeH
  rw [List.foldl_append, e]
  exact foldW_mv hn Ws _ _ hu (fold_mv hn Os _ _ ⟨rfl, by simp, C, hC, by simp⟩ rfl (by simp; omega))

end Go.Proofs.YtimidonagbfjcaaGreatDoor

