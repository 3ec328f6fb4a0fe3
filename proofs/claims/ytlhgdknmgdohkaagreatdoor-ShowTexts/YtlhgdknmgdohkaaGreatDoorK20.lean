/- What a word looks like: the document's text and the program's, plain data. · What a word looks like: the document's Text, whole. -/
import Derived.Test.YtlhgdknmgdohkaaGreatDoorVLk
import Derived.Test.YtlhgdknmgdohkaaGreatDoorVMk
set_option linter.unusedSimpArgs false
set_option linter.unusedVariables false
namespace Go.Proofs.YtlhgdknmgdohkaaGreatDoor
open Go Go.RowKit

/-- What a word looks like, by the document's text. -/
def dx (H : AHeap) : Nat → List Int → Int → List Int
  | 0, _, _ => []
  | n + 1, W, v =>
    if (kk H v == 2 || kk H v == 3 || kk H v == 4) = true then
      if v ∈ W then [94] ++ itoaL ((W.length : Int) - (W.idxOf v : Int))
      else if kk H v = 2 then dlp (dx H n (W ++ [v])) ((ob H v).vals.map fun x => (([] : List Int), x)) 0 [91] ++ [93]
      else if kk H v = 3 then dlp (dx H n (W ++ [v])) (((ob H v).keys.zip (ob H v).vals).map fun q => (keyL q.1 ++ [58, 32], q.2)) 0 [123] ++ [125]
      else [38] ++ dx H n (W ++ [v]) ((ob H v).vals.getD 0 0)
    else wdL H v

theorem dlp_len {f : Int → List Int} {B M : Nat} (hM : 65536 + 2 + 1000000002 + B ≤ M) : ∀ (L : List (List Int × Int)) (i : Nat) (s : List Int), (∀ p ∈ L, p.1.length ≤ 1000000002 ∧ (f p.2).length ≤ B) → s.length ≤ M → (dlp f L i s).length ≤ M
  | [], _, s, _, h => h
  | p :: r, i, s, hL, h => by
    unfold dlp
    split
    · rename_i hs
      obtain ⟨h1, h2⟩ := hL p (List.mem_cons_self ..)
      have hb : (btwL i).length ≤ 2 := by unfold btwL; split <;> simp
      exact dlp_len hM r _ _ (fun q hq => hL q (List.mem_cons_of_mem _ hq)) (by simp only [List.length_append]; omega)
    · exact h

theorem dx_len {H : AHeap} (hok : HOK H) (hs : Sane H) : ∀ (n : Nat) (W : List Int) (v : Int), W.length + n ≤ 1000000 → U v → n ≤ 1000 → (dx H n W v).length ≤ n * 1000100000 + 5000000
  | 0, _, _, _, _, _ => by simp [dx]
  | n + 1, W, v, hW, hU, hn => by
    have hWv : (W ++ [v]).length + n ≤ 1000000 := by rw [List.length_append, List.length_singleton]; omega
    have ih := fun x hx => dx_len hok hs n (W ++ [v]) x hWv hx (by omega)
    rw [dx]
    split
    · rename_i hk
      have hk0 : kk H v ≠ 0 := by intro e; rw [e] at hk; revert hk; decide
      have hm := ob_in hU hk0
      split
      · have hix : W.idxOf v ≤ W.length := List.idxOf_le_length
        have := itoaL_len ((W.length : Int) - (W.idxOf v : Int)) (by omega) (by omega)
        simp only [List.length_append, List.length_cons, List.length_nil]
        omega
      · split
        · have := dlp_len (f := dx H n (W ++ [v])) (B := n * 1000100000 + 5000000) (M := 65536 + 2 + 1000000002 + (n * 1000100000 + 5000000)) (Nat.le_refl _) ((ob H v).vals.map fun x => (([] : List Int), x)) 0 [91] (fun p hp => by
            obtain ⟨x, hx, rfl⟩ := List.mem_map.1 hp
            exact ⟨by simp, ih x ((hok _ hm).2.2.2.1 x hx)⟩) (by simp)
          simp only [List.length_append, List.length_cons, List.length_nil]
          omega
        · split
          · have := dlp_len (f := dx H n (W ++ [v])) (B := n * 1000100000 + 5000000) (M := 65536 + 2 + 1000000002 + (n * 1000100000 + 5000000)) (Nat.le_refl _) (((ob H v).keys.zip (ob H v).vals).map fun q => (keyL q.1 ++ [58, 32], q.2)) 0 [123] (fun p hp => by
              obtain ⟨⟨s, x⟩, hx, rfl⟩ := List.mem_map.1 hp
              obtain ⟨h1, h2⟩ := List.of_mem_zip hx
              have h3 := (hs _ hm).2 s h1
              refine ⟨?_, ih x ((hok _ hm).2.2.2.1 x h2)⟩
              simp only [List.length_append, List.length_cons, List.length_nil, keyL_len]
              omega) (by simp)
            simp only [List.length_append, List.length_cons, List.length_nil]
            omega
          · have hx : U ((ob H v).vals.getD 0 0) := by
              rw [List.getD_eq_getElem?_getD]
              cases h : (ob H v).vals[0]? with
              | none => exact ⟨by decide, by decide⟩
              | some x => exact (hok _ hm).2.2.2.1 x (List.mem_of_getElem? h)
            have := ih _ hx
            simp only [List.length_append, List.length_cons, List.length_nil]
            omega
    · have := wdL_len hU hok (fun o ho => (hs o ho).1)
      omega

/-- One is the other, or both are too long. -/
def Rel (d : List Int) (t : List Value) : Prop := (t.length ≤ 65536 → t = d.map (Value.int .u8)) ∧ (65536 < t.length → 65536 < d.length)

theorem Rel.eq {d : List Int} {t : List Value} (h : t = d.map (Value.int .u8)) : Rel d t := ⟨fun _ => h, fun k => by rw [h] at k; simpa using k⟩

/-- Entry by entry, the program. -/
def tts (g : Int → List Value) : Nat → List (List Int × Int) → List Value
  | _, [] => []
  | i, p :: r => btw i ++ (p.1.map (Value.int .u8) ++ (g p.2 ++ tts g (i + 1) r))

theorem btw_L (i : Nat) : btw i = (btwL i).map (Value.int .u8) := by unfold btw btwL; split <;> rfl

theorem dlp_rel {f : Int → List Int} {g : Int → List Value} : ∀ (L : List (List Int × Int)) (i : Nat) (s : List Int), (∀ p ∈ L, Rel (f p.2) (g p.2)) →
    (s.length + (tts g i L).length ≤ 65536 → (dlp f L i s).map (Value.int .u8) = s.map (Value.int .u8) ++ tts g i L) ∧ (65536 < s.length + (tts g i L).length → 65536 < (dlp f L i s).length)
  | [], i, s, _ => ⟨fun _ => by simp [dlp, tts], fun h => by simpa [dlp, tts] using h⟩
  | p :: r, i, s, hL => by
    have hp := hL p (List.mem_cons_self ..)
    have ih := dlp_rel (f := f) (g := g) r (i + 1) (s ++ (btwL i ++ (p.1 ++ f p.2))) (fun q hq => hL q (List.mem_cons_of_mem _ hq))
    unfold dlp
    rw [tts]
    by_cases hs : s.length ≤ 65536
    · rw [if_pos hs]
      by_cases hg : (g p.2).length ≤ 65536
      · have e := hp.1 hg
        have el : (g p.2).length = (f p.2).length := by rw [e]; simp
        have hlen : (s ++ (btwL i ++ (p.1 ++ f p.2))).length + (tts g (i + 1) r).length = s.length + (btw i ++ (p.1.map (Value.int .u8) ++ (g p.2 ++ tts g (i + 1) r))).length := by
          rw [btw_L]; simp only [List.length_append, List.length_map, el]; omega
        rw [hlen] at ih
        refine ⟨fun h => ?_, ih.2⟩
        rw [ih.1 h, btw_L, e]
        simp [List.append_assoc]
      · have hf := hp.2 (by omega)
        refine ⟨fun h => ?_, fun _ => ih.2 ?_⟩
        · simp only [List.length_append, List.length_map] at h; omega
        · simp only [List.length_append]; omega
    · rw [if_neg hs]
      exact ⟨fun h => by omega, fun _ => by omega⟩

theorem txs_tts (g : Int → List Value) : ∀ (l : List Int) (i : Nat), txs g i l = tts g i (l.map fun x => (([] : List Int), x))
  | [], _ => rfl
  | x :: r, i => by rw [txs, List.map_cons, tts, txs_tts g r (i + 1)]; rfl

theorem strCells_key (s : ByteArray) : Lib.strCells s = (keyL s).map (Value.int .u8) := by
  unfold Lib.strCells keyL
  simp [List.map_map, Function.comp_def]

theorem fxs_tts (g : Int → List Value) : ∀ (l : List (ByteArray × Int)) (i : Nat), fxs g i l = tts g i (l.map fun q => (keyL q.1 ++ [58, 32], q.2))
  | [], _ => rfl
  | q :: r, i => by
    rw [fxs, List.map_cons, tts, fxs_tts g r (i + 1), strCells_key]
    simp [List.append_assoc]

theorem flds_zip {H : AHeap} (hok : HOK H) (hn : Neat H) {v : Int} (hU : U v) (hk : kk H v = 3) : flds H v = (ob H v).keys.zip (ob H v).vals := by
  have hm := ob_in hU (by omega : kk H v ≠ 0)
  have hr := kk_ref (H := H) (v := v) (by omega)
  have hl : (ob H v).keys.length = (ob H v).vals.length := (hok _ hm).2.2.1 (by omega)
  unfold flds
  apply List.ext_getElem
  · simp [hl]
  · intro i h1 h2
    rw [List.getElem_map, List.getElem_zip]
    have hi : i < (ob H v).keys.length := by simpa using h1
    have hkey : aKey (ob H v).keys (ob H v).keys[i] = i := aKey_hit hi rfl (fun j hj e' => by
      have hnd := (hn _ hm).1
      have := (List.getElem_inj hnd).1 e'
      omega)
    have hf : aFieldV H v (ob H v).keys[i] = (ob H v).vals[i]'(by omega) := by
      unfold aFieldV
      rw [if_pos hk, hkey, if_pos (by omega)]
      simp [show i < (ob H v).vals.length by omega]
    rw [hf]

theorem wdL_byte {H : AHeap} (hok : HOK H) {v : Int} (hU : U v) : ∀ c ∈ wdL H v, 0 ≤ c ∧ c ≤ 255 := by
  have app : ∀ {a b : List Int}, (∀ c ∈ a, 0 ≤ c ∧ c ≤ 255) → (∀ c ∈ b, 0 ≤ c ∧ c ≤ 255) → ∀ c ∈ a ++ b, 0 ≤ c ∧ c ≤ 255 := fun ha hb c hc => (List.mem_append.1 hc).elim (ha c) (hb c)
  unfold wdL
  by_cases k0 : kk H v = 0
  · rw [if_pos k0]; exact plL_byte v
  have hoo := ob_ok (v := v) hok hU (kk_ref k0).2.1
  rw [if_neg k0]
  split
  · exact qStr_byte hoo.2.2.2.2.1
  · split
    · exact app (by decide) (itoaL_byte _)
    · split
      · exact app (app (app (app (by decide) (nibs_byte _ _)) (by decide)) (nibs_byte _ _)) (by decide)
      · split
        · exact app (by decide) (itoaL_byte _)
        · split
          · exact app (by decide) (itoaL_byte _)
          · exact app (by decide) (itoaL_byte _)

theorem rel_wrap {a c : Int} {d : List Int} {T : List Value} {f : Int → List Int} {g : Int → List Value} {L : List (List Int × Int)} (hL : ∀ p ∈ L, Rel (f p.2) (g p.2)) : Rel (dlp f L 0 [a] ++ [c]) ([.int .u8 a] ++ (tts g 0 L ++ [.int .u8 c])) := by
  obtain ⟨h1, h2⟩ := dlp_rel (f := f) (g := g) L 0 [a] hL
  refine ⟨fun h => ?_, fun h => ?_⟩
  · simp only [List.length_append, List.length_cons, List.length_nil] at h
    have := h1 (by simp only [List.length_cons, List.length_nil]; omega)
    rw [List.map_append, this]
    simp
  · simp only [List.length_append, List.length_cons, List.length_nil] at h ⊢
    by_cases hq : 65536 < [a].length + (tts g 0 L).length
    · have := h2 hq; omega
    · have := h1 (by omega)
      have hl := congrArg List.length this
      simp only [List.length_append, List.length_map, List.length_cons, List.length_nil] at hl hq
      omega

theorem dx_rel {H : AHeap} (hok : HOK H) (hn : Neat H) : ∀ (n : Nat) (W : List Int) (v : Int), U v → Rel (dx H n W v) (tx H n W v)
  | 0, _, _, _ => Rel.eq rfl
  | n + 1, W, v, hU => by
    have ih := fun x hx => dx_rel hok hn n (W ++ [v]) x hx
    rw [dx, tx]
    by_cases hk : (kk H v == 2 || kk H v == 3 || kk H v == 4) = true
    · rw [if_pos hk, if_pos hk]
      have hk0 : kk H v ≠ 0 := by intro e; rw [e] at hk; revert hk; decide
      have hm := ob_in hU hk0
      by_cases hv : v ∈ W
      · rw [if_pos hv, if_pos hv]
        refine Rel.eq ?_
        rw [show (⟨#[94]⟩ : ByteArray) = strOfNums [94] from rfl, strOf_app4, strCells_nums]
        intro c hc
        rcases List.mem_append.1 hc with hc | hc
        · rw [List.mem_singleton] at hc; subst hc; decide
        · exact itoaL_byte _ c hc
      · rw [if_neg hv, if_neg hv]
        by_cases k2 : kk H v = 2
        · rw [if_pos k2, if_pos k2, txs_tts]
          exact rel_wrap (d := []) (T := []) (fun p hp => by
            obtain ⟨x, hx, rfl⟩ := List.mem_map.1 hp
            exact ih x ((hok _ hm).2.2.2.1 x hx))
        · rw [if_neg k2, if_neg k2]
          by_cases k3 : kk H v = 3
          · rw [if_pos k3, if_pos k3, flds_zip hok hn hU k3, fxs_tts]
            exact rel_wrap (d := []) (T := []) (fun p hp => by
              obtain ⟨⟨s, x⟩, hx, rfl⟩ := List.mem_map.1 hp
              exact ih x ((hok _ hm).2.2.2.1 x (List.of_mem_zip hx).2))
          · rw [if_neg k3, if_neg k3]
            have k4 : kk H v = 4 := by
              simp only [Bool.or_eq_true, beq_iff_eq] at hk
              omega
            have hl : (ob H v).vals.length = 1 := (hn _ hm).2.2 (by have := (kk_ref hk0).2.2; omega)
            have ea : aAtV H v 0 = (ob H v).vals.getD 0 0 := by
              unfold aAtV
              rw [if_neg (by omega), if_pos (.inr k4), if_pos (by omega)]
              rfl
            rw [ea]
            have hx : U ((ob H v).vals.getD 0 0) := ea ▸ at_U hok hU k4
            obtain ⟨h1, h2⟩ := ih _ hx
            refine ⟨fun h => ?_, fun h => ?_⟩
            · simp only [List.length_append, List.length_cons, List.length_nil] at h
              rw [h1 (by omega)]; simp
            · simp only [List.length_append, List.length_cons, List.length_nil] at h ⊢
              by_cases hq : 65536 < (tx H n (W ++ [v]) ((ob H v).vals.getD 0 0)).length
              · have := h2 hq; omega
              · have hl := congrArg List.length (h1 (by omega))
                rw [List.length_map] at hl
                omega
    · rw [if_neg hk, if_neg hk]
      exact Rel.eq (strCells_nums _ (wdL_byte hok hU))

end Go.Proofs.YtlhgdknmgdohkaaGreatDoor

set_option linter.unusedSimpArgs false
set_option linter.unusedVariables false
namespace Go.Proofs.YtlhgdknmgdohkaaGreatDoor
open Go Go.RowKit

/-- The document's text, of any word. -/
theorem rtx_any {G : Nat → Prop} {k0 : Int} {ah : Option Addr} {ch : Nat} {H : AHeap} (hok : HOK H) (hn : Neat H) (hs : Sane H) (hm : H.2.length ≤ 100) :
    ∀ (n : Nat) (W : List Int) (v : Int), n ≤ 101 → H.2.length < n + W.length → W.Nodup → (∀ x ∈ W, U x ∧ kk H x ≠ 0) → U v → ∀ (wv : Value) (w : World), RdH w G (.agg #[.int .i64 k0, .slice ah H.2.length ch]) H → Wn w wv W →
      Calls Tryz.prog 39 #[.agg #[.int .i64 k0, .slice ah H.2.length ch], .int .u64 v, wv, .int .i64 65536] w fun e w' => e = .returned (.string (strOfNums (dx H n W v))) ∧ Bw w w'
  | 0, W, v, _, hf, hnd, hW, _, _, _, _, _ => by
    have := within_len hnd hW
    omega
  | n + 1, W, v, hn1, hf, hnd, hW, hU, wv, w, h, hwn => by
    have hwl := within_len hnd hW
    have hm6 : H.2.length ≤ 1000000 := by omega
    rw [dx]
    by_cases hk : (kk H v == 2 || kk H v == 3 || kk H v == 4) = true
    · rw [if_pos hk]
      have hk0 : kk H v ≠ 0 := by intro e; rw [e] at hk; revert hk; decide
      have hmem := ob_in hU hk0
      have hk3 : kk H v = 2 ∨ kk H v = 3 ∨ kk H v = 4 := by
        simp only [Bool.or_eq_true, beq_iff_eq] at hk
        omega
      by_cases hv : v ∈ W
      · rw [if_pos hv]
        have hlt : W.idxOf v < W.length := List.idxOf_lt_length_iff.2 hv
        have hi : W[W.idxOf v]? = some v := by rw [List.getElem?_eq_getElem hlt]; simp
        have hfi : ∀ j, j < W.idxOf v → W[j]? ≠ some v := by
          intro j hj e
          obtain ⟨hjl, e'⟩ := List.getElem?_eq_some_iff.1 e
          have e2 : W[j] = W[W.idxOf v] := by rw [e']; simp
          have := (List.getElem_inj hnd).1 e2
          omega
        rcases hk3 with k | k | k
        · exact rtext_in2 hok hm6 v hU k W (by omega) wv w h hwn _ hi hfi
        · exact rtext_in3 hok hm6 v hU k W (by omega) wv w h hwn _ hi hfi
        · exact rtext_in4 hok hm6 v hU k W (by omega) wv w h hwn _ hi hfi
      · rw [if_neg hv]
        have hnd' : (W ++ [v]).Nodup := by
          rw [List.nodup_append]
          refine ⟨hnd, by simp, ?_⟩
          intro a ha b hb e
          rw [List.mem_singleton] at hb
          exact hv (hb ▸ e ▸ ha)
        have hW' : ∀ x ∈ W ++ [v], U x ∧ kk H x ≠ 0 := by
          intro x hx'
          rcases List.mem_append.1 hx' with h | h
          · exact hW x h
          · rw [List.mem_singleton] at h; subst h; exact ⟨hU, hk0⟩
        have hf' : H.2.length < n + (W ++ [v]).length := by rw [List.length_append, List.length_singleton]; omega
        have ih : ∀ x, U x → ∀ (w1 : World) (wv1 : Value), Bw w w1 → Wn w1 wv1 (W ++ [v]) → Calls Tryz.prog 39 #[.agg #[.int .i64 k0, .slice ah H.2.length ch], .int .u64 x, wv1, .int .i64 65536] w1 fun e w2 => e = .returned (.string (strOfNums (dx H n (W ++ [v]) x))) ∧ Bw w1 w2 :=
          fun x hUx w1 wv1 hb hw1 => rtx_any hok hn hs hm n (W ++ [v]) x (by omega) hf' hnd' hW' hUx wv1 w1 (h.below hb) hw1
        have hdl : ∀ x, U x → (dx H n (W ++ [v]) x).length ≤ 1000000000000 := fun x hx => by
          have := dx_len hok hs n (W ++ [v]) x (by rw [List.length_append, List.length_singleton]; omega) hx (by omega)
          omega
        by_cases k2 : kk H v = 2
        · rw [if_pos k2]
          exact rtext_out2 hok hm6 v hU k2 W (by omega) wv w h hwn hv _ hdl ih
        · rw [if_neg k2]
          by_cases k3 : kk H v = 3
          · rw [if_pos k3]
            exact rtext_out3 hok hm6 v hU k3 W (by omega) wv w h hwn hv _ hdl (hs _ hmem).2 ih
          · rw [if_neg k3]
            have k4 : kk H v = 4 := by omega
            have hl : (ob H v).vals.length = 1 := (hn _ hmem).2.2 (by have := (kk_ref hk0).2.2; omega)
            have hx : U ((ob H v).vals.getD 0 0) := by
              rw [List.getD_eq_getElem?_getD]
              cases h : (ob H v).vals[0]? with
              | none => exact ⟨by decide, by decide⟩
              | some x => exact (hok _ hmem).2.2.2.1 x (List.mem_of_getElem? h)
            exact rtext_out4 hok hm6 v hU k4 W (by omega) wv w h hwn hv hl _ (hdl _ hx) (ih _ hx)
    · rw [if_neg hk]
      have hk' : (kk H v == 2 || kk H v == 3 || kk H v == 4) = false := by simpa using hk
      by_cases k0' : kk H v = 0
      · have e : wdL H v = plL v := by unfold wdL; rw [if_pos k0']
        rw [e]
        exact rtext_0 hok hm6 v hU k0' wv w h
      · have hn3 : N3 (ob H v) := (hs _ (ob_in hU k0')).1
        have hkd := (kk_ref k0').2.2
        have h9 := hn3.2.2.2
        simp only [Bool.or_eq_false_iff, beq_eq_false_iff_ne] at hk'
        have : kk H v = 1 ∨ kk H v = 5 ∨ kk H v = 6 ∨ kk H v = 7 ∨ kk H v = 8 ∨ kk H v = 9 := by omega
        rcases this with k | k | k | k | k | k
        · exact rtext_1 hok hm6 v hU hn3 k wv w h
        · exact rtext_5 hok hm6 v hU hn3 k wv w h
        · exact rtext_6 hok hm6 v hU hn3 k wv w h
        · exact rtext_7 hok hm6 v hU hn3 k wv w h
        · exact rtext_8 hok hm6 v hU hn3 k wv w h
        · exact rtext_9 hok hm6 v hU hn3 k wv w h

theorem by_str65 (w : World) (l : List Int) (hb : ∀ c ∈ l, 0 ≤ c ∧ c ≤ 255) (hl : l.length ≤ 65536) :
    ∃ r w', (convert 9 44 (.string (strOfNums l))).run Tryz.prog w = .ok r w' ∧ (∀ w2, Bw w' w2 → (convert 44 9 r).run Tryz.prog w2 = .ok (.string (strOfNums l)) w2) ∧ Bw w w' := by
  obtain ⟨cap, w', h1, h2, h3⟩ := by_str4 w l hb (by omega)
  exact ⟨_, w', h1, fun w2 hb2 => (h2.bw hb2).conv0, h3⟩

set_option maxRecDepth 100000 in
set_option maxHeartbeats 8000000 in
/-- The document's Text: what the program's Text says. -/
theorem rText_any {G : Nat → Prop} {k0 : Int} {ah : Option Addr} {ch : Nat} {H : AHeap} (hok : HOK H) (hn : Neat H) (hs : Sane H) (hm : H.2.length ≤ 100) (v : Int) (hU : U v) (w : World) (h : RdH w G (.agg #[.int .i64 k0, .slice ah H.2.length ch]) H) :
    Calls Tryz.prog 17 #[.agg #[.int .i64 k0, .slice ah H.2.length ch], .int .u64 v] w fun e w' => ∃ r, e = .returned (.tuple #[r, .int .i64 (if fits [] (txt H v) = true then 0 else 2)]) ∧ (∀ w2, Bw w' w2 → (convert 44 9 r).run Tryz.prog w2 = .ok (.string (shownS H v)) w2) ∧ Bw w w' := by
  have HT := hid (fun w1 (hb : Bw w w1) => rtx_any hok hn hs hm (H.2.length + 1) [] v (by omega) (by simp) (by simp) (by simp) hU (.slice none 0 0) w1 (h.below hb) (Sl.nil w1 _ 1))
  have hrel := dx_rel hok hn (H.2.length + 1) [] v hU
  have hlen := dx_len hok hs (H.2.length + 1) [] v (by simp; omega) hU (by omega)
  change Rel (dx H (H.2.length + 1) [] v) (txt H v) at hrel
  generalize dx H (H.2.length + 1) [] v = d at HT hrel hlen
  have hdl : d.length ≤ 1000000000000 := by omega
  cases hf : fits [] (txt H v)
  · have hgt : 65536 < (txt H v).length := by
      have : ¬ ([] : List Value).length + (txt H v).length ≤ 65536 := of_decide_eq_false hf
      simpa using this
    have hdg := hrel.2 hgt
    have hz : (strOfNums d).size = d.length := strOfNums_size d
    have hS : shownS H v = strOfNums [] := by unfold shownS shown; rw [hf]; rfl
    rw [if_neg (by simp), hS]
    have hgtd : decide ((65536 : Int) < ((strOfNums d).size : Int)) = true := decide_eq_true (by omega)
    have hgtp : (65536 : Int) < ((strOfNums d).size : Int) := by omega
    generalize strOfNums d = s at HT hz hgtd hgtp
    clear hrel hgt hdg hS hf hU h hok hn hs hm hlen hdl hz
    go_enter Tryz.func17, Tryz.ntmps17
    go_wp2_with (first
      | (go_at_call 39; refine (HT.out _ (by repeat (first | exact Bw.refl _ | apply Bw.lay | apply Bw.alloc | apply Bw.drewN | apply Bw.drew))).mono ?_; rintro e w1 ⟨rfl, hb1⟩; have B1 := hid (Bw.trans (a := w) (by repeat (first | exact Bw.refl _ | apply Bw.lay | apply Bw.alloc | apply Bw.drewN | apply Bw.drew)) hb1); clear hb1)
      | fail)
    all_goals go_ret2
    all_goals exact ⟨_, rfl, fun w2 _ => conv_own (base := 0) (b := []) ⟨rfl, .inl ⟨rfl, rfl⟩⟩ (by simp) (by simp), B1.out⟩
  · have hle : (txt H v).length ≤ 65536 := by have := fits_le hf; simpa using this
    have e := hrel.1 hle
    have hdl2 : d.length ≤ 65536 := by have := congrArg List.length e; rw [List.length_map] at this; omega
    obtain ⟨L, hL, hLb⟩ := byl_tx H (H.2.length + 1) [] v
    have hLd : L = d := by
      have e2 : L.map (Value.int .u8) = d.map (Value.int .u8) := hL.symm.trans e
      exact (List.map_inj_right (fun x y hxy => by injection hxy)).1 e2
    have hS : shownS H v = strOfNums d := by
      unfold shownS shown
      rw [if_pos hf, e]
      simp [List.map_map, Function.comp_def, intOf]
    have hz : (strOfNums d).size = d.length := strOfNums_size d
    rw [if_pos rfl, hS]
    have HY := hid (fun w => by_str65 w d (hLd ▸ hLb) hdl2)
    have hgtd : decide ((65536 : Int) < ((strOfNums d).size : Int)) = false := decide_eq_false (by omega)
    have hgtp : ¬ (65536 : Int) < ((strOfNums d).size : Int) := by omega
    generalize strOfNums d = s at HT hz hgtd hgtp HY
    clear hrel hle e hdl2 hL hLb hLd hS hf hU h hok hn hs hm hlen hdl hz
    go_enter Tryz.func17, Tryz.ntmps17
    go_wp2_with (first
      | (go_at_call 39; refine (HT.out _ (by repeat (first | exact Bw.refl _ | apply Bw.lay | apply Bw.alloc | apply Bw.drewN | apply Bw.drew))).mono ?_; rintro e w1 ⟨rfl, hb1⟩; have B1 := hid (Bw.trans (a := w) (by repeat (first | exact Bw.refl _ | apply Bw.lay | apply Bw.alloc | apply Bw.drewN | apply Bw.drew)) hb1); obtain ⟨r2, w2, hcv, hback, hb2⟩ := HY.out w1; have HBK := hid hback; have B2 := hid hb2; clear hb1 hback hb2)
      | fail)
    all_goals go_ret2
    all_goals exact ⟨_, rfl, HBK.out, Bw.trans B1.out B2.out⟩

end Go.Proofs.YtlhgdknmgdohkaaGreatDoor

