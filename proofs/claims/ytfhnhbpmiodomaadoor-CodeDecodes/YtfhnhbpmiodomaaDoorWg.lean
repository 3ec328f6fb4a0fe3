/- The writer: images; Encode: contracts. -/
import Derived.Test.YtfhnhbpmiodomaaDoorWf
set_option linter.unusedSimpArgs false
set_option linter.unusedVariables false
namespace Go.Proofs.YtfhnhbpmiodomaaDoor
open Go Go.RowKit

theorem Bw.of_wk {r : Nat} {a b c : World} (h : Bw a b) (k : Wk a.heap.size r b c) (hr : a.heap.size ≤ r := by omega) : Bw a c :=
  ⟨k.os.trans h.os, k.tape.trans h.tape, k.output.trans h.output, Nat.le_trans h.size k.size, fun n hn => (k.block n (Nat.lt_of_lt_of_le hn h.size) (by omega) (.inl hn)).trans (h.block n hn)⟩
theorem iL_keys (ms : List (List Int × Value)) : iL (iL iN) (ms.map (·.1)) = iL iKey ms := by
  simp only [iL, List.length_map, List.flatMap_map]; rfl
theorem iL_funs (ms : List MFn) : iL iFn (ms.map (·.f)) = iL iMF ms := by
  simp only [iL, List.length_map, List.flatMap_map]; rfl

theorem RFs.keep {w w' : World} {G G' : Nat → Prop} {v : Value} {l : List MFn} (h : RFs w G v l)
    (hs : w.heap.size ≤ w'.heap.size) (hb : ∀ b, b < w.heap.size → G b → w'.heap[b]? = w.heap[b]?) (hG : ∀ b, b < w.heap.size → G b → G' b) : RFs w' G' v l :=
  ⟨h.1.keep hs hb hG, fun x hx => (h.2.1 x hx).keep hs hb hG, h.2.2⟩
theorem RKs.keep {w w' : World} {G G' : Nat → Prop} {v : Value} {l : List (List Int × Value)} (h : RKs w G v l)
    (hs : w.heap.size ≤ w'.heap.size) (hb : ∀ b, b < w.heap.size → G b → w'.heap[b]? = w.heap[b]?) (hG : ∀ b, b < w.heap.size → G b → G' b) : RKs w' G' v l :=
  ⟨h.1.keep hs hb hG, fun x hx => (h.2.1 x hx).keep hs hb hG, h.2.2⟩
theorem RFs.bw {w w' : World} {G : Nat → Prop} {v : Value} {l : List MFn} (h : RFs w G v l) (hb : Bw w w') : RFs w' G v l :=
  RFs.keep h hb.size (fun b hlt _ => hb.block b hlt) (fun _ _ g => g)
theorem RKs.bw {w w' : World} {G : Nat → Prop} {v : Value} {l : List (List Int × Value)} (h : RKs w G v l) (hb : Bw w w') : RKs w' G v l :=
  RKs.keep h hb.size (fun b hlt _ => hb.block b hlt) (fun _ _ g => g)

section
variable {base r : Nat} {w : World} {bs : List Int} {ok : Bool}

set_option maxRecDepth 100000 in
set_option maxHeartbeats 8000000 in
theorem wimage_any (vf vs vk : Value) (m : AIm) (h : WB base w r bs ok) (hI : RIm w (fun b => b < base) vf vs vk m) (hl : bs.length + (byts (iIm m)).length ≤ 4194304) :
    Calls Tryd.prog 15 #[.pointer (some ⟨r, 0, none⟩), imV vf vs vk m] w fun e w' => (∃ v, e = .returned v) ∧ WB base w' r (bs ++ byts (iIm m)) (ok && oks (iIm m)) ∧ Wk base r w w' := by
  obtain ⟨⟨ms, em, hf⟩, hs, ⟨mk, ek, hy⟩, hg⟩ := hI
  obtain ⟨af, kf, e1⟩ := hf.form
  obtain ⟨az, ks, e2⟩ := hs.form
  obtain ⟨ak, kk, e3⟩ := hy.form
  subst e1 e2 e3
  unfold imV
  have hl2 : bs.length + markL.length + (byts (iL iStr m.strs)).length + (byts (iL iKey mk)).length + (It.N m.globals).b.length + (byts (iL iMF ms)).length ≤ 4194304 := by
    rw [← iL_keys, ← iL_funs, em, ek]
    simp only [iIm, byts, List.flatMap_cons, List.flatMap_append, List.length_append] at hl ⊢
    simp only [It.b] at hl ⊢
    omega
  have HFIN := hid (show bs ++ byts (iIm m) = bs ++ markL ++ byts (iL iStr m.strs) ++ byts (iL iKey mk) ++ (It.N m.globals).b ++ byts (iL iMF ms) by rw [← iL_keys, ← iL_funs, em, ek]; simp only [iIm, byts, List.flatMap_cons, List.flatMap_append, List.append_assoc]; simp only [It.b])
  have HFOK := hid (show (ok && oks (iIm m)) = (ok && oks (iL iStr m.strs) && oks (iL iKey mk) && (It.N m.globals).ok && oks (iL iMF ms)) by rw [← iL_keys, ← iL_funs, em, ek]; simp only [iIm, oks, List.all_cons, List.all_append, Bool.and_assoc]; simp only [It.ok, Bool.true_and])
  have hrl := h.lt
  have HNP := hid (show w.heap.size ≠ r by omega)
  have HNC := hid (show (w.alloc (.cells #[.pointer (some ⟨r, 0, none⟩)] 53)).heap.size ≠ r by simp only [World.size_alloc]; omega)
  have HP := hid ((Blk.new w #[.pointer (some ⟨r, 0, none⟩)] 53).alloc (.cells #[.slice af ms.length kf, .slice az m.strs.length ks, .slice ak mk.length kk, .int .i64 m.globals] 26))
  have HC := hid (Blk.new (w.alloc (.cells #[.pointer (some ⟨r, 0, none⟩)] 53)) #[.slice af ms.length kf, .slice az m.strs.length ks, .slice ak mk.length kk, .int .i64 m.globals] 26)
  have HF := hid (RFs.bw hf (Bw.alloc (Bw.alloc (Bw.refl w) (.cells #[.pointer (some ⟨r, 0, none⟩)] 53)) (.cells #[.slice af ms.length kf, .slice az m.strs.length ks, .slice ak mk.length kk, .int .i64 m.globals] 26)))
  have HS := hid (hs.bw (Bw.alloc (Bw.alloc (Bw.refl w) (.cells #[.pointer (some ⟨r, 0, none⟩)] 53)) (.cells #[.slice af ms.length kf, .slice az m.strs.length ks, .slice ak mk.length kk, .int .i64 m.globals] 26)))
  have HY := hid (RKs.bw hy (Bw.alloc (Bw.alloc (Bw.refl w) (.cells #[.pointer (some ⟨r, 0, none⟩)] 53)) (.cells #[.slice af ms.length kf, .slice az m.strs.length ks, .slice ak mk.length kk, .int .i64 m.globals] 26)))
  have HW := hid (h.bw (Bw.alloc (Bw.alloc (Bw.refl w) (.cells #[.pointer (some ⟨r, 0, none⟩)] 53)) (.cells #[.slice af ms.length kf, .slice az m.strs.length ks, .slice ak mk.length kk, .int .i64 m.globals] 26)))
  have HK := hid ((Wk.refl base r w).bw (Bw.alloc (Bw.alloc (Bw.refl w) (.cells #[.pointer (some ⟨r, 0, none⟩)] 53)) (.cells #[.slice af ms.length kf, .slice az m.strs.length ks, .slice ak mk.length kk, .int .i64 m.globals] 26)))
  have HL := hid hl2
  have HG := hid hg
  clear h hf hs hy hg hl hl2 hrl em ek
  rw [HFIN.out, HFOK.out]
  clear HFIN HFOK
  simp only [World.size_alloc] at HC HNC
  have TX : ∀ w bs ok, WB base w r bs ok → bs.length + markL.length ≤ 4194304 → Calls Tryd.prog 33 #[.pointer (some ⟨r, 0, none⟩), .string ⟨#[74, 81, 48, 49]⟩] w fun e w' => (∃ v, e = .returned v) ∧ WB base w' r (bs ++ markL) ok ∧ Wk base r w w' := fun w bs ok h h2 => wtext_any markL h (by decide) h2
  have HTX := hid TX
  clear TX
  go_enter Tryd.func15, Tryd.ntmps15
  go_wp2_with (first
    | (go_at_call 33; refine (HTX.out _ _ _ HW.out (by have := HL.out; (try simp only [List.length_append]); omega)).mono ?_; rintro e w1 ⟨⟨_, rfl⟩, hw1, hk1⟩; replace HK := hid (HK.out.trans hk1); replace HF := hid (RFs.keep HF.out hk1.size (wk_keep hk1 HW.out.base) (fun _ _ g => g)); replace HS := hid (HS.out.wk hk1 HW.out.base); replace HY := hid (RKs.keep HY.out hk1.size (wk_keep hk1 HW.out.base) (fun _ _ g => g)); replace HW := hid hw1; replace HP := hid (HP.out.wk hk1 (by decide) HNP.out); replace HC := hid (HC.out.wk hk1 (by decide) HNC.out); have z1 := HP.out.cell 0; have y1 := HC.out.cell; have zl1 := HP.out.lt; have yl1 := HC.out.lt; clear hw1 hk1)
    | (go_at_call 34; refine (wlS_any _ m.strs _ HW.out HP.out HS.out (by have := HL.out; (try simp only [List.length_append]); omega)).mono ?_; rintro e w1 ⟨⟨_, rfl⟩, hw1, hk1⟩; replace HK := hid (HK.out.trans hk1); replace HF := hid (RFs.keep HF.out hk1.size (wk_keep hk1 HW.out.base) (fun _ _ g => g)); replace HS := hid (HS.out.wk hk1 HW.out.base); replace HY := hid (RKs.keep HY.out hk1.size (wk_keep hk1 HW.out.base) (fun _ _ g => g)); replace HW := hid hw1; replace HP := hid (HP.out.wk hk1 (by decide) HNP.out); replace HC := hid (HC.out.wk hk1 (by decide) HNC.out); have z2 := HP.out.cell 0; have y2 := HC.out.cell; have zl2 := HP.out.lt; have yl2 := HC.out.lt; clear hw1 hk1)
    | (go_at_call 37; refine (wlL_any _ mk _ HW.out HP.out HY.out (by have := HL.out; (try simp only [List.length_append]); omega)).mono ?_; rintro e w1 ⟨⟨_, rfl⟩, hw1, hk1⟩; replace HK := hid (HK.out.trans hk1); replace HF := hid (RFs.keep HF.out hk1.size (wk_keep hk1 HW.out.base) (fun _ _ g => g)); replace HS := hid (HS.out.wk hk1 HW.out.base); replace HY := hid (RKs.keep HY.out hk1.size (wk_keep hk1 HW.out.base) (fun _ _ g => g)); replace HW := hid hw1; replace HP := hid (HP.out.wk hk1 (by decide) HNP.out); replace HC := hid (HC.out.wk hk1 (by decide) HNC.out); have z3 := HP.out.cell 0; have y3 := HC.out.cell; have zl3 := HP.out.lt; have yl3 := HC.out.lt; clear hw1 hk1)
    | (go_at_call 36; refine (wnumber_any m.globals HW.out HG.out (by have := HL.out; (try simp only [List.length_append]); omega)).mono ?_; rintro e w1 ⟨⟨_, rfl⟩, hw1, hk1⟩; replace HK := hid (HK.out.trans hk1); replace HF := hid (RFs.keep HF.out hk1.size (wk_keep hk1 HW.out.base) (fun _ _ g => g)); replace HS := hid (HS.out.wk hk1 HW.out.base); replace HY := hid (RKs.keep HY.out hk1.size (wk_keep hk1 HW.out.base) (fun _ _ g => g)); replace HW := hid hw1; replace HP := hid (HP.out.wk hk1 (by decide) HNP.out); replace HC := hid (HC.out.wk hk1 (by decide) HNC.out); have z4 := HP.out.cell 0; have y4 := HC.out.cell; have zl4 := HP.out.lt; have yl4 := HC.out.lt; clear hw1 hk1)
    | (go_at_call 40; refine (wlF_any _ ms _ HW.out HP.out HF.out (by have := HL.out; (try simp only [List.length_append]); omega)).mono ?_; rintro e w1 ⟨⟨_, rfl⟩, hw1, hk1⟩; replace HK := hid (HK.out.trans hk1); replace HF := hid (RFs.keep HF.out hk1.size (wk_keep hk1 HW.out.base) (fun _ _ g => g)); replace HS := hid (HS.out.wk hk1 HW.out.base); replace HY := hid (RKs.keep HY.out hk1.size (wk_keep hk1 HW.out.base) (fun _ _ g => g)); replace HW := hid hw1; replace HP := hid (HP.out.wk hk1 (by decide) HNP.out); replace HC := hid (HC.out.wk hk1 (by decide) HNC.out); have z5 := HP.out.cell 0; have y5 := HC.out.cell; have zl5 := HP.out.lt; have yl5 := HC.out.lt; clear hw1 hk1)
    | fail)
  all_goals go_end0
  all_goals exact ⟨⟨_, rfl⟩, HW.out, HK.out⟩

/-- What Encode answers. -/
def EncP (w : World) (m : AIm) (e : Ending) (w' : World) : Prop :=
  Bw w w' ∧ ((oks (iIm m) = true ∧ (∀ c ∈ byts (iIm m), 0 ≤ c ∧ c ≤ 255) ∧ ∃ v, e = .returned (.tuple #[v, .int .i64 0]) ∧ w'.ownsRow w.heap.size 5 1 v (byts (iIm m)).length ((byts (iIm m)).map (Value.int .u8))) ∨ (oks (iIm m) = false ∧ e = .returned (.tuple #[.slice none 0 0, .int .i64 1])))

set_option maxRecDepth 100000 in
set_option maxHeartbeats 8000000 in
theorem encode_any (G : Nat → Prop) (vf vs vk : Value) (m : AIm) (hI : RIm w G vf vs vk m) (hl : (byts (iIm m)).length ≤ 4194304) :
    Calls Tryd.prog 7 #[imV vf vs vk m] w (EncP w m) := by
  have HR := hid (hI.at.bw (Bw.alloc (Bw.alloc (Bw.refl w) (.cells #[vf, vs, vk, .int .i64 m.globals] 26)) (.cells #[.slice none 0 0, .bool false, .bool false] 55)))
  have hw0 : WB w.heap.size ((w.alloc (.cells #[vf, vs, vk, .int .i64 m.globals] 26)).alloc (.cells #[.slice none 0 0, .bool false, .bool false] 55)) (w.heap.size + 1) [] true :=
    ⟨⟨.slice none 0 0, by have := Blk.new (w.alloc (.cells #[vf, vs, vk, .int .i64 m.globals] 26)) #[.slice none 0 0, .bool false, .bool false] 55; simpa using this, World.ownsRow_nil _ _ _ _⟩, by simp, by omega, by simp⟩
  obtain ⟨⟨ms, em, hf⟩, hs, ⟨mk, ek, hy⟩, hg⟩ := hI
  obtain ⟨af, kf, e1⟩ := hf.form
  obtain ⟨az, ks, e2⟩ := hs.form
  obtain ⟨ak, kk, e3⟩ := hy.form
  subst e1 e2 e3
  have HW := hid hw0
  have HB := hid (show Bw w _ from (Bw.alloc (Bw.alloc (Bw.refl w) (.cells #[.slice af ms.length kf, .slice az m.strs.length ks, .slice ak mk.length kk, .int .i64 m.globals] 26)) (.cells #[.slice none 0 0, .bool false, .bool false] 55)))
  have HL := hid hl
  clear hf hs hy hg hw0 hl em ek
  unfold imV at *
  go_enter Tryd.func7, Tryd.ntmps7
  go_wp2_with (first
    | (go_at_call 15; refine (wimage_any _ _ _ m HW.out HR.out (by have := HL.out; simpa using this)).mono ?_; rintro e w1 ⟨⟨_, rfl⟩, hw1, hk1⟩; have HB1 := hid (show Bw w w1 from Bw.of_wk HB.out hk1); have HW1 := hid hw1; obtain ⟨u, hb, ho⟩ := hw1.ex; simp only [List.nil_append] at ho; have HO1 := hid ho; have y := hb.cell; have yl := hb.lt; have HD := hid hb; clear hw1 hk1 hb ho; cases hq : oks (iIm m) <;> simp only [hq, Bool.and_false, Bool.and_true, Bool.not_false, Bool.not_true] at y HW1)
    | fail)
  all_goals go_ret2
  all_goals first | exact ⟨HB1.out, .inr ⟨hq, rfl⟩⟩ | exact ⟨HB1.out, .inl ⟨hq, HW1.out.bytes, _, rfl, HO1.out⟩⟩

end

end Go.Proofs.YtfhnhbpmiodomaaDoor
