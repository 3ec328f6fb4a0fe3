/- The document's Decode: its first four bytes, its end, as plain data; lists that stay. -/
import Derived.Test.YtfhnhbpmiodomaaDoorGd
set_option linter.unusedSimpArgs false
set_option linter.unusedVariables false
namespace Go.Proofs.YtfhnhbpmiodomaaDoor
open Go Go.RowKit

theorem JL.skip {α : Type} {L : List α × St} {one : St → α × St} {k : Nat} {xs ys : List α} {s s2 : St} (h : JL L one (k + 1) xs s) (h0 : s.2 = 0) (e : (one s).2 = s2) (hs : s2.2 ≠ 0) : JL L one k ys s2 := by
  refine ⟨fun h => absurd h hs, fun _ => ?_⟩
  rw [h.1 h0, rep_bad (x := (one s).1) (s2 := s2) (by rw [← e]) hs]

theorem mkM_bad {b : List Int} {i : Nat} (h : ∀ t, t < i → b[t]? = markL[t]?) (hi : i < 4) (hb : b[i]? ≠ markL[i]?) : mkM b = (i, 6) := by
  match i, hi with
  | 0, _ => simp [markL] at hb; simp [mkM, hb]
  | 1, _ => have h0 := h 0 (by omega); simp [markL] at hb h0; simp [mkM, hb, h0]
  | 2, _ => have h0 := h 0 (by omega); have h1 := h 1 (by omega); simp [markL] at hb h0 h1; simp [mkM, hb, h0, h1]
  | 3, _ => have h0 := h 0 (by omega); have h1 := h 1 (by omega); have h2 := h 2 (by omega); simp [markL] at hb h0 h1 h2; simp [mkM, hb, h0, h1, h2]
theorem mkM_good {b : List Int} (h : ∀ t, t < 4 → b[t]? = markL[t]?) : mkM b = (4, 0) ∧ 4 ≤ b.length := by
  have h0 := h 0 (by omega); have h1 := h 1 (by omega); have h2 := h 2 (by omega); have h3 := h 3 (by omega)
  simp [markL] at h0 h1 h2 h3
  refine ⟨by simp [mkM, h0, h1, h2, h3], ?_⟩
  have := (List.getElem?_eq_some_iff.1 h3).1
  omega
theorem dec_bad {b : List Int} {i : Nat} (h : mkM b = (i, 6)) : decS b = (i, 6) ∧ decI b = AIm.none := by
  have e : decS b = (i, 6) := by
    unfold decS
    rw [h, (imM_ok b).2.1 (i, 6) (by simp)]
    unfold endS
    split <;> simp [failS]
  exact ⟨e, by unfold decI; rw [e]; rfl⟩

/-- What the document's Decode answers. -/
def FDP (w : World) (b : List Int) (e : Ending) (w' : World) : Prop :=
  Bw w w' ∧ ∃ vf vs vk, e = .returned (.tuple #[imV vf vs vk (decI b), .int .i64 (decS b).2, .int .i64 (decS b).1]) ∧ RIm w' (fun x => w.heap.size ≤ x) vf vs vk (decI b)

theorem FDP.bad {w w' : World} {b : List Int} {p f : Nat} (h : Bw w w') (h1 : decS b = (p, f)) (h2 : decI b = AIm.none) : FDP w b (.returned (.tuple #[.agg #[.slice none 0 0, .slice none 0 0, .slice none 0 0, .int .i64 0], .int .i64 f, .int .i64 p])) w' :=
  ⟨h, _, _, _, by rw [h1, h2]; rfl, by rw [h2]; exact RIm.none _ _⟩

section
variable {r cb : Nat} {wb wr w1 : World}
theorem RKs.ol {v : Value} {l : List (List Int × Value)} (h : RKs wb (fun x => cb < x ∧ x ≠ r) v l) (ho : Ol r cb wb wr) : RKs wr (fun x => cb < x ∧ x ≠ r) v l :=
  RKs.keep h ho.size (fun x hx hG => ho.block x hx hG.2 (by have := hG.1; omega)) (fun _ _ g => g)
theorem RKs.up {v : Value} {l : List (List Int × Value)} {N : Nat} (h : RKs wr (fun x => N ≤ x) v l) (h1 : cb < N) (h2 : r < N) : RKs wr (fun x => cb < x ∧ x ≠ r) v l :=
  RKs.keep h (Nat.le_refl _) (fun _ _ _ => rfl) (fun x _ hG => ⟨by omega, by omega⟩)
theorem RKs.upk {v : Value} {l : List (List Int × Value)} (h : RKs wr (fun x => cb < x ∧ x ≠ r) v l) (hk : Kp r wr w1) : RKs w1 (fun x => cb < x ∧ x ≠ r) v l :=
  RKs.keep h hk.size (fun x hx hG => hk.block x hx hG.2) (fun _ _ g => g)
theorem RKs.ups {v : Value} {l : List (List Int × Value)} (h : RKs wr (fun x => cb < x ∧ x ≠ r) v l) (j : Nat) (u : Value) : RKs (wr.setCell ⟨cb, j, none⟩ u) (fun x => cb < x ∧ x ≠ r) v l :=
  RKs.keep h (by simp [World.setCell]) (fun x hx hG => Below.heap_setCell wr ⟨cb, j, none⟩ u x (show x ≠ cb by have := hG.1; omega)) (fun _ _ g => g)
theorem RKs.fin {v : Value} {l : List (List Int × Value)} {rb N : Nat} (h : RKs wr (fun x => cb < x ∧ x ≠ r) v l) (hk : Kp rb wr w1) (h1 : rb < cb) (h2 : N ≤ cb) : RKs w1 (fun x => N ≤ x) v l :=
  RKs.keep h hk.size (fun x hx hG => hk.block x hx (by have := hG.1; omega)) (fun x _ hG => by have := hG.1; omega)
theorem RFs.up {v : Value} {l : List MFn} {N : Nat} (h : RFs wr (fun x => N ≤ x) v l) (h1 : cb < N) (h2 : r < N) : RFs wr (fun x => cb < x ∧ x ≠ r) v l :=
  RFs.keep h (Nat.le_refl _) (fun _ _ _ => rfl) (fun x _ hG => ⟨by omega, by omega⟩)
theorem RFs.fin {v : Value} {l : List MFn} {rb N : Nat} (h : RFs wr (fun x => cb < x ∧ x ≠ r) v l) (hk : Kp rb wr w1) (h1 : rb < cb) (h2 : N ≤ cb) : RFs w1 (fun x => N ≤ x) v l :=
  RFs.keep h hk.size (fun x hx hG => hk.block x hx (by have := hG.1; omega)) (fun x _ hG => by have := hG.1; omega)
end

theorem LI.rlF {w wr : World} {l : Value} {ms : List MFn} (h : LI (μ := MFn) 47 6 fnC (fun w G m => RFn w G m : World → (Nat → Prop) → MFn → Prop) w wr l ms) (hl : ms.length ≤ maxLen) : RFs wr (fun x => w.heap.size ≤ x) l ms := h.rl keepF hl (fun _ => rfl)
theorem LI.rlK {w wr : World} {l : Value} {ms : List (List Int × Value)} (h : LI (μ := List Int × Value) 42 1 (fun m => [m.2]) (fun w G m => RInts w G m.2 m.1 : World → (Nat → Prop) → List Int × Value → Prop) w wr l ms) (hl : ms.length ≤ maxLen) : RKs wr (fun x => w.heap.size ≤ x) l ms := h.rl keepL hl (fun _ => rfl)

/-- What is new in a later world. -/
theorem KeepOk.low {μ : Type} {okm : World → (Nat → Prop) → μ → Prop} (K : KeepOk okm) {w : World} {N M : Nat} {m : μ} (h : okm w (fun x => M ≤ x) m) (hl : N ≤ M := by first | exact Nat.le_refl _ | (simp only [World.size_drewN, World.size_drew]; exact Nat.le_refl _)) : okm w (fun x => N ≤ x) m :=
  K _ _ _ _ _ h (Nat.le_refl _) (fun _ _ _ => rfl) (fun _ _ g => Nat.le_trans hl g)

/-- The bytes from a place on, as a string, whatever the list's capacity. -/
theorem slice_str {base r g o cap p n : Nat} {w : World} {b : List Int} {s : St} (h : FB base w r (.slice (some ⟨g, o, none⟩) b.length cap) b s) (hp : p + n ≤ b.length) (c : Nat) :
    (convert 29 9 (.slice (some ⟨g, o + p, none⟩) n c)).run Tryd.prog w = .ok (.string (strOfNums ((b.drop p).take n))) w := h.conv p n c hp

end Go.Proofs.YtfhnhbpmiodomaaDoor
