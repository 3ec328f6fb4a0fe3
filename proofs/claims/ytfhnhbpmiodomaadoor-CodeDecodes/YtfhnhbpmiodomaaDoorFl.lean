/- Encode, Decode, Same as the statements call them. -/
import Derived.Test.YtfhnhbpmiodomaaDoorFr
set_option linter.unusedVariables false
set_option linter.unusedSimpArgs false
namespace Go.Proofs.YtfhnhbpmiodomaaDoor
open Go Go.RowKit

/-- Bytes in memory. -/
abbrev Bs (w : World) (v : Value) (b : List Int) : Prop := Sl w (fun _ => True) v b.length 1 (b.map (Value.int .u8))

def ImA (n1 n2 n3 : Nat) (a1 a2 a3 : Option Addr) (c1 c2 c3 : Nat) (x : AIm) : Value := .agg #[.slice a1 n1 c1, .slice a2 n2 c2, .slice a3 n3 c3, .int .i64 x.globals]

theorem enc_yes {w : World} {G : Nat → Prop} {vf vs vk : Value} {m : AIm} (h : RIm w G vf vs vk m) (B : List Int) (hB : byts (iIm m) = B) (hl : B.length ≤ 4194304) (ho : oks (iIm m) = true) :
    Calls Tryd.prog 7 #[imV vf vs vk m] w fun e w' => Bw w w' ∧ ∃ a c, e = .returned (.tuple #[.slice a B.length c, .int .i64 0]) ∧ Bs w' (.slice a B.length c) B ∧ Byt B := by
  subst hB
  refine Calls.mono (encode_any G vf vs vk m h hl) fun e w' h => ?_
  obtain ⟨hb, ⟨_, hby, v, he, ho'⟩ | ⟨hf, _⟩⟩ := h
  · obtain ⟨a, c, rfl⟩ := own_form ho'
    exact ⟨hb, a, c, he, bytes_own ho', hby⟩
  · rw [ho] at hf; cases hf

theorem enc_no {w : World} {G : Nat → Prop} {vf vs vk : Value} {m : AIm} (h : RIm w G vf vs vk m) (hl : (byts (iIm m)).length ≤ 4194304) (ho : oks (iIm m) = false) :
    Calls Tryd.prog 7 #[imV vf vs vk m] w fun e w' => Bw w w' ∧ e = .returned (.tuple #[.slice none 0 0, .int .i64 1]) := by
  refine Calls.mono (encode_any G vf vs vk m h hl) fun e w' h => ?_
  obtain ⟨hb, ⟨hf, _⟩ | ⟨_, he⟩⟩ := h
  · rw [ho] at hf; cases hf
  · exact ⟨hb, he⟩

theorem dec_w {w : World} {v : Value} {b : List Int} (h : Bs w v b) (hb : Byt b) (hl : b.length ≤ 4194304) (s : St) (hs : decS b = s) (x : AIm) (hx : decI b = x) :
    Calls Tryd.prog 10 #[v] w fun e w' => Bw w w' ∧ ∃ n1 n2 n3 a1 a2 a3 c1 c2 c3, e = .returned (.tuple #[ImA n1 n2 n3 a1 a2 a3 c1 c2 c3 x, .int .i64 s.2, .int .i64 s.1]) ∧ RIm w' (fun y => w.heap.size ≤ y) (.slice a1 n1 c1) (.slice a2 n2 c2) (.slice a3 n3 c3) x := by
  subst hs hx
  refine Calls.mono (decode_any v b h hb hl) fun e w' h => ?_
  obtain ⟨hb, vf, vs, vk, he, hi⟩ := h
  obtain ⟨n1, a1, c1, rfl⟩ := hi.f1
  obtain ⟨n2, a2, c2, rfl⟩ := hi.f2
  obtain ⟨n3, a3, c3, rfl⟩ := hi.f3
  exact ⟨hb, n1, n2, n3, a1, a2, a3, c1, c2, c3, he, hi⟩

theorem new_cell (w : World) (c : Int) : ∀ j u, [Value.int .u8 c][j]? = some u → (w.alloc (.cells #[.int .u8 c] 5)).cell? ((⟨w.heap.size, 0, none⟩ : Addr).add j) = some u := by
  intro j u hj
  match j, hj with
  | 0, hj => simp at hj; subst hj; simp [Addr.add, go_sem]

theorem bs_snoc {w : World} {base : Nat} {v : Value} {b : List Int} {c : Int} (h : w.ownsRow base 5 1 v (b.length + 1) (b.map (Value.int .u8) ++ [.int .u8 c])) : Bs w v (b ++ [c]) := by
  have e : b.length + 1 = (b ++ [c]).length := by simp
  rw [e] at h
  have h2 := own_sl (G := fun _ => True) h (fun _ _ => trivial)
  show Sl w (fun _ => True) v (b ++ [c]).length 1 ((b ++ [c]).map (Value.int .u8))
  rw [List.map_append]
  exact h2

theorem T_mem {m : AIm} {s : List Int} (h : It.T s ∈ iIm m) : s = markL ∨ s ∈ m.strs := by
  simp only [iIm, iL, List.mem_cons, List.mem_append, List.mem_flatMap, It.T.injEq, reduceCtorEq, false_or, or_false] at h
  rcases h with h | ⟨a, ha, h⟩ | ⟨a, ha, h⟩ | ⟨f, hf, h⟩
  · exact .inl h
  · simp only [iStr, List.mem_cons, reduceCtorEq, It.T.injEq, false_or, List.not_mem_nil, or_false] at h
    rw [h]; exact .inr ha
  · simp [iN] at h
  · simp [iFn, iL, iN, iCap, iIns, iTry] at h

theorem im_byt {w : World} {G : Nat → Prop} {vf vs vk : Value} {m : AIm} (h : RIm w G vf vs vk m) : Byt (byts (iIm m)) := by
  intro c hc
  obtain ⟨it, hit, hc⟩ := List.mem_flatMap.1 hc
  cases it with
  | N n =>
    simp only [It.b] at hc
    split at hc
    · exact nb_bytes _ c hc
    · simp at hc
  | Z n =>
    simp only [It.b] at hc
    split at hc
    · exact nb_bytes _ c hc
    · simp at hc
  | T s =>
    simp only [It.b] at hc
    rcases T_mem hit with rfl | hs
    · have hm : ∀ c ∈ markL, 0 ≤ c ∧ c ≤ 255 := by decide
      exact hm c hc
    · exact (h.2.1.2.1 s hs).1 c hc

theorem bs_form {w : World} {a : Option Addr} {c : Nat} {b : List Int} (h : Bs w (.slice a b.length c) b) (h4 : 4 ≤ b.length) : ∃ g o, a = some ⟨g, o, none⟩ ∧ g < w.heap.size ∧ b.length ≤ c := by
  obtain ⟨g, o, e, hlt, _, _⟩ := h.cellAt (by omega)
  obtain ⟨_, a', c', e', hc, _⟩ := h
  cases e'
  exact ⟨g, o, e, hlt, hc.1⟩

theorem bs_take {w : World} {a : Option Addr} {c k : Nat} {b : List Int} (h : Bs w (.slice a b.length c) b) (hk : k ≤ b.length) : Bs w (.slice a k c) (b.take k) := by
  obtain ⟨hl, a', c', e, hc, h⟩ := h
  cases e
  have hlen : (b.take k).length = k := by rw [List.length_take]; omega
  refine ⟨by simp, a, c, by rw [hlen], ⟨by rw [hlen]; omega, hc.2⟩, ?_⟩
  rcases h with h | ⟨g, o, rfl, hlt, hg, hcs⟩
  · exact .inl (by rw [hlen]; omega)
  · refine .inr ⟨g, o, rfl, hlt, hg, fun i hi => ?_⟩
    rw [hlen] at hi
    rw [hcs i (by omega), List.map_take, List.getElem?_take, if_pos (by omega)]

end Go.Proofs.YtfhnhbpmiodomaaDoor
