/- Encode, Decode, Same as the statements call them. -/
import Derived.Test.YtmhjfkhcpfihfaaDoorFr
set_option linter.unusedVariables false
set_option linter.unusedSimpArgs false
namespace Go.Proofs.YtmhjfkhcpfihfaaDoor
open Go Go.RowKit

/-- Bytes in memory. -/
abbrev Bs (w : World) (v : Value) (b : List Int) : Prop := Sl w (fun _ => True) v b.length 1 (b.map (Value.int .u8))

def ImA (n1 n2 n3 : Nat) (a1 a2 a3 : Option Addr) (c1 c2 c3 : Nat) (x : AIm) : Value := .agg #[.slice a1 n1 c1, .slice a2 n2 c2, .slice a3 n3 c3, .int .i64 x.globals]

theorem enc_yes {w : World} {G : Nat → Prop} {vf vs vk : Value} {m : AIm} (h : RIm w G vf vs vk m) (B : List Int) (hB : byts (iIm m) = B) (hl : B.length ≤ 4194304) (ho : oks (iIm m) = true) :
    Calls Tryd.prog 18 #[imV vf vs vk m] w fun e w' => Bw w w' ∧ ∃ a c, e = .returned (.tuple #[.slice a B.length c, .int .i64 0]) ∧ Bs w' (.slice a B.length c) B ∧ Byt B := by
  subst hB
  refine Calls.mono (encode_any G vf vs vk m h hl) fun e w' h => ?_
  obtain ⟨hb, ⟨_, hby, v, he, ho'⟩ | ⟨hf, _⟩⟩ := h
  · obtain ⟨a, c, rfl⟩ := own_form ho'
    exact ⟨hb, a, c, he, bytes_own ho', hby⟩
  · rw [ho] at hf; cases hf

theorem enc_no {w : World} {G : Nat → Prop} {vf vs vk : Value} {m : AIm} (h : RIm w G vf vs vk m) (hl : (byts (iIm m)).length ≤ 4194304) (ho : oks (iIm m) = false) :
    Calls Tryd.prog 18 #[imV vf vs vk m] w fun e w' => Bw w w' ∧ e = .returned (.tuple #[.slice none 0 0, .int .i64 1]) := by
  refine Calls.mono (encode_any G vf vs vk m h hl) fun e w' h => ?_
  obtain ⟨hb, ⟨hf, _⟩ | ⟨_, he⟩⟩ := h
  · rw [ho] at hf; cases hf
  · exact ⟨hb, he⟩

theorem dec_w {w : World} {v : Value} {b : List Int} (h : Bs w v b) (hb : Byt b) (hl : b.length ≤ 4194304) (s : St) (hs : decS b = s) (x : AIm) (hx : decI b = x) :
    Calls Tryd.prog 20 #[v] w fun e w' => Bw w w' ∧ ∃ n1 n2 n3 a1 a2 a3 c1 c2 c3, e = .returned (.tuple #[ImA n1 n2 n3 a1 a2 a3 c1 c2 c3 x, .int .i64 s.2, .int .i64 s.1]) ∧ RIm w' (fun y => w.heap.size ≤ y) (.slice a1 n1 c1) (.slice a2 n2 c2) (.slice a3 n3 c3) x := by
  subst hs hx
  refine Calls.mono (decode_any v b h hb hl) fun e w' h => ?_
  obtain ⟨hb, vf, vs, vk, he, hi⟩ := h
  obtain ⟨n1, a1, c1, rfl⟩ := hi.f1
  obtain ⟨n2, a2, c2, rfl⟩ := hi.f2
  obtain ⟨n3, a3, c3, rfl⟩ := hi.f3
  exact ⟨hb, n1, n2, n3, a1, a2, a3, c1, c2, c3, he, hi⟩

end Go.Proofs.YtmhjfkhcpfihfaaDoor
