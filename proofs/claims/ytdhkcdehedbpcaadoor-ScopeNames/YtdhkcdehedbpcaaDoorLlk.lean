/- Texts part by part: what is cut ends within the text; a line break ends all; what is behind it is cut as if it stood alone. Nothing of the program is in it. -/
import Derived.Test.YtdhkcdehedbpcaaDoorM1
set_option linter.unusedSimpArgs false
set_option linter.unusedVariables false
namespace Go.Proofs.YtdhkcdehedbpcaaDoor
open Go Go.RowKit

theorem cStr_len : ∀ (f : Nat) (r acc : List Int) (k : Nat), (∀ kd x n len, cStr f r acc k = .tok kd x n len → kd = 4 ∧ n = 0 ∧ k + 1 ≤ len ∧ len ≤ k + r.length) ∧ (∀ e off, cStr f r acc k = .bad e off → e = 6 ∧ k ≤ off ∧ off ≤ k + r.length)
 | 0, r, acc, k => by
  refine ⟨fun kd x n len h => by simp [cStr] at h, fun e off h => ?_⟩
  simp [cStr] at h; omega
 | f + 1, [], acc, k => by
  refine ⟨fun kd x n len h => by simp [cStr] at h, fun e off h => ?_⟩
  simp [cStr] at h; omega
 | f + 1, c :: t, acc, k => by
  have ih := fun r acc k => cStr_len f r acc k
  unfold cStr
  by_cases h1 : c = 34
  ·simp only [h1, if_true]
   refine ⟨fun kd x n len h => ?_, fun e off h => by simp at h⟩
   simp at h; simp; omega
  by_cases h2 : c = 10
  ·simp only [h1, h2, if_true, if_false]
   refine ⟨fun kd x n len h => by simp at h, fun e off h => ?_⟩
   simp at h; simp; omega
  by_cases h3 : c = 92
  ·simp only [h1, h2, h3, if_true, if_false]
   cases he : esc t with
   | inr m =>
    have := esc_bad he
    refine ⟨fun kd x n len h => by simp at h, fun e off h => ?_⟩
    simp at h; simp; omega
   | inl q =>
    obtain ⟨x, m⟩ := q
    have hb := esc_bd he
    obtain ⟨i1, i2⟩ := ih ((92 :: t).drop m) (acc ++ [x]) (k + m)
    have hd : ((92 :: t).drop m).length = t.length + 1 - m := by simp
    rw [hd] at i1 i2
    refine ⟨fun kd x n len h => ?_, fun e off h => ?_⟩
    ·have := i1 kd x n len (by simpa using h); simp; omega
    ·have := i2 e off (by simpa using h); simp; omega
  ·simp only [h1, h2, h3, if_true, if_false]
   obtain ⟨i1, i2⟩ := ih t (acc ++ [c]) (k + 1)
   refine ⟨fun kd x n len h => ?_, fun e off h => ?_⟩
   ·have := i1 kd x n len h; simp; omega
   ·have := i2 e off h; simp; omega

theorem cut_len {r : List Int} {kd n : Int} {x : List Int} {len : Nat} (h : cut r = .tok kd x n len) : 1 ≤ len ∧ len ≤ r.length := by
 cases r with
 | nil => simp [cut] at h
 | cons c t =>
  simp only [cut] at h
  split at h
  ·rename_i hc
   simp only [cName, Cut.tok.injEq] at h
   have hn : isNm c = true := by simp [isNm, hc]
   have := twl_le isNm (c :: t)
   have e := twl_cons isNm c t
   rw [if_pos hn] at e
   omega
  ·split at h
   ·rename_i _ hc
    unfold cNum at h
    split at h
    ·cases h
    ·split at h
     ·cases h
     ·split at h
      ·cases h
      ·simp only [Cut.tok.injEq] at h
       have := twl_le isDg (c :: t)
       have e := twl_cons isDg c t
       rw [if_pos hc] at e
       omega
   ·split at h
    ·have := (cStr_len _ _ _ _).1 _ _ _ _ h
     simp; omega
    ·simp only [cSign] at h
     split at h
     ·rename_i h0
      simp only [Cut.tok.injEq] at h
      cases t with
      | nil => simp at h0
      | cons d u => simp; omega
     ·split at h
      ·simp only [Cut.tok.injEq] at h
       simp; omega
      ·cases h

theorem cut_bad {r : List Int} {e : Int} {off : Nat} (h : cut r = .bad e off) : (e = 6 ∨ e = 9) ∧ off ≤ r.length + 1 := by
 cases r with
 | nil => simp [cut] at h; omega
 | cons c t =>
  simp only [cut] at h
  split at h
  ·simp [cName] at h
  ·split at h
   ·have := twl_le isDg (c :: t)
    unfold cNum at h
    split at h
    ·simp at h; simp; omega
    ·split at h
     ·simp at h; omega
     ·split at h
      ·simp at h; omega
      ·cases h
   ·split at h
    ·have := (cStr_len _ _ _ _).2 _ _ h
     simp; omega
    ·simp only [cSign] at h
     split at h
     ·cases h
     ·split at h
      ·cases h
      ·simp at h; simp; omega

def shT (s : Nat) (t : ATok) : ATok := (t.1, t.2.1, t.2.2.1, t.2.2.2 + (s : Int))
def shR (s : Nat) (pre : List ATok) (R : List ATok × Int × Nat) : List ATok × Int × Nat := if R.2.1 = 0 then (pre ++ R.1.map (shT s), 0, R.2.2 + s) else ([], R.2.1, R.2.2 + s)

end Go.Proofs.YtdhkcdehedbpcaaDoor

