/- The document's Lex, of texts that are not too long: the contract. -/
import Derived.Test.YtekkjpecdflajaaDoorRGk
set_option linter.unusedSimpArgs false
set_option linter.unusedVariables false
set_option maxRecDepth 20000
namespace Go.Proofs.YtekkjpecdflajaaDoor
open Go Go.RowKit

theorem By.conv00 {w : World} {a : Option Addr} {cap : Nat} {b : List Int} (h : By w (.slice a b.length cap) b) :
    (convert 35 9 (.slice a b.length cap)).run Tryd.prog w = .ok (.string (strOfNums b)) w := by
  by_cases h0 : 0 < b.length
  · obtain ⟨g, o, cap', e, _, _, _⟩ := h.parts h0
    cases e
    have := h.conv 0 b.length cap (by omega)
    simpa using this
  · have hb : b = [] := List.eq_nil_of_length_eq_zero (by omega)
    subst hb
    cases a with
    | none => exact run_convert_bytes_nil w 35 5 under22 under5 _ _ 9 under9
    | some ad =>
      rw [run_convert_bytes_string w 35 9 5 _ _ _ under22 under5 under9]
      have hl := run_loadCells_list (P := Tryd.prog) w ad [] (fun j v hj => by simp at hj)
      exact run_bytesToString w ad 0 cap [] hl

/-- What the document cuts at a place. -/
def rcut (r : List Int) : Cut :=
  match r with
  | [] => .bad 6 0
  | c :: t => if isLt c then cName r else if isDg c then cNum r else if c = 34 then cStr (t.length + 1) t [] 1 else sgC r

theorem rcut_eq {c : Int} {t : List Int} (h : begn c = true) : rcut (c :: t) = cut (c :: t) := by
  simp only [rcut, cut]
  split
  · rfl
  · split
    · rfl
    · split
      · rfl
      · rename_i h1 h2 h3
        have : isSg c = true := by simpa [begn, h1, h2, h3] using h
        simp [sgC, this]

theorem rcut_no {c : Int} {t : List Int} (h : begn c = false) : rcut (c :: t) = .bad 6 0 := by
  simp [begn] at h
  obtain ⟨⟨⟨h1, h2⟩, h3⟩, h4⟩ := h
  simp [rcut, sgC, h1, h2, h3, h4]

/-- One token, or the fault, from a place at which neither a blank nor a remark is. -/
theorem lex_step {b : List Int} {k : Nat} (hk : k < b.length) (h1 : isBl b[k] = false) (h2 : b[k] ≠ 35) (acc : List ATok) (ha : acc.length ≠ 16384) (f : Nat) (hf : (b.drop k).length < f) :
    (∀ e off, rcut (b.drop k) = .bad e off → lexF f (b.drop k) k acc = ([], e, k + off)) ∧
    (∀ kd x n len, rcut (b.drop k) = .tok kd x n len → 1 ≤ len ∧ k + len ≤ b.length ∧ ∃ f', (b.drop (k + len)).length < f' ∧ lexF f (b.drop k) k acc = lexF f' (b.drop (k + len)) (k + len) (acc ++ [(kd, x, n, (k : Int))])) := by
  obtain ⟨f', rfl⟩ : ∃ f', f = f' + 1 := ⟨f - 1, by omega⟩
  have hr : b.drop k = b[k] :: b.drop (k + 1) := List.drop_eq_getElem_cons hk
  have hl : (b.drop k).length = b.length - k := List.length_drop
  rw [hr] at hf ⊢
  cases hg : begn b[k]
  · rw [rcut_no hg]
    refine ⟨fun e off h => ?_, fun kd x n len h => by cases h⟩
    cases h
    rw [lexF_form h1 h2 hg]; rfl
  · rw [rcut_eq hg]
    refine ⟨fun e off h => lexF_bad h1 h2 hg _ _ _ _ ha h, fun kd x n len h => ?_⟩
    have hlen := cut_len h
    rw [← hr, hl] at hlen
    refine ⟨hlen.1, by omega, f', ?_, ?_⟩
    · rw [← hr, hl] at hf; rw [List.length_drop]; omega
    · rw [lexF_tok h1 h2 hg _ _ _ _ ha h, ← hr, List.drop_drop]

end Go.Proofs.YtekkjpecdflajaaDoor

