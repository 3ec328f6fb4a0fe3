/- What can be asked: the contract. -/
import Derived.Test.YtfkcbioefdkabaaQj0
import Derived.Test.YtfkcbioefdkabaaQj1
import Derived.Test.YtfkcbioefdkabaaQj2
set_option linter.unusedSimpArgs false
set_option linter.unusedVariables false
namespace Go.Proofs.Ytfkcbioefdkabaa
open Go Go.RowKit

/-- All that can be asked is answered as the document does. -/
theorem asks_any {w : World} {q : PP} {F G : Nat} {Gd : Nat → Prop} {vL : Value} {L : List AA} (x : AA) (h : PS w q.p q.hb q.wb q.mb F G L) (hr : RLs w Gd vL L) (hpo : PairOk L) (hF : F ≤ 1024) (hG : G ≤ 1024) :
    Calls Try.prog 14 #[.pointer (some ⟨q.p, 0, none⟩), rpV F G vL, actV x] w fun e w' => e = .returned (.bool true) ∧ Bw w w' := by
  obtain ⟨aL, cL, rfl⟩ := hr.form
  obtain ⟨d, f, t, a, b, v⟩ := x
  by_cases f0 : f < 0
  · exact asks_neg_F_neg d t a b v f f0 h hr hpo hF hG
  · obtain ⟨i, rfl⟩ : ∃ i : Nat, f = i := ⟨f.toNat, by omega⟩
    by_cases f1 : i < F
    · by_cases g1 : i < G
      · by_cases t0 : t < 0
        · exact asks_in_T_neg d t a b v i f1 g1 t0 h hr hpo hF hG
        · by_cases t1 : t < 65536
          · exact asks_in_T_in d t a b v i f1 g1 ⟨by omega, t1⟩ h hr hpo hF hG
          · exact asks_in_T_big d t a b v i f1 g1 (by omega) h hr hpo hF hG
      · by_cases t0 : t < 0
        · exact asks_in_F_neg d t a b v i f1 (by omega) t0 h hr hpo hF hG
        · by_cases t1 : t < 65536
          · exact asks_in_F_in d t a b v i f1 (by omega) ⟨by omega, t1⟩ h hr hpo hF hG
          · exact asks_in_F_big d t a b v i f1 (by omega) (by omega) h hr hpo hF hG
    · by_cases g1 : i < G
      · exact asks_big_T_neg d t a b v i (by omega) g1 h hr hpo hF hG
      · exact asks_big_F_neg d t a b v i (by omega) (by omega) h hr hpo hF hG

end Go.Proofs.Ytfkcbioefdkabaa
