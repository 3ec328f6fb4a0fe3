/- How deep programs may be: closed texts; strings joined. -/
import Derived.Test.YthkiddohjilfhaaDoorPlvk
import Derived.Laws.Concat
set_option linter.unusedSimpArgs false
set_option linter.unusedVariables false
namespace Go.Proofs.YthkiddohjilfhaaDoor
open Go Go.RowKit

def endB (T : List ATok) : Bool := (List.range T.length).all fun i => (tk T i).1 == 0 || decide (i + 1 < T.length)

theorem endB_ok {T : List ATok} (h : endB T = true) : EndT T := by
  intro i hi hn
  have := List.all_eq_true.1 h i (List.mem_range.2 hi)
  simp [hn] at this
  exact this

def preB (L : List Int) : Bool := (lexA L).2.1 == 0 && decide (0 < (lexA L).1.length) && decide ((lexA L).1.length ≤ 20000) && decide (L.length ≤ 1000000) && endB (lexA L).1
def okS (L : List Int) : Bool := preB L && (match pP (lexA L).1 2000 (.prog []) 0 0 with | .ok x _ _ => decide (x.size ≤ 100000) | _ => false)
def okB (L : List Int) (n a : Int) : Bool := preB L && chkB (pP (lexA L).1 2000 (.prog []) 0 0) n a

theorem preB_ok {L : List Int} (h : preB L = true) : lexA L = ((lexA L).1, 0, (lexA L).2.2) ∧ 0 < (lexA L).1.length ∧ (lexA L).1.length ≤ 20000 ∧ L.length ≤ 1000000 ∧ EndT (lexA L).1 := by
  unfold preB at h
  simp only [Bool.and_eq_true, beq_iff_eq, decide_eq_true_eq] at h
  obtain ⟨⟨⟨⟨h1, h2⟩, h3⟩, h4⟩, h5⟩ := h
  exact ⟨by rw [← h1], h2, h3, h4, endB_ok h5⟩

theorem parse_someS {L : List Int} (h : okS L = true) (v : Value) (w : World) (hb : By w v L) (hs : Sg w) : Calls Tryd.prog 15 #[v] w fun e w' => ∃ a N c, e = .returned (.tuple #[.slice a N c, .int .i64 0, .int .i64 L.length]) ∧ Bw w w' := by
  unfold okS at h
  rw [Bool.and_eq_true] at h
  obtain ⟨h1, h2, h3, h4, h5⟩ := preB_ok h.1
  cases hq : pP (lexA L).1 2000 (.prog []) 0 0 with
  | ok x c j =>
    have hz : x.size ≤ 100000 := by have := h.2; rw [hq] at this; simpa using this
    refine (parse_good v L w _ _ 2000 (.ok x c j) hb hs h4 h1 h2 h3 h5 hq nofun (fun x' c' j' e' => by cases e'; exact hz)).mono ?_
    rintro e w' ⟨r, rfl, hn, hbw⟩
    obtain ⟨a, cc, e9⟩ := own_form hn
    subst e9
    exact ⟨_, _, _, rfl, hbw⟩
  | bad _ _ => have := h.2; rw [hq] at this; cases this
  | out => have := h.2; rw [hq] at this; cases this

theorem parse_someB {L : List Int} {n a : Int} (h : okB L n a = true) (v : Value) (w : World) (hb : By w v L) (hs : Sg w) : Calls Tryd.prog 15 #[v] w fun e w' => e = .returned (.tuple #[.slice none 0 0, .int .i64 n, .int .i64 a]) ∧ Bw w w' := by
  unfold okB at h
  rw [Bool.and_eq_true] at h
  obtain ⟨h1, h2, h3, h4, h5⟩ := preB_ok h.1
  exact parse_good v L w _ _ 2000 (.bad n a) hb hs h4 h1 h2 h3 h5 (chkB_ok h.2) nofun (fun x' c' j' e' => by cases e')

def rep (o : List Int) : Nat → List Int
  | 0 => []
  | n + 1 => rep o n ++ o
def nest (o m e z : List Int) (n : Nat) : List Int := rep o n ++ m ++ rep e n ++ z
def nestB (o m e z : List Int) : Bool := (List.range 5).all (fun i => okS (nest o m e z (60 + i))) && (List.range 6).all (fun i => okB (nest o m e z (65 + i)) 3 (64 * o.length))

theorem nest0 : nestB [40] [120] [41] [59] = true := by decide +kernel
theorem nest1 : nestB [91] [] [93] [59] = true := by decide +kernel
theorem nest2 : nestB [45] [120] [] [59] = true := by decide +kernel
theorem nest3 : nestB [110, 111, 116, 32] [120] [] [59] = true := by decide +kernel
theorem nest4 : nestB [123] [] [125] [] = true := by decide +kernel

theorem nest_yes {o m e z : List Int} (h : nestB o m e z = true) {n : Nat} (h1 : 60 ≤ n) (h2 : n ≤ 64) : okS (nest o m e z n) = true := by
  unfold nestB at h
  rw [Bool.and_eq_true] at h
  have := List.all_eq_true.1 h.1 (n - 60) (List.mem_range.2 (by omega))
  rwa [show 60 + (n - 60) = n by omega] at this

theorem nest_no {o m e z : List Int} (h : nestB o m e z = true) {n : Nat} (h1 : 65 ≤ n) (h2 : n ≤ 70) : okB (nest o m e z n) 3 (64 * o.length) = true := by
  unfold nestB at h
  rw [Bool.and_eq_true] at h
  have := List.all_eq_true.1 h.2 (n - 65) (List.mem_range.2 (by omega))
  rwa [show 65 + (n - 65) = n by omega] at this

theorem str_app (a b : List Int) : strOfNums a ++ strOfNums b = strOfNums (a ++ b) := by
  apply str_inj
  simp [strOfNums, ByteArray.toList_eq]

end Go.Proofs.YthkiddohjilfhaaDoor

