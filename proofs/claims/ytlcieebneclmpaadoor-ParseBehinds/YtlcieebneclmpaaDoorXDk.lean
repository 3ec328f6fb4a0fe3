/- The program's cutters of names and signs: the contracts. -/
import Derived.Test.YtlcieebneclmpaaDoorXCk
set_option linter.unusedSimpArgs false
set_option linter.unusedVariables false
namespace Go.Proofs.YtlcieebneclmpaaDoor
open Go Go.RowKit

/-- What is cut at place k, as the program tells it. -/
def cutV (k : Nat) : Cut → Value
  | .tok kd x n len => .tuple #[.agg #[.int .i64 kd, .string (strOfNums x), .int .i64 n, .int .i64 (k : Nat)], .int .i64 0, .int .i64 ((k + len : Nat) : Int)]
  | .bad e off => .tuple #[.agg #[.int .i64 0, .string ⟨#[]⟩, .int .i64 0, .int .i64 0], .int .i64 e, .int .i64 ((k + off : Nat) : Int)]

theorem strOf_nil : strOfNums [] = ⟨#[]⟩ := rfl

theorem By.parts {w : World} {v : Value} {b : List Int} {k : Nat} (h : By w v b) (hk : k < b.length) :
    ∃ g o cap, v = .slice (some ⟨g, o, none⟩) b.length cap ∧ b.length ≤ cap ∧ g < w.heap.size ∧ ∀ i (hi : i < b.length), w.cell? ⟨g, o + i, none⟩ = some (.int .u8 b[i]) := by
  obtain ⟨hl, a, cap, rfl, hn, hc⟩ := h.1
  rcases hc with hc | ⟨g, o, rfl, hg, _, hc⟩
  · omega
  · exact ⟨g, o, cap, rfl, hn.1, hg, fun i hi => by rw [hc i (by omega)]; simp [hi]⟩

theorem under22 : Tryd.prog.underlying 34 = some (.slice 5) := by kernel_rfl
theorem under5 : Tryd.prog.underlying 5 = some (.int .u8) := by kernel_rfl

/-- A part of the bytes as a string. -/
theorem By.conv {w : World} {g o cap : Nat} {b : List Int} (h : By w (.slice (some ⟨g, o, none⟩) b.length cap) b) (k m c : Nat) (hk : k + m ≤ b.length) :
    (convert 34 9 (.slice (some ⟨g, o + k, none⟩) m c)).run Tryd.prog w = .ok (.string (strOfNums ((b.drop k).take m))) w := by
  refine run_convert_bytes_arg w 34 5 under22 under5 g (o + k) m c ((b.drop k).take m) (by simp; omega) (fun i hi => ?_) 9 under9
  have hi' : k + i < b.length := by omega
  obtain ⟨g', o', cap', e, _, _, hc⟩ := h.parts hi'
  cases e
  rw [Nat.add_assoc, hc _ hi']
  congr 2
  rw [List.getD_eq_getElem?_getD, List.getElem?_take, if_pos hi, List.getElem?_drop, List.getElem?_eq_getElem hi']
  rfl

/-- The result's block as it begins. -/
abbrev tk0 : Obj := .cells #[.int .i64 0, .string ByteArray.empty, .int .i64 0, .int .i64 0] 72

set_option maxRecDepth 100000 in
set_option maxHeartbeats 4000000 in
theorem xcutName_any (v : Value) (b : List Int) (k : Nat) (w : World) (h : By w v b) (hk : k < b.length) (hm : b.length ≤ 1000000) :
    Calls Tryd.prog 49 #[v, .int .i64 (k : Nat)] w fun e w' => e = .returned (cutV k (cName (b.drop k))) ∧ Bw w w' := by
  have HB := hid h
  obtain ⟨g, o, cap, rfl, hcap, hg, hcs⟩ := h.parts hk
  have HC := hid hcs
  clear h hcs
  have hck : ¬ cap = k := by omega
  have hcb : ∀ c ∈ (b.drop k).takeWhile isNm, 0 ≤ c ∧ c ≤ 255 := fun c hc => HB.out.2.1 c (List.mem_of_mem_drop ((List.takeWhile_sublist _).subset hc))
  have WD := hid (xWord_any _ hcb)
  have HT := hid (takeWhile_twl isNm (b.drop k))
  clear hcb
  go_enter Tryd.func49, Tryd.ntmps49
  go_wp2
  go_loopw [7] (fun j wr => ∃ m, j = .int .i64 ((k + m : Nat) : Int) ∧ m ≤ twl isNm (b.drop k) ∧ wr = w.alloc (.cells #[.int .i64 0, .string ByteArray.empty, .int .i64 0, .int .i64 0] 72)) (fun j _ => b.length - (intOf j).toNat)
  case atStart => exact ⟨0, by simp, Nat.zero_le _, rfl⟩
  case round =>
    obtain ⟨m, rfl, hm1, hwr⟩ := hrel
    subst wr
    have hle := twl_le isNm (b.drop k)
    rw [List.length_drop] at hle
    have key : (twl isNm (b.drop k) = m ∧ ∀ hlt : k + m < b.length, isNm b[k + m] = false) ∨ ∃ hlt : k + m < b.length, isNm b[k + m] = true ∧ m + 1 ≤ twl isNm (b.drop k) := by
      by_cases hlt : k + m < b.length
      · have hml : m < (b.drop k).length := by rw [List.length_drop]; omega
        have hge : (b.drop k)[m] = b[k + m] := by simp
        cases hp : isNm b[k + m]
        · exact .inl ⟨twl_no hm1 hml (by rw [hge]; exact hp), fun _ => hp⟩
        · exact .inr ⟨hlt, hp, twl_go hm1 hml (by rw [hge]; exact hp)⟩
      · exact .inl ⟨twl_end hm1 (by rw [List.length_drop]; omega), fun h => absurd h hlt⟩
    rcases key with ⟨hfin, hno⟩ | ⟨hlt, hp, hg1⟩
    · have hconv := (HB.out.bw (Bw.alloc (Bw.refl w) tk0)).conv k m (cap - k) (by omega)
      rw [← hfin, ← HT.out, hfin] at hconv
      have hv : cutV k (cName (b.drop k)) = .tuple #[.agg #[.int .i64 (if isWord ((b.drop k).takeWhile isNm) then 2 else 1), .string (strOfNums ((b.drop k).takeWhile isNm)), .int .i64 0, .int .i64 (k : Nat)], .int .i64 0, .int .i64 ((k : Int) + m)] := by
        simp [cutV, cName, hfin]
      have HV := hid hv
      have hkm : k + m ≤ b.length := by omega
      clear hm1 hfin hle hv
      by_cases hlt : k + m < b.length
      · have hc := HC.out _ hlt
        have hlt2 : ((k + m : Nat) : Int) < (b.length : Int) := by omega
        have hn := hno hlt
        clear hno
        generalize b[k + m] = c at hc hn
        have h1 : isLt c = false := by simp [isNm] at hn; exact hn.1
        have h2 : isDg c = false := by simp [isNm] at hn; exact hn.2
        clear hn
        go_wp2_with (first
          | (go_at_call 46; refine (xisDigit_any _ _).mono ?_; rintro e w' ⟨rfl, hw'⟩; subst w')
          | (go_at_call 47; refine (xisLetter_any _ _).mono ?_; rintro e w' ⟨rfl, hw'⟩; subst w')
          | (go_at_call 48; refine (WD.out _).mono ?_; rintro e w' ⟨rfl, hw'⟩; subst w'))
        all_goals refine bodyPost_ret (v := cutV k (cName (b.drop k))) (by rw [HV.out]; simp [results, Tryd.results49, go_sem, *]) rfl ?_
        all_goals exact ⟨rfl, Bw.alloc (Bw.refl _) _⟩
      · clear hno
        go_wp2_with (first
          | (go_at_call 48; refine (WD.out _).mono ?_; rintro e w' ⟨rfl, hw'⟩; subst w'))
        all_goals refine bodyPost_ret (v := cutV k (cName (b.drop k))) (by rw [HV.out]; simp [results, Tryd.results49, go_sem, *]) rfl ?_
        all_goals exact ⟨rfl, Bw.alloc (Bw.refl _) _⟩
    · have hc := HC.out _ hlt
      have hlt2 : ((k + m : Nat) : Int) < (b.length : Int) := by omega
      have HG1 := hid hg1
      have HP := hid hp
      clear hm1 hle hg1 hp
      generalize b[k + m] = c at hc HP
      cases h1 : isLt c <;> cases h2 : isDg c
      · have := HP.out
        simp [isNm, h1, h2] at this
      all_goals
        go_wp2_with (first
          | (go_at_call 46; refine (xisDigit_any _ _).mono ?_; rintro e w' ⟨rfl, hw'⟩; subst w')
          | (go_at_call 47; refine (xisLetter_any _ _).mono ?_; rintro e w' ⟨rfl, hw'⟩; subst w'))
        go_roundw
        case rel => exact ⟨m + 1, by go_num, HG1.out, trivial⟩
        case measure => simp [intOf]; omega

end Go.Proofs.YtlcieebneclmpaaDoor

