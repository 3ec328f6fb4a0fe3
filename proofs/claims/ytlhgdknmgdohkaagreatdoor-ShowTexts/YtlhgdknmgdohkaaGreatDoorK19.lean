/- The statements' own question whether showing would take too long; the library's two tables, out of the condition. · What a word looks like, as a string. -/
import Derived.Test.YtlhgdknmgdohkaaGreatDoorK18
import Derived.Test.YtlhgdknmgdohkaaGreatDoorK11
set_option linter.unusedSimpArgs false
set_option linter.unusedVariables false
namespace Go.Proofs.YtlhgdknmgdohkaaGreatDoor
open Go.ChangeShapes Go.WideShapes Go.ChangeAt Go.RowKit

/-- Yes or no. -/
def IsB (e : Ending) : Prop := ∃ q : Bool, e = .returned (.bool q)

set_option maxRecDepth 100000 in
set_option maxHeartbeats 8000000 in
theorem wide_any (ao aw : Option Addr) (co cw : Nat) (Os : List AObj) (Ws : List (Int × Int × Int)) (w : World) (hw : WU w ao aw Os Ws) (hm : muchW Os Ws = false) :
    Calls Tryz.prog 15 #[.agg #[.slice ao Os.length co, .slice aw Ws.length cw]] w fun e w' => IsB e ∧ Bw w w' := by
  have HW := hid hw
  have hO : Os.length ≤ 30 := (much_no4 hm).1
  have HG := hid (much_no4 hm).2.2
  clear hw hm
  go_enter Tryz.func15, Tryz.ntmps15
  go_wp2
  go_loopw [3, 4] (fun n j wr => ∃ (k N : Nat), k ≤ Os.length ∧ j = .int .i64 k ∧ n = .int .i64 N ∧ N ≤ 100000 ∧ wr = w.alloc (.cells #[.slice ao Os.length co, .slice aw Ws.length cw] 25)) (fun _ j _ => Os.length - (intOf j).toNat)
  case atStart => exact ⟨0, 1, Nat.zero_le _, rfl, rfl, by omega, rfl⟩
  case round =>
    obtain ⟨k, N, hk, rfl, rfl, hN, rfl⟩ := hrel
    by_cases hlt : k < Os.length
    · have hb1 : (0 : Int) ≤ (k : Int) := by omega
      have hb2 : (k : Int) < (Os.length : Int) := by omega
      have hg := (big_no (HG.out _ (List.getElem_mem hlt))).2.1
      obtain ⟨b, off, ⟨xb, xv, xk⟩, rfl, hb, hc, how⟩ := HW.out.1 k hlt
      generalize Os[k] = o at hc how hg
      obtain ⟨av, cv, ev⟩ := how.ol.2.1.form
      subst ev
      have q2 : w.cell? ⟨b, off + k * 7 + 2, none⟩ = some (.slice av o.vals.length cv) := hc 2 (by omega)
      clear hc how
      by_cases h1 : 1 < o.vals.length
      · have t1 : decide (1 < (o.vals.length : Int)) = true := decide_eq_true (by omega)
        have hmb : N * o.vals.length ≤ 1200000 := by
          have := Nat.mul_le_mul hN hg
          omega
        have hmw : IntKind.i64.wrap ((N : Int) * (o.vals.length : Int)) = ((N * o.vals.length : Nat) : Int) := by
          rw [← Int.natCast_mul, IntKind.wrap_i64]; omega
        obtain ⟨M, hM⟩ : ∃ M, M = N * o.vals.length := ⟨_, rfl⟩
        have hmw2 : (N : Int) * (o.vals.length : Int) = (M : Int) := by rw [hM, Int.natCast_mul]
        rw [← hM] at hmb hmw
        clear hM
        by_cases h2 : 100000 < M
        · have t2 : decide (100000 < (M : Int)) = true := decide_eq_true (by omega)
          go_wp2
          all_goals go_ret
          all_goals exact ⟨⟨_, rfl⟩, Bw.alloc (Bw.refl _) _⟩
        · have t2 : decide (100000 < (M : Int)) = false := decide_eq_false (by omega)
          go_wp2
          go_roundw
          case rel => exact ⟨k + 1, M, by omega, by go_num, rfl, by omega, trivial⟩
          case measure => simp [intOf]; omega
      · have t1 : decide (1 < (o.vals.length : Int)) = false := decide_eq_false (by omega)
        have t2 : decide (100000 < (N : Int)) = false := decide_eq_false (by omega)
        go_wp2
        go_roundw
        case rel => exact ⟨k + 1, N, by omega, by go_num, rfl, hN, trivial⟩
        case measure => simp [intOf]; omega
    · have hn0 : ¬ ((k : Int) < (Os.length : Int)) := by omega
      go_wp2
      all_goals go_ret
      all_goals exact ⟨⟨_, rfl⟩, Bw.alloc (Bw.refl _) _⟩

/-- The library's table of de Bruijn's bits. -/
def bruTab : List Int := [0, 1, 56, 2, 57, 49, 28, 3, 61, 58, 42, 50, 38, 29, 17, 4, 62, 47, 59, 36, 45, 43, 51, 22, 53, 39, 33, 30, 24, 18, 12, 5, 63, 55, 48, 27, 60, 41, 37, 16, 46, 35, 44, 21, 52, 32, 23, 11, 54, 26, 40, 15, 34, 20, 31, 10, 25, 14, 19, 9, 13, 8, 7, 6]

theorem bru_datum : (Rows.laid_math_bits_deBruijn64tab : DataW Unit) = Lib.tabData .u8 bruTab := by rfl

theorem pd_of_laid {W : World} (h : laidMetH Tryz.prog laidS W) : Pd W := by
  refine ⟨pw_of_laid h, ?_⟩
  rw [MakeChecks.laidMetH_plain _ _ _ (by kernel_rfl)] at h
  obtain ⟨ps, ⟨g0, t0, c0, f0, p0, q0, _, _, _, _, r0, e0⟩, _⟩ := h
  obtain ⟨g1, t1, c1, f1, p1, q1, hg2, ht2, hv2, hd2, _, _⟩ := r0
  rw [bru_datum] at hd2
  have hgn : Tryz.prog.globalNamed "math/bits.deBruijn64tab" = some 2 := by kernel_rfl
  obtain rfl := Option.some.inj (hgn.symm.trans hg2)
  have hty : (Tryz.prog.globals[2]?).map (·.type) = some 207 := by kernel_rfl
  obtain rfl := Option.some.inj (hty.symm.trans ht2)
  have hti : Lib.TabIs Tryz.prog W "math/bits.deBruijn64tab" .u8 bruTab := by
    unfold Lib.TabIs
    rw [hv2, ← Lib.cells_of_tab (n := 64) (e := 5) (by kernel_rfl) (by kernel_rfl) (by kernel_rfl) (by kernel_rfl) hd2]
  exact hti.cell hgn 15 (by decide)

end Go.Proofs.YtlhgdknmgdohkaaGreatDoor

set_option linter.unusedSimpArgs false
set_option linter.unusedVariables false
namespace Go.Proofs.YtlhgdknmgdohkaaGreatDoor
open Go Go.RowKit

/-- A row of bytes. -/
def ByL (t : List Value) : Prop := ∃ L : List Int, t = L.map (Value.int .u8) ∧ ∀ c ∈ L, 0 ≤ c ∧ c ≤ 255

theorem byl_nil : ByL [] := ⟨[], rfl, fun c hc => by cases hc⟩
theorem byl_app {a b : List Value} (ha : ByL a) (hb : ByL b) : ByL (a ++ b) := by
  obtain ⟨L, rfl, hL⟩ := ha
  obtain ⟨M, rfl, hM⟩ := hb
  exact ⟨L ++ M, by simp, fun c hc => (List.mem_append.1 hc).elim (hL c) (hM c)⟩
theorem byl_one (c : Int) (h : 0 ≤ c ∧ c ≤ 255) : ByL [.int .u8 c] := ⟨[c], rfl, fun d hd => by rw [List.mem_singleton] at hd; subst hd; exact h⟩
theorem byl_str (s : ByteArray) : ByL (Lib.strCells s) := by
  refine ⟨s.data.toList.map (fun u => (u.toNat : Int)), by unfold Lib.strCells; simp [List.map_map, Function.comp_def], fun c hc => ?_⟩
  obtain ⟨u, _, rfl⟩ := List.mem_map.1 hc
  have := u.toNat_lt
  omega
theorem byl_btw (i : Nat) : ByL (btw i) := by
  rw [← btw_cells]; exact byl_str _
theorem byl_txs {f : Int → List Value} (hf : ∀ x, ByL (f x)) : ∀ (l : List Int) (i : Nat), ByL (txs f i l)
  | [], _ => byl_nil
  | x :: r, i => byl_app (byl_btw i) (byl_app (hf x) (byl_txs hf r (i + 1)))
theorem byl_fxs {f : Int → List Value} (hf : ∀ x, ByL (f x)) : ∀ (l : List (ByteArray × Int)) (i : Nat), ByL (fxs f i l)
  | [], _ => byl_nil
  | p :: r, i => byl_app (byl_btw i) (byl_app (byl_str p.1) (byl_app (byl_str ⟨#[58, 32]⟩) (byl_app (hf p.2) (byl_fxs hf r (i + 1)))))

theorem byl_tx (H : AHeap) : ∀ (n : Nat) (W : List Int) (v : Int), ByL (tx H n W v)
  | 0, _, _ => byl_nil
  | n + 1, W, v => by
    rw [tx]
    split
    · split
      · exact byl_str _
      · split
        · exact byl_app (byl_one 91 (by decide)) (byl_app (byl_txs (fun x => byl_tx H n _ x) _ _) (byl_one 93 (by decide)))
        · split
          · exact byl_app (byl_one 123 (by decide)) (byl_app (byl_fxs (fun x => byl_tx H n _ x) _ _) (byl_one 125 (by decide)))
          · exact byl_app (byl_one 38 (by decide)) (byl_tx H n _ _)
    · exact byl_str _

/-- What is shown of a word: nothing, if it is too long. -/
def shown (H : AHeap) (v : Int) : List Value := if fits [] (txt H v) = true then txt H v else []
/-- As a string. -/
def shownS (H : AHeap) (v : Int) : ByteArray := strOfNums ((shown H v).map intOf)

theorem shown_len (H : AHeap) (v : Int) : (shown H v).length ≤ 65536 := by
  unfold shown
  split
  · rename_i h
    have := fits_le h
    simpa using this
  · simp

theorem shown_byl (H : AHeap) (v : Int) : ByL (shown H v) := by
  unfold shown
  split
  · exact byl_tx H _ _ _
  · exact byl_nil

/-- The program's Text, and what it is as a string. -/
theorem text_str {b0 : Nat} {H : AHeap} {bs : List Nat} (hs : Sane H) (v : Int) (hU : U v) (w : World) (hp : Pd w) (h : HS w b0 H bs) :
    Calls Tryz.prog 16 #[.pointer (some ⟨b0, 0, none⟩), .int .u64 v] w fun e w' => ∃ r, e = .returned (.tuple #[r, .int .i64 (if fits [] (txt H v) = true then 0 else 2)]) ∧ (∀ w2, Bw w' w2 → (convert 44 9 r).run Tryz.prog w2 = .ok (.string (shownS H v)) w2) ∧ Bw w w' := by
  refine (text_any (fun o ho => (hs o ho).1) (fun o ho => (hs o ho).2) v hU w hp h).mono fun e w' ⟨r, he, ho, hb⟩ => ⟨r, he, fun w2 hb2 => ?_, hb⟩
  have hl := shown_len H v
  obtain ⟨L, hL, hLb⟩ := shown_byl H v
  have hz : shownS H v = strOfNums L := by
    unfold shownS
    rw [hL]
    simp [List.map_map, Function.comp_def, intOf]
  have ho2 : w2.ownsRow w.heap.size 5 1 r (shown H v).length (shown H v) := own_bw ho hb2
  rw [hL] at ho2 hl
  rw [List.length_map] at ho2 hl
  rw [hz]
  exact conv_own ho2 hLb (by omega)

end Go.Proofs.YtlhgdknmgdohkaaGreatDoor

