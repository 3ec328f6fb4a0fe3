/- The program's Lex: the contract. · How tokens are read as a program, as plain data: parts and what they are made of. Nothing of the program's calls is in it. · The reader and parts in memory. · The place behind a node: plain data. -/
import Derived.Test.YtlcieebneclmpaaDoorK5
import Derived.WalkMore
import Derived.Test.YtlcieebneclmpaaDoorK1
import Derived.Laws.EntriesVeiled
set_option linter.unusedSimpArgs false
set_option linter.unusedVariables false
namespace Go.Proofs.YtlcieebneclmpaaDoor
open Go Go.RowKit

theorem underT : Tryd.prog.underlying 51 = some (.slice 72) := by kernel_rfl

theorem tk_snoc (l : List ATok) (t : ATok) : l.flatMap tkV ++ tkV t = (l ++ [t]).flatMap tkV := by simp

theorem Tk.bw {w w' : World} {base : Nat} {v : Value} {l : List ATok} (h : Tk w base v l) (hb : Bw w w') : Tk w' base v l :=
  h.kept (row := none) ⟨hb.os, hb.tape, hb.output, hb.size, fun k hk _ => hb.block k hk⟩ (by cases v.ownBlock <;> simp)

theorem Tk.form {w : World} {base : Nat} {v : Value} {l : List ATok} (h : Tk w base v l) : ∃ a cap, v = .slice a l.length cap := own_form h

set_option maxRecDepth 100000 in
set_option maxHeartbeats 8000000 in
theorem xLex_any (v : Value) (b : List Int) (w : World) (h : By w v b) (hs : Sg w) (hm : b.length ≤ 1000000) :
    Calls Tryd.prog 24 #[v] w fun e w' => ∃ r, e = .returned (.tuple #[r, .int .i64 (lexA b).2.1, .int .i64 ((lexA b).2.2 : Nat)]) ∧ Tk w' w.heap.size r (lexA b).1 ∧ Bw w w' := by
  have HB := hid h
  have HS := hid hs
  obtain ⟨a, cap, rfl⟩ := h.form
  obtain ⟨i1, hi1, hz1, hs1, hy1⟩ := info_parts infoT
  have I1 := hid (And.intro hi1 (And.intro hz1 (And.intro hs1 hy1)))
  clear h hs hi1 hz1 hs1 hy1
  by_cases hlong : 65536 < b.length
  · have e : lexA b = ([], 2, 0) := if_pos hlong
    rw [e]
    have hl' : decide ((65536 : Int) < (b.length : Int)) = true := decide_eq_true (by omega)
    clear hlong e
    go_enter Tryd.func24, Tryd.ntmps24
    go_wp2
    go_step3
    go_wp2
    all_goals rw [Exit.noGoto_ret]
    all_goals go_ret3
    all_goals exact ⟨_, rfl, World.ownsRow_nil _ _ _ _, Bw.refl _⟩
  · have e : lexA b = lexF (b.length + 1) b 0 [] := if_neg hlong
    generalize hR : lexA b = R at *
    have HE := hid e
    clear e hR
    have hl' : decide ((65536 : Int) < (b.length : Int)) = false := decide_eq_false (by omega)
    clear hlong
    go_enter Tryd.func24, Tryd.ntmps24
    go_wp2
    go_step3
    go_wp2
    go_step3
    go_wp2
    go_loopw [2, 3, 4] (fun l er p wr => ∃ (f k : Nat) (acc : List ATok), er = .int .i64 0 ∧ p = .int .i64 (k : Nat) ∧ k ≤ b.length ∧ (b.drop k).length < f ∧ R = lexF f (b.drop k) k acc ∧ acc.length ≤ 16384 ∧ Tk wr w.heap.size l acc ∧ Bw w wr) (fun _ _ p _ => b.length - (intOf p).toNat)
    case atStart => exact ⟨b.length + 1, 0, [], rfl, rfl, Nat.zero_le _, by simp, by simpa using HE.out, by simp, World.ownsRow_nil _ _ _ _, Bw.refl _⟩
    case round =>
      obtain ⟨f, k, acc, rfl, rfl, hk, hf, hre, hacc, htk, hbw⟩ := hrel
      obtain ⟨ax, cax, e⟩ := Tk.form htk
      subst e
      have HT := hid htk
      have HW := hid hbw
      have HR := hid hre
      have HF := hid hf
      have hsz : w.heap.size ≤ wr.heap.size := hbw.size
      have HAC := hid hacc
      clear htk hbw hre hf hacc
      by_cases hlt : k < b.length
      · obtain ⟨g, o, cap', e, hcap, hg, hcs⟩ := (HB.out.bw HW.out).parts hlt
        cases e
        have hc := hcs k hlt
        have hr : b.drop k = b[k] :: b.drop (k + 1) := List.drop_eq_getElem_cons hlt
        have hkl : (k : Int) < (b.length : Int) := by omega
        obtain ⟨f', rfl⟩ : ∃ f', f = f' + 1 := ⟨f - 1, by have := HF.out; omega⟩
        have hdl : (b.drop k).length = b.length - k := List.length_drop
        have HDR := hid hr
        clear hcs hr
        generalize b[k] = c at hc HDR
        have hre2 : R = lexF (f' + 1) (c :: b.drop (k + 1)) k acc := by rw [← HDR.out]; exact HR.out
        have HR2 := hid hre2
        clear hre2
        cases h1 : isBl c
        · cases h2 : (c == 35)
          · have h2' : c ≠ 35 := by simpa using h2
            cases h3 : begn c
            · have hf : R = ([], 6, k) := by rw [HR2.out, lexF_form h1 h2' h3]
              have HFN := hid hf
              clear hf
              go_wp2_with (first
                | (go_at_call 38; refine (xisBlank_any _ _).mono ?_; rintro e w' ⟨rfl, hw'⟩; subst w')
                | (go_at_call 40; refine (xbegins_any _ _ (HS.out.bw HW.out)).mono ?_; rintro e w' ⟨rfl, hw'⟩; subst w'))
              all_goals rw [Exit.noGoto_ret]
              all_goals go_ret3
              all_goals exact ⟨.slice none 0 0, by rw [HFN.out]; rfl, by rw [HFN.out]; exact World.ownsRow_nil _ _ _ _, HW.out⟩
            · by_cases h4 : acc.length = 16384
              · have hf : R = ([], 3, k) := by rw [HR2.out, lexF_full h1 h2' h3 _ _ _ _ h4]
                have HFN := hid hf
                have h4' : ((acc.length : Int) == 16384) = true := by simp; omega
                clear hf h4
                go_wp2_with (first
                  | (go_at_call 38; refine (xisBlank_any _ _).mono ?_; rintro e w' ⟨rfl, hw'⟩; subst w')
                  | (go_at_call 40; refine (xbegins_any _ _ (HS.out.bw HW.out)).mono ?_; rintro e w' ⟨rfl, hw'⟩; subst w'))
                all_goals rw [Exit.noGoto_ret]
                all_goals go_ret3
                all_goals exact ⟨.slice none 0 0, by rw [HFN.out]; rfl, by rw [HFN.out]; exact World.ownsRow_nil _ _ _ _, HW.out⟩
              · have h4' : ((acc.length : Int) == 16384) = false := by simp; omega
                have HX := hid (xcut_any _ b k (wr.alloc tk0) ((HB.out.bw HW.out).bw (Bw.alloc (Bw.refl _) tk0)) ((HS.out.bw HW.out).bw (Bw.alloc (Bw.refl _) tk0)) hlt hm)
                cases hC : cut (b.drop k) with
                | bad er off =>
                  have hne := (cut_bad hC).1
                  have hf : R = ([], er, k + off) := by
                    rw [HDR.out] at hC
                    rw [HR2.out, lexF_bad h1 h2' h3 _ _ _ _ h4 hC]
                  have HFN := hid hf
                  have hne' : (er != 0) = true := by simp; omega
                  rw [hC] at HX
                  clear hf hC hne
                  go_wp2_with (first
                    | (go_at_call 38; refine (xisBlank_any _ _).mono ?_; rintro e w' ⟨rfl, hw'⟩; subst w')
                    | (go_at_call 40; refine (xbegins_any _ _ (HS.out.bw HW.out)).mono ?_; rintro e w' ⟨rfl, hw'⟩; subst w')
                    | (go_at_call 41; refine (HX.out).mono ?_; rintro e w1 ⟨rfl, hw1⟩; have HW1 := hid hw1; have B := (Blk.new wr #[.int .i64 0, .string ByteArray.empty, .int .i64 0, .int .i64 0] 72).bw hw1; have HBK := hid B; have k0 := B.cell 0; have k1 := B.cell 1; have k2 := B.cell 2; have k3 := B.cell 3; have kf := B.free; simp at k0 k1 k2 k3; clear hw1 B; unfold cutV))
                  all_goals rw [Exit.noGoto_ret]
                  all_goals go_ret3
                  all_goals exact ⟨.slice none 0 0, by rw [HFN.out]; simp, by rw [HFN.out]; exact World.ownsRow_nil _ _ _ _, HW.out.trans ((((((Bw.alloc (Bw.refl wr) tk0).trans HW1.out).setCell (Nat.le_refl _) _).setCell (Nat.le_refl _) _).setCell (Nat.le_refl _) _).setCell (Nat.le_refl _) _)⟩
                | tok kd x n len =>
                  have hlen := cut_len hC
                  have hf : R = lexF f' (b.drop (k + len)) (k + len) (acc ++ [(kd, x, n, (k : Int))]) := by
                    have hC' := hC
                    rw [HDR.out] at hC'
                    rw [HR2.out, lexF_tok h1 h2' h3 _ _ _ _ h4 hC', ← HDR.out, List.drop_drop]
                  have HFN := hid hf
                  rw [hC] at HX
                  clear hf hC
                  go_wp2_with (first
                    | (go_at_call 38; refine (xisBlank_any _ _).mono ?_; rintro e w' ⟨rfl, hw'⟩; subst w')
                    | (go_at_call 40; refine (xbegins_any _ _ (HS.out.bw HW.out)).mono ?_; rintro e w' ⟨rfl, hw'⟩; subst w')
                    | (go_at_call 41; refine (HX.out).mono ?_; rintro e w1 ⟨rfl, hw1⟩; have HW1 := hid hw1; have B := (Blk.new wr #[.int .i64 0, .string ByteArray.empty, .int .i64 0, .int .i64 0] 72).bw hw1; have HBK := hid B; have k0 := B.cell 0; have k1 := B.cell 1; have k2 := B.cell 2; have k3 := B.cell 3; have kf := B.free; simp at k0 k1 k2 k3; clear hw1 B; unfold cutV)
                    | (at_builtin; refine wpList_append_own _ rfl _ _ 51 rfl w.heap.size 72 i1 _ 4 40 underT I1.out.1 I1.out.2.1 I1.out.2.2.1 I1.out.2.2.2 rfl (by decide) (.slice ax acc.length cax) acc.length (acc.flatMap tkV) rfl ?c0 _ 1 1 (tkV (kd, x, n, (k : Int))) rfl rfl ?c1 ?c2 ?c3 ?c4 ?c5 ?_)
                    | go_in)
                  case c0 => exact HT.out.bw (Bw.alloc ((((((Bw.alloc (Bw.refl wr) tk0).trans HW1.out).setCell (Nat.le_refl _) _).setCell (Nat.le_refl _) _).setCell (Nat.le_refl _) _).setCell (Nat.le_refl _) _) _)
                  case c1 =>
                    intro j u hj
                    match j, hj with
                    | 0, hj => simp [tkV] at hj; subst hj; simp [Addr.add, go_sem]
                    | 1, hj => simp [tkV] at hj; subst hj; simp [Addr.add, go_sem]
                    | 2, hj => simp [tkV] at hj; subst hj; simp [Addr.add, go_sem]
                    | 3, hj => simp [tkV] at hj; subst hj; simp [Addr.add, go_sem]
                    | j + 4, hj => simp [tkV] at hj
                  case c2 => intro u hu; simp [tkV] at hu; rcases hu with rfl | rfl | rfl | rfl <;> rfl
                  case c3 => have := HAC.out; unfold maxLen; omega
                  case c4 => have := HAC.out; omega
                  case c5 => have := HW1.out.size; simp at this ⊢; omega
                  intro v' w2 hown hgr _
                  obtain ⟨av', cv', e⟩ := own_form hown
                  subst e
                  have hb2 : Bw w w2 := by
                    refine bw_grown (e := 72) (size := 4) (n := acc.length) (xs := acc.flatMap tkV) ?_ (Nat.le_refl _) ?_ hgr
                    · exact HW.out.trans (Bw.alloc ((((((Bw.alloc (Bw.refl wr) tk0).trans HW1.out).setCell (Nat.le_refl _) _).setCell (Nat.le_refl _) _).setCell (Nat.le_refl _) _).setCell (Nat.le_refl _) _) _)
                    · exact HT.out.bw (Bw.alloc ((((((Bw.alloc (Bw.refl wr) tk0).trans HW1.out).setCell (Nat.le_refl _) _).setCell (Nat.le_refl _) _).setCell (Nat.le_refl _) _).setCell (Nat.le_refl _) _) _)
                  have HB2 := hid hb2
                  rw [tk_snoc] at hown
                  have HO1 := hid hown
                  clear hgr hown hb2
                  go_wp2
                  go_roundw
                  case rel => exact ⟨f', k + len, _, rfl, by go_num, by omega, by rw [List.length_drop]; have := HF.out; omega, HFN.out, by have := HAC.out; simp; omega, by simpa [Tk] using HO1.out, HB2.out⟩
                  case measure => simp [intOf]; omega
          · rw [beq_iff_eq] at h2
            subst h2
            have htw := twl_le (· != 10) (b.drop (k + 1))
            rw [List.length_drop] at htw
            have hf : R = lexF f' (b.drop (k + 1 + twl (· != 10) (b.drop (k + 1)))) (k + 1 + twl (· != 10) (b.drop (k + 1))) acc := by
              rw [HR2.out, lexF_rem, List.drop_drop]
            have HFN := hid hf
            have HTW := hid htw
            have ht1 : twl (· != 10) (b.drop k) = twl (· != 10) (b.drop (k + 1)) + 1 := by rw [HDR.out, twl_cons]; simp
            have HT1 := hid ht1
            clear hf ht1 htw
            go_wp2_with (first
              | (go_at_call 38; refine (xisBlank_any _ _).mono ?_; rintro e w' ⟨rfl, hw'⟩; subst w')
              | (go_at_call 39; refine (xbehindRemark_any _ b k _ (HB.out.bw HW.out) hk hm).mono ?_; rw [HT1.out]; rintro e w' ⟨rfl, n1, rfl⟩))
            go_roundw
            case rel => exact ⟨f', k + 1 + twl (· != 10) (b.drop (k + 1)), acc, rfl, by go_num, by have := HTW.out; omega, by rw [List.length_drop]; have := HF.out; omega, HFN.out, HAC.out, HT.out.bw (Bw.drewN (Bw.refl _) _), Bw.drewN HW.out _⟩
            case measure => simp [intOf]; have := HTW.out; omega
        · have hf : R = lexF f' (b.drop (k + 1)) (k + 1) acc := by rw [HR2.out, lexF_blank h1]
          have HFN := hid hf
          clear hf
          go_wp2_with (first
            | (go_at_call 38; refine (xisBlank_any _ _).mono ?_; rintro e w' ⟨rfl, hw'⟩; subst w'))
          go_roundw
          case rel => exact ⟨f', k + 1, acc, rfl, by go_num, by omega, by rw [List.length_drop]; have := HF.out; omega, HFN.out, HAC.out, HT.out, HW.out⟩
          case measure => simp [intOf]; omega
      · obtain rfl : k = b.length := by omega
        obtain ⟨f', rfl⟩ : ∃ f', f = f' + 1 := ⟨f - 1, by have := HF.out; omega⟩
        have hf : R = (acc ++ [(0, [], 0, (b.length : Int))], 0, b.length) := by rw [HR.out, List.drop_length, lexF_nil]
        have HFN := hid hf
        clear hf
        go_wp2_with (first
          | (at_builtin; refine wpList_append_own _ rfl _ _ 51 rfl w.heap.size 72 i1 _ 4 40 underT I1.out.1 I1.out.2.1 I1.out.2.2.1 I1.out.2.2.2 rfl (by decide) (.slice ax acc.length cax) acc.length (acc.flatMap tkV) rfl ?c0 _ 1 1 (tkV (0, [], 0, (b.length : Int))) rfl rfl ?c1 ?c2 ?c3 ?c4 ?c5 ?_)
          | go_in)
        case c0 => exact HT.out.bw (Bw.alloc (Bw.refl _) _)
        case c1 =>
          intro j u hj
          match j, hj with
          | 0, hj => simp [tkV] at hj; subst hj; simp [Addr.add, go_sem]
          | 1, hj => simp [tkV] at hj; subst hj; simp [Addr.add, go_sem, strOf_nil]
          | 2, hj => simp [tkV] at hj; subst hj; simp [Addr.add, go_sem]
          | 3, hj => simp [tkV] at hj; subst hj; simp [Addr.add, go_sem]
          | j + 4, hj => simp [tkV] at hj
        case c2 => intro u hu; simp [tkV] at hu; rcases hu with rfl | rfl | rfl | rfl <;> rfl
        case c3 => have := HAC.out; unfold maxLen; omega
        case c4 => have := HAC.out; omega
        case c5 => simp only [World.size_alloc]; omega
        intro v' w2 hown hgr _
        obtain ⟨av', cv', e⟩ := own_form hown
        subst e
        have hb2 : Bw w w2 := by
          refine bw_grown (e := 72) (size := 4) (n := acc.length) (xs := acc.flatMap tkV) ?_ (Nat.le_refl _) ?_ hgr
          · exact HW.out.trans (Bw.alloc (Bw.refl _) _)
          · exact HT.out.bw (Bw.alloc (Bw.refl _) _)
        have HB2 := hid hb2
        rw [tk_snoc] at hown
        have HO1 := hid hown
        clear hgr hown hb2
        go_wp2
        all_goals rw [Exit.noGoto_ret]
        all_goals go_ret3
        all_goals exact ⟨.slice av' (acc.length + 1) cv', by rw [HFN.out]; rfl, by rw [HFN.out]; simpa [Tk] using HO1.out, HB2.out⟩

end Go.Proofs.YtlcieebneclmpaaDoor

set_option linter.unusedSimpArgs false
set_option linter.unusedVariables false
namespace Go.Proofs.YtlcieebneclmpaaDoor
open Go Go.RowKit

/-- A part: kind, text, number, place, what it is made of. -/
inductive Prt where
  | mk (kind : Int) (text : List Int) (num : Int) (at_ : Int) (kids : List Prt)

instance : Inhabited Prt := ⟨.mk 0 [] 0 0 []⟩

def Prt.kind : Prt → Int | .mk k _ _ _ _ => k
def Prt.at_ : Prt → Int | .mk _ _ _ a _ => a
def Prt.kids : Prt → List Prt | .mk _ _ _ _ ks => ks

/-- A node: kind, how many, text, number, place. -/
abbrev ANode := Int × Int × List Int × Int × Int

mutual
def Prt.flat : Prt → List ANode
  | .mk k x n a ks => (k, (ks.length : Int), x, n, a) :: flats ks
def flats : List Prt → List ANode
  | [] => []
  | p :: r => p.flat ++ flats r
end

/-- What comes of reading: a part, whether a call was last, the next token; or a fault and its place; or more steps are wanted. -/
inductive Res where
  | ok (x : Prt) (c : Bool) (i : Nat)
  | bad (e at_ : Int)
  | out

def Res.bind (r : Res) (k : Prt → Bool → Nat → Res) : Res :=
  match r with
  | .ok x c i => k x c i
  | .bad e a => .bad e a
  | .out => .out

def tk (T : List ATok) (i : Nat) : ATok := T.getD i (0, [], 0, 0)
def isT (T : List ATok) (i : Nat) (s : ByteArray) : Bool := ((tk T i).1 == 2 || (tk T i).1 == 5) && decide (strOfNums (tk T i).2.1 = s)
def isO (T : List ATok) (i : Nat) (l : List ByteArray) : Bool := l.any (isT T i)
def here (T : List ATok) (e : Int) (i : Nat) : Res := .bad e (tk T i).2.2.2
def want (T : List ATok) (s : ByteArray) (i : Nat) (k : Nat → Res) : Res := if isT T i s then k (i + 1) else here T 6 i
def wantN (T : List ATok) (i : Nat) (k : Nat → Res) : Res := if (tk T i).1 = 1 then k (i + 1) else here T 6 i
def entr (T : List ATok) (s : ByteArray) (i o : Nat) (k : Nat → Nat → Res) : Res := if isT T i s then (if o = 64 then here T 3 i else k (i + 1) (o + 1)) else here T 6 i

/-- The signs of a level. -/
def sgl : Nat → List ByteArray
  | 0 => [⟨#[111, 114]⟩]
  | 1 => [⟨#[97, 110, 100]⟩]
  | 3 => [⟨#[61, 61]⟩, ⟨#[33, 61]⟩, ⟨#[60]⟩, ⟨#[60, 61]⟩, ⟨#[62]⟩, ⟨#[62, 61]⟩]
  | 4 => [⟨#[43]⟩, ⟨#[45]⟩]
  | 5 => [⟨#[42]⟩, ⟨#[47]⟩, ⟨#[37]⟩]
  | _ => []

/-- Two joined by a sign. -/
def jn (t : ATok) (x y : Prt) : Prt :=
  if strOfNums t.2.1 = ⟨#[111, 114]⟩ then .mk 25 [] 0 x.at_ [x, y]
  else if strOfNums t.2.1 = ⟨#[97, 110, 100]⟩ then .mk 24 [] 0 x.at_ [x, y]
  else .mk 23 t.2.1 0 x.at_ [x, y]

def begL : List ByteArray := [⟨#[116, 114, 117, 101]⟩, ⟨#[102, 97, 108, 115, 101]⟩, ⟨#[110, 105, 108]⟩, ⟨#[110, 111, 116]⟩, ⟨#[115, 112, 97, 119, 110]⟩, ⟨#[102, 110]⟩, ⟨#[40]⟩, ⟨#[91]⟩, ⟨#[123]⟩, ⟨#[45]⟩]

def begs (T : List ATok) (i : Nat) : Bool :=
  (tk T i).1 == 1 || (tk T i).1 == 3 || (tk T i).1 == 4 ||
  isO T i begL

/-- What stands in a row. -/
inductive Rd where
  | arg | par | ent | key

/-- What is read. -/
inductive Nt where
  | lev (k : Nat)
  | more (k : Nat) (x : Prt)
  | thing
  | things (x : Prt) (c : Bool)
  | single
  | read (r : Rd) (n : Nat)
  | row (r : Rd) (b e : ByteArray)
  | rows (r : Rd) (e : ByteArray) (acc : List Prt)
  | body (kind : Int) (text : List Int) (at_ : Int)
  | block
  | stmts (at_ : Int) (acc : List Prt)
  | stmt
  | choice
  | prog (acc : List Prt)

def semi (T : List ATok) (i : Nat) (x : Prt) : Res := want T ⟨#[59]⟩ i fun i => .ok x false i

/-- The parts of a program from a token on; o: how many are open. -/
def pP (T : List ATok) : Nat → Nt → Nat → Nat → Res
  | 0, _, _, _ => .out
  | f + 1, .lev k, i, o =>
    if k = 2 then
      (if isT T i ⟨#[110, 111, 116]⟩ then entr T ⟨#[110, 111, 116]⟩ i o fun j o => (pP T f (.lev 2) j o).bind fun x _ j => .ok (.mk 26 [] 0 (tk T i).2.2.2 [x]) false j
       else pP T f (.lev 3) i o)
    else if k = 3 then
      (pP T f (.lev 4) i o).bind fun x _ i => if isO T i (sgl 3) then (pP T f (.lev 4) (i + 1) o).bind fun y _ j => .ok (jn (tk T i) x y) false j else .ok x false i
    else if k = 6 then
      (if isT T i ⟨#[45]⟩ then entr T ⟨#[45]⟩ i o fun j o => (pP T f (.lev 6) j o).bind fun x _ j => .ok (.mk 27 [] 0 (tk T i).2.2.2 [x]) false j
       else if isT T i ⟨#[115, 112, 97, 119, 110]⟩ then entr T ⟨#[115, 112, 97, 119, 110]⟩ i o fun j o => (pP T f .thing j o).bind fun x c j => if c then .ok (.mk 32 [] 0 (tk T i).2.2.2 x.kids) false j else here T 6 j
       else (pP T f .thing i o).bind fun x _ i => .ok x false i)
    else (pP T f (.lev (k + 1)) i o).bind fun x _ i => pP T f (.more k x) i o
  | f + 1, .more k x, i, o =>
    if isO T i (sgl k) then (pP T f (.lev (k + 1)) (i + 1) o).bind fun y _ j => pP T f (.more k (jn (tk T i) x y)) j o else .ok x false i
  | f + 1, .thing, i, o => (pP T f .single i o).bind fun x _ i => pP T f (.things x false) i o
  | f + 1, .things x c, i, o =>
    if isT T i ⟨#[40]⟩ then (pP T f (.row .arg ⟨#[40]⟩ ⟨#[41]⟩) i o).bind fun r _ i => pP T f (.things (.mk 28 [] 0 x.at_ (x :: r.kids)) true) i o
    else if isT T i ⟨#[91]⟩ then entr T ⟨#[91]⟩ i o fun i o' => (pP T f (.lev 0) i o').bind fun y _ i => want T ⟨#[93]⟩ i fun i => pP T f (.things (.mk 29 [] 0 x.at_ [x, y]) false) i o
    else if isT T i ⟨#[46]⟩ then wantN T (i + 1) fun j => pP T f (.things (.mk 30 (tk T (i + 1)).2.1 0 x.at_ [x]) false) j o
    else .ok x c i
  | f + 1, .single, i, o =>
    if (tk T i).1 = 3 then .ok (.mk 14 [] (tk T i).2.2.1 (tk T i).2.2.2 []) false (i + 1)
    else if (tk T i).1 = 4 then .ok (.mk 15 (tk T i).2.1 0 (tk T i).2.2.2 []) false (i + 1)
    else if (tk T i).1 = 1 then .ok (.mk 19 (tk T i).2.1 0 (tk T i).2.2.2 []) false (i + 1)
    else if isT T i ⟨#[116, 114, 117, 101]⟩ then .ok (.mk 16 [] 0 (tk T i).2.2.2 []) false (i + 1)
    else if isT T i ⟨#[102, 97, 108, 115, 101]⟩ then .ok (.mk 17 [] 0 (tk T i).2.2.2 []) false (i + 1)
    else if isT T i ⟨#[110, 105, 108]⟩ then .ok (.mk 18 [] 0 (tk T i).2.2.2 []) false (i + 1)
    else if isT T i ⟨#[91]⟩ then (pP T f (.row .ent ⟨#[91]⟩ ⟨#[93]⟩) i o).bind fun r _ j => .ok (.mk 20 [] 0 (tk T i).2.2.2 r.kids) false j
    else if isT T i ⟨#[123]⟩ then (pP T f (.row .key ⟨#[123]⟩ ⟨#[125]⟩) i o).bind fun r _ j => .ok (.mk 21 [] 0 (tk T i).2.2.2 r.kids) false j
    else if isT T i ⟨#[102, 110]⟩ then pP T f (.body 31 [] (tk T i).2.2.2) (i + 1) o
    else entr T ⟨#[40]⟩ i o fun i o => (pP T f (.lev 0) i o).bind fun x _ i => want T ⟨#[41]⟩ i fun i => .ok x false i
  | f + 1, .read .arg n, i, o => if n = 16 ∧ begs T i = true then here T 3 i else pP T f (.lev 0) i o
  | f + 1, .read .par n, i, o => if n = 16 ∧ (tk T i).1 = 1 then here T 3 i else wantN T i fun j => .ok (.mk 19 (tk T i).2.1 0 (tk T i).2.2.2 []) false j
  | f + 1, .read .ent n, i, o => pP T f (.lev 0) i o
  | f + 1, .read .key n, i, o => wantN T i fun j => want T ⟨#[58]⟩ j fun j => (pP T f (.lev 0) j o).bind fun x _ j => .ok (.mk 22 (tk T i).2.1 0 (tk T i).2.2.2 [x]) false j
  | f + 1, .row r b e, i, o =>
    entr T b i o fun i o => if isT T i e then .ok (.mk 0 [] 0 0 []) false (i + 1) else (pP T f (.read r 0) i o).bind fun x _ i => pP T f (.rows r e [x]) i o
  | f + 1, .rows r e acc, i, o =>
    if isT T i ⟨#[44]⟩ then (pP T f (.read r acc.length) (i + 1) o).bind fun x _ i => pP T f (.rows r e (acc ++ [x])) i o
    else want T e i fun i => .ok (.mk 0 [] 0 0 acc) false i
  | f + 1, .body kind text at_, i, o =>
    (pP T f (.row .par ⟨#[40]⟩ ⟨#[41]⟩) i o).bind fun r _ i => (pP T f .block i o).bind fun b _ i => .ok (.mk kind text r.kids.length at_ (r.kids ++ [b])) false i
  | f + 1, .block, i, o => entr T ⟨#[123]⟩ i o fun j o => pP T f (.stmts (tk T i).2.2.2 []) j o
  | f + 1, .stmts at_ acc, i, o =>
    if isT T i ⟨#[125]⟩ then .ok (.mk 2 [] 0 at_ acc) false (i + 1) else (pP T f .stmt i o).bind fun x _ i => pP T f (.stmts at_ (acc ++ [x])) i o
  | f + 1, .stmt, i, o =>
    if isT T i ⟨#[123]⟩ then pP T f .block i o
    else if isT T i ⟨#[118, 97, 114]⟩ then wantN T (i + 1) fun j => want T ⟨#[61]⟩ j fun j => (pP T f (.lev 0) j o).bind fun x _ j => semi T j (.mk 3 (tk T (i + 1)).2.1 0 (tk T i).2.2.2 [x])
    else if isT T i ⟨#[105, 102]⟩ then pP T f .choice i o
    else if isT T i ⟨#[119, 104, 105, 108, 101]⟩ then (pP T f (.lev 0) (i + 1) o).bind fun x _ j => (pP T f .block j o).bind fun y _ j => .ok (.mk 6 [] 0 (tk T i).2.2.2 [x, y]) false j
    else if isT T i ⟨#[98, 114, 101, 97, 107]⟩ then semi T (i + 1) (.mk 7 [] 0 (tk T i).2.2.2 [])
    else if isT T i ⟨#[99, 111, 110, 116, 105, 110, 117, 101]⟩ then semi T (i + 1) (.mk 8 [] 0 (tk T i).2.2.2 [])
    else if isT T i ⟨#[114, 101, 116, 117, 114, 110]⟩ then
      (if isT T (i + 1) ⟨#[59]⟩ then semi T (i + 1) (.mk 9 [] 0 (tk T i).2.2.2 [])
       else (pP T f (.lev 0) (i + 1) o).bind fun x _ j => semi T j (.mk 9 [] 0 (tk T i).2.2.2 [x]))
    else if isT T i ⟨#[116, 104, 114, 111, 119]⟩ then (pP T f (.lev 0) (i + 1) o).bind fun x _ j => semi T j (.mk 10 [] 0 (tk T i).2.2.2 [x])
    else if isT T i ⟨#[116, 114, 121]⟩ then
      (pP T f .block (i + 1) o).bind fun x _ j => want T ⟨#[99, 97, 116, 99, 104]⟩ j fun j => wantN T j fun j' => (pP T f .block j' o).bind fun y _ j' => .ok (.mk 11 (tk T j).2.1 0 (tk T i).2.2.2 [x, y]) false j'
    else if isT T i ⟨#[102, 110]⟩ && (tk T (i + 1)).1 == 1 then pP T f (.body 12 (tk T (i + 1)).2.1 (tk T i).2.2.2) (i + 2) o
    else (pP T f (.lev 0) i o).bind fun x _ j =>
      if (x.kind == 19 || x.kind == 29 || x.kind == 30) && isT T j ⟨#[61]⟩ then (pP T f (.lev 0) (j + 1) o).bind fun y _ j => semi T j (.mk 4 [] 0 x.at_ [x, y])
      else semi T j (.mk 13 [] 0 x.at_ [x])
  | f + 1, .choice, i, o =>
    want T ⟨#[105, 102]⟩ i fun j => (pP T f (.lev 0) j o).bind fun x _ j => (pP T f .block j o).bind fun y _ j =>
      if isT T j ⟨#[101, 108, 115, 101]⟩ then
        (if isT T (j + 1) ⟨#[105, 102]⟩ then (pP T f .choice (j + 1) o).bind fun z _ j => .ok (.mk 5 [] 0 (tk T i).2.2.2 [x, y, z]) false j
         else (pP T f .block (j + 1) o).bind fun z _ j => .ok (.mk 5 [] 0 (tk T i).2.2.2 [x, y, z]) false j)
      else .ok (.mk 5 [] 0 (tk T i).2.2.2 [x, y]) false j
  | f + 1, .prog acc, i, o =>
    if (tk T i).1 = 0 then .ok (.mk 1 [] 0 0 acc) false i else (pP T f .stmt i o).bind fun x _ i => pP T f (.prog (acc ++ [x])) i o

/-- A text's program: nodes, error, place. -/
def parA (b : List Int) : List ANode × Int × Int :=
  match lexA b with
  | (T, e, at_) =>
    if e ≠ 0 then ([], e, at_) else
    match pP T (40 * (T.length + 1)) (.prog []) 0 0 with
    | .ok x _ _ => (x.flat, 0, b.length)
    | .bad e a => ([], e, a)
    | .out => ([], 0, 0)

theorem par1 : parA [120, 32, 61, 32, 49, 32, 43, 32, 50, 32, 42, 32, 121, 59] = ([(1, 1, [], 0, 0), (4, 2, [], 0, 0), (19, 0, [120], 0, 0), (23, 2, [43], 0, 4), (14, 0, [], 1, 4), (23, 2, [42], 0, 8), (14, 0, [], 2, 8), (19, 0, [121], 0, 12)], 0, 14) := by decide +kernel
theorem par2 : parA [49, 32, 61, 32, 50, 59] = ([], 6, 2) := by decide +kernel
theorem par3 : parA [97, 32, 60, 32, 98, 32, 60, 32, 99, 59] = ([], 6, 6) := by decide +kernel

end Go.Proofs.YtlcieebneclmpaaDoor

set_option linter.unusedSimpArgs false
set_option linter.unusedVariables false
namespace Go.Proofs.YtlcieebneclmpaaDoor
open Go Go.RowKit

/-- Of what was there only the block r may have turned. -/
structure Kp (r : Nat) (w w' : World) : Prop where
  os : w'.os = w.os
  tape : w'.tape = w.tape
  output : w'.output = w.output
  size : w.heap.size ≤ w'.heap.size
  block : ∀ k, k < w.heap.size → k ≠ r → w'.heap[k]? = w.heap[k]?

theorem Kp.refl (r : Nat) (w : World) : Kp r w w := ⟨rfl, rfl, rfl, Nat.le_refl _, fun _ _ _ => rfl⟩
theorem Kp.trans {r : Nat} {a b c : World} (h : Kp r a b) (g : Kp r b c) : Kp r a c :=
  ⟨g.os.trans h.os, g.tape.trans h.tape, g.output.trans h.output, Nat.le_trans h.size g.size, fun k hk hr => (g.block k (Nat.lt_of_lt_of_le hk h.size) hr).trans (h.block k hk hr)⟩
theorem Kp.of_bw {r : Nat} {a b : World} (g : Bw a b) : Kp r a b := ⟨g.os, g.tape, g.output, g.size, fun k hk _ => g.block k hk⟩
theorem Kp.bw {r : Nat} {a b c : World} (h : Kp r a b) (g : Bw b c) : Kp r a c := h.trans (Kp.of_bw g)
theorem Kp.alloc {r : Nat} {a b : World} (h : Kp r a b) (o : Obj) : Kp r a (b.alloc o) := h.bw (Bw.alloc (Bw.refl _) o)
theorem Kp.drew {r : Nat} {a b : World} (h : Kp r a b) : Kp r a b.drew := h.bw (Bw.drew (Bw.refl _))
theorem Kp.drewN {r : Nat} {a b : World} (h : Kp r a b) (n : Nat) : Kp r a (b.drewN n) := h.bw (Bw.drewN (Bw.refl _) n)
theorem Kp.set {r : Nat} {a b : World} (h : Kp r a b) (j : Nat) (v : Value) : Kp r a (b.setCell ⟨r, j, none⟩ v) :=
  h.trans ⟨rfl, rfl, rfl, by simp [World.setCell], fun k hk hr => Below.heap_setCell b ⟨r, j, none⟩ v k hr⟩
theorem Kp.setNew {r g : Nat} {a b : World} (h : Kp r a b) (hg : a.heap.size ≤ g) (j : Nat) (v : Value) : Kp r a (b.setCell ⟨g, j, none⟩ v) :=
  ⟨h.os, h.tape, h.output, by simpa [World.setCell] using h.size, fun k hk hr => (Below.heap_setCell b ⟨g, j, none⟩ v k (show k ≠ g by omega)).trans (h.block k hk hr)⟩
/-- Where the block r is new. -/
theorem Kp.toBw {r : Nat} {a b : World} (h : Kp r a b) (hr : a.heap.size ≤ r) : Bw a b := ⟨h.os, h.tape, h.output, h.size, fun k hk => h.block k hk (by omega)⟩
/-- A row that is appended to. -/
theorem Kp.grown {r : Nat} {a b c : World} {q : Option Nat} (h : Kp r a b) (g : b.grownBy c q) (hq : ∀ k, q = some k → a.heap.size ≤ k) : Kp r a c :=
  ⟨g.os.trans h.os, g.tape.trans h.tape, g.output.trans h.output, Nat.le_trans h.size g.size, fun k hk hr => (g.block k (Nat.lt_of_lt_of_le hk h.size) (fun e => by have := hq k e.symm; omega)).trans (h.block k hk hr)⟩

theorem Blk.kp {w w' : World} {r g : Nat} {cur : Array Value} {e : TypeId} (h : Blk w g cur e) (k : Kp r w w') (hg : g ≠ r) : Blk w' g cur e := h.keep (k.block g h.lt hg)

/-- Tokens that lie in the block g. -/
def TkM (w : World) (g : Nat) (T : List ATok) : Prop := g < w.heap.size ∧ ∀ i (hi : i < T.length), w.cell? ⟨g, i * 4, none⟩ = some (.int .i64 T[i].1) ∧ w.cell? ⟨g, i * 4 + 1, none⟩ = some (.string (strOfNums T[i].2.1)) ∧ w.cell? ⟨g, i * 4 + 2, none⟩ = some (.int .i64 T[i].2.2.1) ∧ w.cell? ⟨g, i * 4 + 3, none⟩ = some (.int .i64 T[i].2.2.2)

theorem TkM.kp {w w' : World} {r g : Nat} {T : List ATok} (h : TkM w g T) (k : Kp r w w') (hg : g ≠ r) : TkM w' g T :=
  ⟨Nat.lt_of_lt_of_le h.1 k.size, fun i hi => by
    have e := fun j => World.cell?_of_block (w := w) (w' := w') (a := ⟨g, j, none⟩) (k.block g h.1 hg)
    rw [e, e, e, e]; exact h.2 i hi⟩

/-- The last token alone is the end. -/
def EndT (T : List ATok) : Prop := ∀ i, i < T.length → (tk T i).1 ≠ 0 → i + 1 < T.length

/-- Strings in a row that lies apart from the reader. -/
def SgM (w : World) (r : Nat) (v : Value) (ss : List ByteArray) : Prop := ∃ s c, v = .slice (some ⟨s, 0, none⟩) ss.length c ∧ s ≠ r ∧ Blk w s (ss.map Value.string).toArray 9 ∧ ss.length ≤ 100

theorem SgM.kp {w w' : World} {r : Nat} {v : Value} {ss : List ByteArray} (h : SgM w r v ss) (k : Kp r w w') : SgM w' r v ss := by
  obtain ⟨s, c, e, h1, h2, h3⟩ := h
  exact ⟨s, c, e, h1, h2.kp k h1, h3⟩

theorem SgM.bw {w w' : World} {r : Nat} {v : Value} {ss : List ByteArray} (h : SgM w r v ss) (k : Bw w w') : SgM w' r v ss := h.kp (Kp.of_bw k)

/-- A variable apart from the reader. -/
def CeM (w : World) (r a : Nat) (v : Value) : Prop := a ≠ r ∧ a < w.heap.size ∧ w.cell? ⟨a, 0, none⟩ = some v

theorem CeM.kp {w w' : World} {r a : Nat} {v : Value} (h : CeM w r a v) (k : Kp r w w') : CeM w' r a v :=
  ⟨h.1, Nat.lt_of_lt_of_le h.2.1 k.size, (World.cell?_of_block (w := w) (w' := w') (a := ⟨a, 0, none⟩) (k.block a h.2.1 h.1)).trans h.2.2⟩

/-- What a level that goes on from the left, or compares, has taken along. -/
def LeM (w : World) (r : Nat) (fn : Nat) (ss : List ByteArray) (v v' : Value) : Prop :=
  ∃ a b c sv, v = .func (.func fn) #[] #[.pointer (some ⟨a, 0, none⟩), .pointer (some ⟨b, 0, none⟩), .pointer (some ⟨c, 0, none⟩)] ∧ CeM w r a v' ∧ CeM w r b (.pointer (some ⟨r, 0, none⟩)) ∧ CeM w r c sv ∧ SgM w r sv ss

/-- What the level of not has taken along. -/
def LnM (w : World) (r : Nat) (v v' : Value) : Prop :=
  ∃ a b c, v = .func (.func 76) #[] #[.pointer (some ⟨a, 0, none⟩), .pointer (some ⟨b, 0, none⟩), .pointer (some ⟨c, 0, none⟩)] ∧ CeM w r a (.pointer (some ⟨r, 0, none⟩)) ∧ CeM w r b v' ∧ CeM w r c v

theorem LeM.kp {w w' : World} {r fn : Nat} {ss : List ByteArray} {v v' : Value} (h : LeM w r fn ss v v') (k : Kp r w w') : LeM w' r fn ss v v' := by
  obtain ⟨a, b, c, sv, e, h1, h2, h3, h4⟩ := h
  exact ⟨a, b, c, sv, e, h1.kp k, h2.kp k, h3.kp k, h4.kp k⟩

theorem LnM.kp {w w' : World} {r : Nat} {v v' : Value} (h : LnM w r v v') (k : Kp r w w') : LnM w' r v v' := by
  obtain ⟨a, b, c, e, h1, h2, h3⟩ := h
  exact ⟨a, b, c, e, h1.kp k, h2.kp k, h3.kp k⟩

/-- All levels: l k is the one that reads level k. -/
structure Lvs (w : World) (r : Nat) (l : Nat → Value) : Prop where
  l6 : l 6 = .func (.func 54) #[.pointer (some ⟨r, 0, none⟩)] #[]
  l5 : LeM w r 69 (sgl 5) (l 5) (l 6)
  l4 : LeM w r 69 (sgl 4) (l 4) (l 5)
  l3 : LeM w r 75 (sgl 3) (l 3) (l 4)
  l2 : LnM w r (l 2) (l 3)
  l1 : LeM w r 69 (sgl 1) (l 1) (l 2)
  l0 : LeM w r 69 (sgl 0) (l 0) (l 1)

theorem Lvs.kp {w w' : World} {r : Nat} {l : Nat → Value} (h : Lvs w r l) (k : Kp r w w') : Lvs w' r l :=
  ⟨h.l6, h.l5.kp k, h.l4.kp k, h.l3.kp k, h.l2.kp k, h.l1.kp k, h.l0.kp k⟩

/-- The reader in memory; B: the world in which it was made; ex: the levels. -/
structure RI (B w : World) (r g cap : Nat) (T : List ATok) (ex : Nat → Value) (i o : Nat) : Prop where
  k : Blk w r #[.slice (some ⟨g, 0, none⟩) T.length cap, .int .i64 i, .int .i64 o, ex 0] 77
  kb : Kp r B w
  t : TkM B g T
  lv : Lvs B r ex
  ne : g ≠ r
  lt : i < T.length
  ho : o ≤ 65
  len : T.length ≤ 20000
  e : EndT T

theorem RI.kp {B w w' : World} {r g cap : Nat} {T : List ATok} {ex : Nat → Value} {i o : Nat} (h : RI B w r g cap T ex i o) (hb : w'.heap[r]? = w.heap[r]?) (k : Kp r w w') : RI B w' r g cap T ex i o :=
  ⟨h.k.keep hb, h.kb.trans k, h.t, h.lv, h.ne, h.lt, h.ho, h.len, h.e⟩

theorem RI.bw {B w w' : World} {r g cap : Nat} {T : List ATok} {ex : Nat → Value} {i o : Nat} (h : RI B w r g cap T ex i o) (hb : Bw w w') : RI B w' r g cap T ex i o :=
  h.kp (hb.block r h.k.lt) (Kp.of_bw hb)

theorem tk_get {T : List ATok} {i : Nat} (h : i < T.length) : tk T i = T[i] := by
  unfold tk
  rw [List.getD_eq_getElem?_getD, List.getElem?_eq_getElem h]
  rfl

theorem RI.glt {B w : World} {r g cap : Nat} {T : List ATok} {ex : Nat → Value} {i o : Nat} (h : RI B w r g cap T ex i o) : g < w.heap.size := Nat.lt_of_lt_of_le h.t.1 h.kb.size

theorem RI.tokAt {B w : World} {r g cap : Nat} {T : List ATok} {ex : Nat → Value} {i o : Nat} (h : RI B w r g cap T ex i o) {j : Nat} (hj : j < T.length) :
    w.cell? ⟨g, j * 4, none⟩ = some (.int .i64 (tk T j).1) ∧ w.cell? ⟨g, j * 4 + 1, none⟩ = some (.string (strOfNums (tk T j).2.1)) ∧ w.cell? ⟨g, j * 4 + 2, none⟩ = some (.int .i64 (tk T j).2.2.1) ∧ w.cell? ⟨g, j * 4 + 3, none⟩ = some (.int .i64 (tk T j).2.2.2) := by
  rw [tk_get hj]; exact (h.t.kp h.kb h.ne).2 j hj

theorem RI.tok {B w : World} {r g cap : Nat} {T : List ATok} {ex : Nat → Value} {i o : Nat} (h : RI B w r g cap T ex i o) :
    w.cell? ⟨g, i * 4, none⟩ = some (.int .i64 (tk T i).1) ∧ w.cell? ⟨g, i * 4 + 1, none⟩ = some (.string (strOfNums (tk T i).2.1)) ∧ w.cell? ⟨g, i * 4 + 2, none⟩ = some (.int .i64 (tk T i).2.2.1) ∧ w.cell? ⟨g, i * 4 + 3, none⟩ = some (.int .i64 (tk T i).2.2.2) := h.tokAt h.lt

theorem RI.next {B w : World} {r g cap : Nat} {T : List ATok} {ex : Nat → Value} {i o : Nat} (h : RI B w r g cap T ex i o) (hn : (tk T i).1 ≠ 0) : RI B (w.setCell ⟨r, 1, none⟩ (.int .i64 ((i : Int) + 1))) r g cap T ex (i + 1) o := by
  refine ⟨?_, h.kb.set 1 _, h.t, h.lv, h.ne, h.e i h.lt hn, h.ho, h.len, h.e⟩
  have := h.k.set 1 (.int .i64 ((i : Int) + 1))
  simpa using this

theorem RI.opn {B w : World} {r g cap : Nat} {T : List ATok} {ex : Nat → Value} {i o : Nat} (h : RI B w r g cap T ex i o) (o' : Nat) (ho : o' ≤ 65) : RI B (w.setCell ⟨r, 2, none⟩ (.int .i64 (o' : Int))) r g cap T ex i o' := by
  refine ⟨?_, h.kb.set 2 _, h.t, h.lv, h.ne, h.lt, ho, h.len, h.e⟩
  have := h.k.set 2 (.int .i64 (o' : Int))
  simpa using this

theorem RI.other {B w : World} {r g cap : Nat} {T : List ATok} {ex : Nat → Value} {i o : Nat} (h : RI B w r g cap T ex i o) {b j : Nat} (hr : b ≠ r) (hB : B.heap.size ≤ b) (v : Value) : RI B (w.setCell ⟨b, j, none⟩ v) r g cap T ex i o :=
  ⟨h.k.other (p := ⟨b, j, none⟩) hr v, h.kb.setNew hB j v, h.t, h.lv, h.ne, h.lt, h.ho, h.len, h.e⟩

/-- A token as a value. -/
def tokV (t : ATok) : Value := .agg #[.int .i64 t.1, .string (strOfNums t.2.1), .int .i64 t.2.2.1, .int .i64 t.2.2.2]

/-- What the reader gives up with. -/
def fltV (e at_ : Int) : List PanicEntry := [{ v := .iface 55 (.agg #[.int .i64 e, .int .i64 at_]), recovered := false }]

end Go.Proofs.YtlcieebneclmpaaDoor

set_option linter.unusedSimpArgs false
set_option linter.unusedVariables false
namespace Go.Proofs.YtlcieebneclmpaaDoor
open Go Go.RowKit

/-- How many nodes are gone over, of those that come with so many parts each, till so many are whole. -/
def cns : List Nat → Nat → Option Nat
  | _, 0 => some 0
  | [], _ + 1 => none
  | k :: r, d + 1 => (cns r (d + k)).map (· + 1)

theorem cns_add : ∀ (l : List Nat) (a b : Nat), cns l (a + b) = (cns l a).bind fun m => (cns (l.drop m) b).map (m + ·)
  | l, 0, b => by
    cases l <;> simp [cns] <;> (cases h : cns _ b <;> simp)
  | [], a + 1, b => by
    rw [show a + 1 + b = (a + b) + 1 by omega]
    simp [cns]
  | k :: r, a + 1, b => by
    rw [show a + 1 + b = (a + b) + 1 by omega, cns, cns, show a + b + k = (a + k) + b by omega, cns_add r (a + k) b]
    cases h : cns r (a + k) with
    | none => simp
    | some m =>
      simp
      cases h2 : cns (r.drop m) b <;> simp <;> omega

theorem cns_le : ∀ (l : List Nat) (d m : Nat), cns l d = some m → d ≤ m ∧ m ≤ l.length
  | l, 0, m, h => by
    cases l <;> simp [cns] at h <;> subst h <;> simp
  | [], d + 1, m, h => by simp [cns] at h
  | k :: r, d + 1, m, h => by
    simp only [cns] at h
    cases h2 : cns r (d + k) with
    | none => rw [h2] at h; simp at h
    | some n =>
      rw [h2] at h
      simp at h
      have := cns_le r (d + k) n h2
      simp
      omega

/-- Nodes' numbers of parts; less than none counts as none. -/
def kidsN (L : List ANode) : List Nat := L.map fun n => n.2.1.toNat

/-- The place behind a node, or none. -/
def bhP (L : List ANode) (at_ : Nat) : Option Nat := (cns ((kidsN L).drop at_) 1).map (at_ + ·)

end Go.Proofs.YtlcieebneclmpaaDoor

