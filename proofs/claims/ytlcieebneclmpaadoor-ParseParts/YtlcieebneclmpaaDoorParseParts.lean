/- For every two texts, the statement ParseParts of layer 6 answers true: of two programs one behind the other the nodes are those of both; no condition beyond the program's own tables, which the card ties to their text. -/
import Derived.Test.YtlcieebneclmpaaDoorPnt2k
set_option linter.unusedVariables false
set_option linter.unusedSimpArgs false
namespace Go.Proofs.YtlcieebneclmpaaDoor.parseParts
open Go.ChangeShapes Go.WideShapes Go.ChangeAt Go.RowKit

theorem nr_sub2 {w : World} {g o cap : Nat} {l : List ANode} (h : NR w (.slice (some ⟨g, o, none⟩) l.length cap) l) (x : Option Addr) (i j c : Nat) (hij : i ≤ j) (hj : j ≤ l.length) (hx : j - i ≠ 0 → x = some ⟨g, o + i * 5, none⟩) :
    NR w (.slice x (j - i) c) ((l.take j).drop i) := by
  by_cases h0 : j - i = 0
  · have hlen : ((l.take j).drop i).length = j - i := by simp; omega
    exact ⟨x, c, by rw [hlen], .inl (by omega)⟩
  · rw [hx h0]
    exact h.sub i j c hij hj

theorem parA_len {b : List Int} {l : List ANode} {e a : Int} (h : parA b = (l, e, a)) : l.length ≤ b.length + 2 := by
  unfold parA at h
  rcases hx : lexA b with ⟨T, n, m⟩
  rw [hx] at h
  dsimp only at h
  by_cases hn : n = 0
  · subst hn
    rw [if_neg (by simp)] at h
    obtain ⟨_, hT, _, _⟩ := lexA_end hx
    have hsz := pP_sz T (40 * (T.length + 1)) (.prog []) 0 0
    have hin := pP_in T (40 * (T.length + 1)) (.prog []) 0 0 (Nat.zero_le _)
    cases hp : pP T (40 * (T.length + 1)) (.prog []) 0 0 with
    | ok x c j =>
      rw [hp] at h hsz hin
      have h1 : x.flat = l := by simpa using congrArg (·.1) h
      have e2 : x.flat.length + 0 ≤ j + (0 + 1) := hsz
      have e3 : j ≤ T.length := hin
      rw [h1] at e2
      omega
    | bad e a =>
      rw [hp] at h
      have h1 : [] = l := by simpa using congrArg (·.1) h
      subst h1
      simp
    | out =>
      rw [hp] at h
      have h1 : [] = l := by simpa using congrArg (·.1) h
      subst h1
      simp
  · rw [if_pos hn] at h
    have h1 : [] = l := by simpa using congrArg (·.1) h
    subst h1
    simp

theorem nd_form {w : World} {base : Nat} {v : Value} {l : List ANode} (h : Nd w base v l) (hl : 0 < l.length) : ∃ g cap, v = .slice (some ⟨g, 0, none⟩) l.length cap ∧ l.length ≤ cap ∧ g < w.heap.size ∧ NR w (.slice (some ⟨g, 0, none⟩) l.length cap) l := by
  have hn := h.nr
  rcases h.2 with ⟨_, h0⟩ | ⟨g, cap, cur, rfl, hb, hg, hnc, hmx, hsz, htake⟩
  · omega
  · exact ⟨g, cap, rfl, hnc, (Array.getElem?_eq_some_iff.1 hg).1, hn⟩

theorem nr_one {w : World} {g o cap : Nat} {l rest : List ANode} {n0 : ANode} (h : NR w (.slice (some ⟨g, o, none⟩) l.length cap) l) (hll : l = n0 :: rest) :
    w.cell? ⟨g, o + 1, none⟩ = some (.int .i64 n0.2.1) := by
  subst hll
  obtain ⟨g', o', eg, hg, _, y1, _⟩ := h.parts (i := 0) (by simp)
  injection eg with eg
  injection eg with eg1 eg2
  subst eg1 eg2
  simpa using y1

/-- What comes of Parse where it is a program: the nodes, and room for them. -/
theorem got_yes {b : List Int} {w : World} {e : Ending} {w' : World} {l : List ANode} {a : Int} (h : GotA b w e w') (hp : parA b = (l, 0, a)) (hl : 0 < l.length) :
    ∃ g cap, e = .returned (.tuple #[.slice (some ⟨g, 0, none⟩) l.length cap, .int .i64 0, .int .i64 b.length]) ∧ l.length ≤ cap ∧ g < w'.heap.size ∧ NR w' (.slice (some ⟨g, 0, none⟩) l.length cap) l ∧ Bw w w' := by
  obtain ⟨hb, h⟩ := h
  rw [hp, if_pos rfl] at h
  obtain ⟨r, rfl, hn⟩ := h
  obtain ⟨g, cap, rfl, h1, h2, h3⟩ := nd_form hn hl
  exact ⟨g, cap, rfl, h1, h2, h3, hb⟩

theorem got_any {b : List Int} {w : World} {e : Ending} {w' : World} {l : List ANode} {er a : Int} (h : GotA b w e w') (hp : parA b = (l, er, a)) :
    ∃ (x : Option Addr) (c : Nat) (a' : Int), e = .returned (.tuple #[.slice x l.length c, .int .i64 er, .int .i64 a']) ∧ Bw w w' := by
  obtain ⟨hb, h⟩ := h
  rw [hp] at h
  by_cases he : er = 0
  · rw [if_pos he] at h
    obtain ⟨r, rfl, hn⟩ := h
    obtain ⟨x, c, rfl, _⟩ := hn.nr
    subst he
    exact ⟨x, c, _, rfl, hb⟩
  · rw [if_neg he] at h
    dsimp only at h
    rw [h.1]
    exact ⟨none, 0, a, h.2, hb⟩

set_option maxRecDepth 100000 in
set_option maxHeartbeats 16000000 in
theorem coreS (a0 a1 : Option Addr) (c0 c1 : Nat) (l0 l1 : List Int) (hm0 : l0.length ≤ 3000) (hm1 : l1.length ≤ 3000) (w : World) (hs : Sg w) (w0 : By w (.slice a0 l0.length c0) l0) (w1 : By w (.slice a1 l1.length c1) l1) :
    Calls Tryd.prog 6 #[.slice a0 l0.length c0, .slice a1 l1.length c1] w fun e w' => e = .returned (.bool true) ∧ Bw w w' := by
  have HS := hid hs
  have W0 := hid w0
  have W1 := hid w1
  obtain ⟨i1, hi1, hz1, hs1, hy1⟩ := info_parts infoU8
  have I1 := hid (And.intro hi1 (And.intro hz1 (And.intro hs1 hy1)))
  have d0 : decide ((3000 : Int) < (l0.length : Int)) = false := decide_eq_false (by omega)
  have d1 : decide ((3000 : Int) < (l1.length : Int)) = false := decide_eq_false (by omega)
  clear hs w0 w1 hi1 hz1 hs1 hy1
  obtain ⟨A, hA⟩ : ∃ A, A = l0 ++ [10] := ⟨_, rfl⟩
  have hAl : A.length = l0.length + 1 := by rw [hA]; simp
  have hAm : l0.map (Value.int .u8) ++ [.int .u8 10] = A.map (Value.int .u8) := by rw [hA]; simp
  have hbA : ∀ c ∈ A, 0 ≤ c ∧ c ≤ 255 := by
    intro c hc
    rw [hA] at hc
    rcases List.mem_append.1 hc with h | h
    · exact W0.out.2.1 c h
    · simp at h; omega
  have HAL := hid hAl
  have HAM := hid hAm
  have HBA := hid hbA
  have HA := hid hA
  clear hAl hAm hbA hA
  go_enter Tryd.func6, Tryd.ntmps6
  go_wp2_with (first
    | (at_builtin; refine wpList_append_sl (G := fun _ => True) _ rfl _ _ 34 rfl w.heap.size 5 i1 (.int .u8 0) 1 1 under22 I1.out.1 I1.out.2.1 I1.out.2.2.1 I1.out.2.2.2 rfl (by decide) (.slice (some ⟨w.heap.size, 0, none⟩) 0 0) 0 [] rfl ?c0 (.slice a0 l0.length c0) l0.length (l0.map (Value.int .u8)) rfl ?c1 ?c2 ?c3 ?c4 ?c5 ?_)
    | go_in)
  case c0 => exact own_empty w 5 1 _ _ rfl (Nat.le_refl _)
  case c1 => exact (W0.out.bw (Bw.alloc (Bw.refl _) _)).1
  case c2 => exact ints_one _ _
  case c3 => unfold maxLen; omega
  case c4 => omega
  case c5 => simp
  intro va wa hown hgr
  have HWA := hid (bw_grown (Bw.alloc (Bw.refl w) _) (Nat.le_refl _) (own_empty w 5 1 _ _ rfl (Nat.le_refl _)) hgr)
  try rw [Nat.zero_add] at hown
  try rw [List.nil_append] at hown
  obtain ⟨aa, ca, e⟩ := own_form hown
  subst e
  have HOA := hid hown
  have hsza : w.heap.size ≤ wa.heap.size := HWA.out.size
  clear hown hgr
  go_wp2_with (first
    | (at_builtin; refine wpList_append_own _ rfl _ _ 34 rfl w.heap.size 5 i1 (.int .u8 0) 1 1 under22 I1.out.1 I1.out.2.1 I1.out.2.2.1 I1.out.2.2.2 rfl (by decide) (.slice aa l0.length ca) l0.length (l0.map (Value.int .u8)) rfl (HOA.out.alloc _) ⟨wa.heap.size, 0, none⟩ 1 1 [.int .u8 10] rfl rfl ?c1 ?c2 ?c3 ?c4 ?c5 ?_)
    | go_in)
  case c1 =>
    intro j u hj
    match j, hj with
    | 0, hj => simp at hj; subst hj; simp [Addr.add, go_sem]
  case c2 => intro u hu; simp at hu; subst hu; rfl
  case c3 => unfold maxLen; omega
  case c4 => omega
  case c5 => simp only [World.size_alloc]; omega
  intro vb wb hown hgr _
  have HWB := hid (bw_grown (Bw.alloc HWA.out _) (Nat.le_refl _) (HOA.out.alloc _) hgr)
  rw [HAM.out, ← HAL.out] at hown
  obtain ⟨ab, cb, e⟩ := own_form hown
  subst e
  have hyb : By wb (.slice ab A.length cb) A := ⟨own_sl hown (fun _ _ => trivial), HBA.out, by have := HAL.out; omega⟩
  have HYB := hid hyb
  have hpa := parse_any _ A wb hyb (HS.out.bw HWB.out) (by have := HAL.out; omega)
  have hpb := fun w5 (hb : Bw w w5) => parse_any _ l1 w5 (W1.out.bw hb) (HS.out.bw hb) (by omega)
  rcases hqa : parA A with ⟨l, er, at_⟩
  rcases hqb : parA l1 with ⟨m, es, bt⟩
  have HPL := hid (fun (h1 : er = 0) (h2 : es = 0) => parts_plain (a := l0) (b := l1) hm0 hm1 (l := l) (m := m) (p1 := at_) (p2 := bt) (by rw [← HA.out, hqa, h1]) (by rw [hqb, h2]))
  have hszb : w.heap.size ≤ wb.heap.size := HWB.out.size
  have HPA := hid hpa
  have HPB := hid hpb
  clear hown hgr HOA hyb hpa hpb
  by_cases hgood : er = 0 ∧ es = 0 ∧ 0 < l.length ∧ 0 < m.length
  · obtain ⟨rfl, rfl, hl, hmm⟩ := hgood
    obtain ⟨K1, K2, sh, pp, hlf, hmf, hpw⟩ := HPL.out rfl rfl (by intro e; rw [e] at hl; simp at hl) (by intro e; rw [e] at hmm; simp at hmm)
    rw [← HA.out] at hpw
    obtain ⟨n, hn⟩ : ∃ n, n = (Prt.mk 1 [] 0 0 (K1 ++ shs sh K2)).flat := ⟨_, rfl⟩
    rw [← hn] at hpw
    have fl : l = (1, (K1.length : Int), [], 0, 0) :: flats K1 := by rw [hlf, Prt.flat]
    have fm : m = (1, (K2.length : Int), [], 0, 0) :: flats K2 := by rw [hmf, Prt.flat]
    have fn : n = (1, (((K1 ++ shs sh K2).length : Nat) : Int), [], 0, 0) :: (flats K1 ++ flats (shs sh K2)) := by rw [hn, Prt.flat, flats_append]
    have fsl : (flats (shs sh K2)).length = (flats K2).length := by simpa using congrArg List.length (flats_sh sh K2)
    have lenL : l.length = (flats K1).length + 1 := by rw [fl]; simp
    have lenM : m.length = (flats K2).length + 1 := by rw [fm]; simp
    have lenN : n.length = (flats K1).length + (flats K2).length + 1 := by rw [fn]; simp; omega
    have lenK : (K1 ++ shs sh K2).length = K1.length + K2.length := by rw [List.length_append, shs_length]
    have bl := parA_len hqa
    have bm := parA_len hqb
    have kl : K1.length ≤ (flats K1).length := by rw [flats_len]; exact sizes_ge K1
    have km : K2.length ≤ (flats K2).length := by rw [flats_len]; exact sizes_ge K2
    have S1 : (n.take l.length).drop 1 = (l.take l.length).drop 1 := by
      rw [List.take_length, lenL, fn, fl]
      simp
    have S2 : ((m.take m.length).drop 1).map erN = ((n.take n.length).drop l.length).map erN := by
      rw [List.take_length, List.take_length, lenL, fn, fm]
      simp only [List.drop_succ_cons, List.drop_zero, List.drop_left]
      exact (flats_sh sh K2).symm
    have HAl := HAL.out
    have HPC := hid (HPA.out.mono fun e w' h => got_yes h hqa hl)
    have HPD := hid (fun w5 (hb : Bw w w5) => (HPB.out w5 hb).mono fun e w' h => got_yes h hqb hmm)
    have h3' : ((l.length : Int) == 0) = false := by rw [beq_eq_false_iff_ne]; omega
    have h4' : ((m.length : Int) == 0) = false := by rw [beq_eq_false_iff_ne]; omega
    have HS1 := hid S1
    have HS2 := hid S2
    have HPW := hid hpw
    have HFL := hid (And.intro fl (And.intro fm fn))
    have HLN := hid (And.intro lenL (And.intro lenM (And.intro lenN lenK)))
    have HKB := hid (And.intro bl (And.intro bm (And.intro kl km)))
    clear HPA HPB hqa hqb HPL S1 S2 hpw fl fm fn lenL lenM lenN lenK bl bm kl km fsl hn hlf hmf HAl
    go_upto_region 8 with (first
      | (go_at_call_of 15 (Value.slice ab A.length cb); refine HPC.out.mono ?_; rintro e w5 ⟨gl, cl, rfl, hcl, hgl, hnl, hb5⟩; have B5 := hid (HWB.out.trans hb5); have Bb5 := hid hb5; have NL := hid hnl; clear hb5 hnl hgl)
      | (go_at_call_of 15 (Value.slice a1 l1.length c1); refine (HPD.out _ B5.out).mono ?_; rintro e w6 ⟨gm, cm, rfl, hcm, hgm, hnm, hb6⟩; have B6 := hid (B5.out.trans hb6); have Bb6 := hid (Bb5.out.trans hb6); have NL6 := hid (NL.out.bw hb6); have NM := hid hnm; clear hb6 hnm hgm)
      | (go_at_call 12; refine (num_any _ _).mono ?_; rintro e w' ⟨rfl, hw'⟩; subst w')
      | fail)
    clear HPC HPD NL
    go_wp2_with (first
      | (at_builtin; refine wpList_append_sl (G := fun _ => True) _ rfl _ _ 34 rfl w6.heap.size 5 i1 (.int .u8 0) 1 1 under22 I1.out.1 I1.out.2.1 I1.out.2.2.1 I1.out.2.2.2 rfl (by decide) (.slice (some ⟨w6.heap.size, 0, none⟩) 0 0) 0 [] rfl ?c0 (.slice ab A.length cb) A.length (A.map (Value.int .u8)) rfl ?c1 ?c2 ?c3 ?c4 ?c5 ?_)
      | go_in)
    case c0 => exact own_empty w6 5 1 _ _ rfl (Nat.le_refl _)
    case c1 => exact (HYB.out.bw (Bw.alloc Bb6.out _)).1
    case c2 => exact ints_one _ _
    case c3 => have := HAL.out; unfold maxLen; omega
    case c4 => have := HAL.out; omega
    case c5 => simp
    intro vc wc hown hgr
    have HWC := hid (bw_grown (Bw.alloc (Bw.refl w6) _) (Nat.le_refl _) (own_empty w6 5 1 _ _ rfl (Nat.le_refl _)) hgr)
    try rw [Nat.zero_add] at hown
    try rw [List.nil_append] at hown
    obtain ⟨ac, cc, e⟩ := own_form hown
    subst e
    have HOC := hid hown
    have hszc : w6.heap.size ≤ wc.heap.size := HWC.out.size
    clear hown hgr
    go_wp2_with (first
      | (at_builtin; refine wpList_append_sl (G := fun _ => True) _ rfl _ _ 34 rfl w6.heap.size 5 i1 (.int .u8 0) 1 1 under22 I1.out.1 I1.out.2.1 I1.out.2.2.1 I1.out.2.2.2 rfl (by decide) (.slice ac A.length cc) A.length (A.map (Value.int .u8)) rfl ?c0 (.slice a1 l1.length c1) l1.length (l1.map (Value.int .u8)) rfl ?c1 ?c2 ?c3 ?c4 ?c5 ?_)
      | go_in)
    case c0 => exact HOC.out
    case c1 => exact (W1.out.bw (B6.out.trans HWC.out)).1
    case c2 => exact ints_one _ _
    case c3 => have := HAL.out; unfold maxLen; omega
    case c4 => have := HAL.out; omega
    case c5 => omega
    intro vd wd hown hgr
    have HWD := hid (bw_grown HWC.out (Nat.le_refl _) HOC.out hgr)
    have e9 : (A ++ l1).length = A.length + l1.length := by simp
    rw [← List.map_append, ← e9] at hown
    obtain ⟨ad, cd, e⟩ := own_form hown
    subst e
    have hyd : By wd (.slice ad (A ++ l1).length cd) (A ++ l1) := ⟨own_sl hown (fun _ _ => trivial), (by intro c hc; rcases List.mem_append.1 hc with h | h; exact HBA.out c h; exact W1.out.2.1 c h), by have := HAL.out; omega⟩
    have hpc := parse_any _ (A ++ l1) wd hyd (HS.out.bw (B6.out.trans HWD.out)) (by have := HAL.out; omega)
    have HPN := hid (hpc.mono fun e w' h => got_yes h HPW.out (by have := HLN.out.2.2.1; omega))
    have c8 : (A ++ l1).length = A.length + l1.length := e9
    rw [c8] at HPN
    clear hown hgr hyd hpc HOC
    go_upto_region 9 with (first
      | (go_at_call 15; rw [c8]; refine HPN.out.mono ?_; rintro e w7 ⟨gn, cn, rfl, hcn, hgn, hnn, hb7⟩; have B7 := hid ((B6.out.trans HWD.out).trans hb7); have NL7 := hid (NL6.out.bw (HWD.out.trans hb7)); have NM7 := hid (NM.out.bw (HWD.out.trans hb7)); have NN := hid hnn; clear hb7 hnn)
      | fail)
    clear HPN NL6 NM
    have y1 := nr_one NL7.out HFL.out.1
    have y2 := nr_one NM7.out HFL.out.2.1
    have y3 := nr_one NN.out HFL.out.2.2
    simp only [Nat.zero_add] at y1 y2 y3
    rw [HLN.out.2.2.2] at y3
    have gl7 : gl < w7.heap.size := World.block_lt_of_cell? w7 _ y1
    have gm7 : gm < w7.heap.size := World.block_lt_of_cell? w7 _ y2
    have b1 : (0 : Int) < (l.length : Int) := by omega
    have b2 : (0 : Int) < (m.length : Int) := by omega
    have b3 : (0 : Int) < (n.length : Int) := by have := HLN.out.2.2.1; omega
    have kb : K1.length ≤ 10000 ∧ K2.length ≤ 10000 ∧ l.length ≤ 10000 ∧ m.length ≤ 10000 ∧ A.length ≤ 10000 ∧ n.length = l.length + m.length - 1 := by
      have q1 := HLN.out
      have q2 := HKB.out
      have q3 := HAL.out
      omega
    obtain ⟨kb1, kb2, kb3, kb4, kb5, kb6⟩ := kb
    have t1 : ((n.length : Int) != (l.length : Int) + (m.length : Int) - 1) = false := by rw [bne_eq_false_iff_eq]; omega
    have t2 : (((K1.length + K2.length : Nat) : Int) != (K1.length : Int) + (K2.length : Int)) = false := by rw [bne_eq_false_iff_eq]; omega
    have KB6 := hid kb6
    clear kb6
    go_quiet (first | (go_at_call 12; exact Calls.quiet_of_same (num_any _ _)))
    go_upto_region 11 with fail
    have s1 : (1 : Int) ≤ (l.length : Int) := by omega
    have s2 : (l.length : Int) ≤ (cn : Int) := by have := KB6.out; omega
    have s3 : (l.length : Int) ≤ (cl : Int) := by omega
    have hsub : (n.take l.length).drop 1 = (l.take l.length).drop 1 := HS1.out
    have hlen9 : ((l.take l.length).drop 1).length ≤ 1000000 := by simp; omega
    have NA1 := hid (fun w8 (hb : Bw w7 w8) => nr_sub2 (NN.out.bw hb) (if cn = 1 then some ⟨gn, 0, none⟩ else some ⟨gn, 5, none⟩) 1 l.length (cn - 1) (by omega) (by have := KB6.out; omega) (by intro h9; rw [if_neg (by have := KB6.out; omega)]))
    have NA2 := hid (fun w8 (hb : Bw w7 w8) => nr_sub2 (NL7.out.bw hb) (if cl = 1 then some ⟨gl, 0, none⟩ else some ⟨gl, 5, none⟩) 1 l.length (cl - 1) (by omega) (by omega) (by intro h9; rw [if_neg (by omega)]))
    rw [hsub] at NA1
    obtain ⟨x1, hx1⟩ : ∃ x1, (if cn = 1 then some (⟨gn, 0, none⟩ : Addr) else some ⟨gn, 5, none⟩) = x1 := ⟨_, rfl⟩
    obtain ⟨x2, hx2⟩ : ∃ x2, (if cl = 1 then some (⟨gl, 0, none⟩ : Addr) else some ⟨gl, 5, none⟩) = x2 := ⟨_, rfl⟩
    rw [hx1] at NA1
    rw [hx2] at NA2
    have HLEN9 := hid hlen9
    clear hsub hlen9
    go_region_with (first
      | (go_at_call 16; refine (nSameT_any _ _ ((l.take l.length).drop 1) _ (NA1.out _ (by repeat (first | exact Bw.refl _ | apply Bw.alloc | apply Bw.drewN | apply Bw.drew))) (NA2.out _ (by repeat (first | exact Bw.refl _ | apply Bw.alloc | apply Bw.drewN | apply Bw.drew))) HLEN9.out).mono ?_; rintro e w8 ⟨rfl, hb8⟩; have B78 := hid (Bw.trans (show Bw w7 _ from (by repeat (first | exact Bw.refl _ | apply Bw.alloc | apply Bw.drewN | apply Bw.drew))) hb8); clear hb8))
    all_goals go_upto_region 13 with fail
    clear NA1 NA2 hx1 hx2
    have s4 : (l.length : Int) ≤ (n.length : Int) := by have := KB6.out; omega
    have s5 : (n.length : Int) ≤ (cn : Int) := by omega
    have s6 : (1 : Int) ≤ (m.length : Int) := by omega
    have s7 : (m.length : Int) ≤ (cm : Int) := by omega
    have hlen8 : ((n.take n.length).drop l.length).length ≤ 1000000 := by have := KB6.out; simp; omega
    have NA3 := hid (fun w9 (hb : Bw w7 w9) => nr_sub2 (NN.out.bw hb) (if cn = l.length then some ⟨gn, 0, none⟩ else some ⟨gn, l.length * 5, none⟩) l.length n.length (cn - l.length) (by omega) (by omega) (by intro h9; rw [if_neg (by omega), Nat.zero_add]))
    have NA4 := hid (fun w9 (hb : Bw w7 w9) => nr_sub2 (NM7.out.bw hb) (if cm = 1 then some ⟨gm, 0, none⟩ else some ⟨gm, 5, none⟩) 1 m.length (cm - 1) (by omega) (by omega) (by intro h9; rw [if_neg (by omega)]))
    obtain ⟨x3, hx3⟩ : ∃ x3, (if cn = l.length then some (⟨gn, 0, none⟩ : Addr) else some ⟨gn, l.length * 5, none⟩) = x3 := ⟨_, rfl⟩
    obtain ⟨x4, hx4⟩ : ∃ x4, (if cm = 1 then some (⟨gm, 0, none⟩ : Addr) else some ⟨gm, 5, none⟩) = x4 := ⟨_, rfl⟩
    rw [hx3] at NA3
    rw [hx4] at NA4
    have HLEN8 := hid hlen8
    clear hlen8
    go_region_with (first
      | (go_at_call 16; refine (nSame_any _ _ ((n.take n.length).drop l.length) ((m.take m.length).drop 1) _ (NA3.out _ (B78.out.trans (by repeat (first | exact Bw.refl _ | apply Bw.alloc | apply Bw.drewN | apply Bw.drew)))) (NA4.out _ (B78.out.trans (by repeat (first | exact Bw.refl _ | apply Bw.alloc | apply Bw.drewN | apply Bw.drew)))) HS2.out HLEN8.out).mono ?_; rintro e w9 ⟨rfl, hb9⟩; have B79 := hid (Bw.trans (show Bw w7 _ from B78.out.trans (by repeat (first | exact Bw.refl _ | apply Bw.alloc | apply Bw.drewN | apply Bw.drew))) hb9); clear hb9)
      | (go_at_call 9; refine (live_any _ (HS.out.bw (B7.out.trans (B79.out.trans (by repeat (first | exact Bw.refl _ | apply Bw.alloc | apply Bw.drewN | apply Bw.drew)))))).mono ?_; rintro e wl ⟨rfl, hbl⟩; have BL := hid ((B7.out.trans (B79.out.trans (by repeat (first | exact Bw.refl _ | apply Bw.alloc | apply Bw.drewN | apply Bw.drew)))).trans hbl); clear hbl))
    all_goals go_wp2
    all_goals go_ret
    all_goals exact ⟨rfl, by first | exact BL.out | exact Bw.drew BL.out | exact Bw.drewN BL.out _⟩
  · have hbad : (er != 0) = true ∨ (er = 0 ∧ (es != 0) = true) ∨ (er = 0 ∧ es = 0 ∧ l.length = 0) ∨ (er = 0 ∧ es = 0 ∧ l.length ≠ 0 ∧ m.length = 0) := by
      by_cases h1 : er = 0
      · by_cases h2 : es = 0
        · by_cases h3 : l.length = 0
          · exact .inr (.inr (.inl ⟨h1, h2, h3⟩))
          · exact .inr (.inr (.inr ⟨h1, h2, h3, by omega⟩))
        · exact .inr (.inl ⟨h1, by simpa using h2⟩)
      · exact .inl (by simpa using h1)
    have HPC := hid (HPA.out.mono fun e w' h => got_any h hqa)
    have HPD := hid (fun w5 (hb : Bw w w5) => (HPB.out w5 hb).mono fun e w' h => got_any h hqb)
    clear HPA HPB hqa hqb hgood HPL
    generalize l.length = ln at *
    generalize m.length = mn at *
    rcases hbad with h1 | ⟨rfl, h2⟩ | ⟨rfl, rfl, rfl⟩ | ⟨rfl, rfl, h3, rfl⟩
    · go_wp2_with (first
        | (go_at_call_of 15 (Value.slice ab A.length cb); refine HPC.out.mono ?_; rintro e w5 ⟨x5, c5, a5, rfl, hb5⟩; have B5 := hid (HWB.out.trans hb5); clear hb5)
        | (go_at_call_of 15 (Value.slice a1 l1.length c1); refine (HPD.out _ B5.out).mono ?_; rintro e w6 ⟨x6, c6, a6, rfl, hb6⟩; have B6 := hid (B5.out.trans hb6); clear hb6)
        | (go_at_call 12; refine (num_any _ _).mono ?_; rintro e w' ⟨rfl, hw'⟩; subst w')
        | (go_at_call 9; refine (live_any _ (HS.out.bw B6.out)).mono ?_; rintro e wl ⟨rfl, hbl⟩; have BL := hid (B6.out.trans hbl); clear hbl)
        | fail)
      all_goals go_ret
      all_goals exact ⟨rfl, BL.out⟩
    · go_wp2_with (first
        | (go_at_call_of 15 (Value.slice ab A.length cb); refine HPC.out.mono ?_; rintro e w5 ⟨x5, c5, a5, rfl, hb5⟩; have B5 := hid (HWB.out.trans hb5); clear hb5)
        | (go_at_call_of 15 (Value.slice a1 l1.length c1); refine (HPD.out _ B5.out).mono ?_; rintro e w6 ⟨x6, c6, a6, rfl, hb6⟩; have B6 := hid (B5.out.trans hb6); clear hb6)
        | (go_at_call 12; refine (num_any _ _).mono ?_; rintro e w' ⟨rfl, hw'⟩; subst w')
        | (go_at_call 9; refine (live_any _ (HS.out.bw B6.out)).mono ?_; rintro e wl ⟨rfl, hbl⟩; have BL := hid (B6.out.trans hbl); clear hbl)
        | fail)
      all_goals go_ret
      all_goals exact ⟨rfl, BL.out⟩
    · go_wp2_with (first
        | (go_at_call_of 15 (Value.slice ab A.length cb); refine HPC.out.mono ?_; rintro e w5 ⟨x5, c5, a5, rfl, hb5⟩; have B5 := hid (HWB.out.trans hb5); clear hb5)
        | (go_at_call_of 15 (Value.slice a1 l1.length c1); refine (HPD.out _ B5.out).mono ?_; rintro e w6 ⟨x6, c6, a6, rfl, hb6⟩; have B6 := hid (B5.out.trans hb6); clear hb6)
        | (go_at_call 12; refine (num_any _ _).mono ?_; rintro e w' ⟨rfl, hw'⟩; subst w')
        | (go_at_call 9; refine (live_any _ (HS.out.bw B6.out)).mono ?_; rintro e wl ⟨rfl, hbl⟩; have BL := hid (B6.out.trans hbl); clear hbl)
        | fail)
      all_goals go_ret
      all_goals exact ⟨rfl, BL.out⟩
    · have h3' : ((ln : Int) == 0) = false := by simpa using h3
      clear h3
      go_wp2_with (first
        | (go_at_call_of 15 (Value.slice ab A.length cb); refine HPC.out.mono ?_; rintro e w5 ⟨x5, c5, a5, rfl, hb5⟩; have B5 := hid (HWB.out.trans hb5); clear hb5)
        | (go_at_call_of 15 (Value.slice a1 l1.length c1); refine (HPD.out _ B5.out).mono ?_; rintro e w6 ⟨x6, c6, a6, rfl, hb6⟩; have B6 := hid (B5.out.trans hb6); clear hb6)
        | (go_at_call 12; refine (num_any _ _).mono ?_; rintro e w' ⟨rfl, hw'⟩; subst w')
        | (go_at_call 9; refine (live_any _ (HS.out.bw B6.out)).mono ?_; rintro e wl ⟨rfl, hbl⟩; have BL := hid (B6.out.trans hbl); clear hbl)
        | fail)
      all_goals go_ret
      all_goals exact ⟨rfl, BL.out⟩

theorem walk (w : World) (hs : Sg w) (v0 : Value) (l0 : List Int) (w0 : By w v0 l0) (v1 : Value) (l1 : List Int) (w1 : By w v1 l1) :
    Calls Tryd.prog 6 #[v0, v1] w fun e w' => e = .returned (.bool true) ∧ Bw w w' := by
  obtain ⟨a0, c0, rfl⟩ := w0.form
  obtain ⟨a1, c1, rfl⟩ := w1.form
  by_cases h : l0.length ≤ 3000
  · by_cases h2 : l1.length ≤ 3000
    · exact coreS a0 a1 c0 c1 l0 l1 h h2 w hs w0 w1
    · have HS := hid hs
      have d1 : decide ((3000 : Int) < (l0.length : Int)) = false := decide_eq_false (by omega)
      have d2 : decide ((3000 : Int) < (l1.length : Int)) = true := decide_eq_true (by omega)
      clear h h2 hs w0 w1
      go_enter Tryd.func6, Tryd.ntmps6
      go_wp2_with (first
        | (go_at_call 9; refine (live_any _ HS.out).mono ?_; rintro e wl ⟨rfl, hbl⟩; have BL := hid hbl; clear hbl))
      all_goals go_ret
      all_goals exact ⟨rfl, BL.out⟩
  · have HS := hid hs
    have h' : decide ((3000 : Int) < (l0.length : Int)) = true := decide_eq_true (by omega)
    clear h hs w0 w1
    go_enter Tryd.func6, Tryd.ntmps6
    go_wp2_with (first
      | (go_at_call 9; refine (live_any _ HS.out).mono ?_; rintro e wl ⟨rfl, hbl⟩; have BL := hid hbl; clear hbl))
    all_goals go_ret
    all_goals exact ⟨rfl, BL.out⟩

set_option maxRecDepth 100000 in
theorem lifted (os : Os) (started : os.Started) (H : Type) (enc : TypeId × Value → H) :
    ReturnsInHanded {} Tryd.checked os 6 .any (fun w args => (Rows.parsePartsSpec.pre enc Tryd.prog Tryd.f6 [] false w args ∧ laidMetH Tryd.prog laidS w) ∧ sizedMet enc Tryd.prog Tryd.f6 (OpenSpec.ofChange Rows.parsePartsSpec) false w args)
      (Rows.parsePartsSpec.post enc Tryd.prog Tryd.f6 false true false false) := by
  refine returnsInHanded_of_change_and (C := Tryd.checked) (X := fun w _ => laidMetH Tryd.prog laidS w) (fun _ _ _ hh h => h.of_heap hh) ownK started (by kernel_rfl) Tryd.func6
    (ChangeSpec.witness_shaped (enc := enc) (C := Tryd.checked) (os := os) (X := fun w _ => laidMetH Tryd.prog laidS w) false (World.doorLaid Tryd.prog 400 os) #[.slice none 0 0, .slice none 0 0] 8 rfl (World.shaped_of_RefB (by kernel_rfl) (by kernel_rfl)) (by kernel_rfl) (by kernel_rfl) (by kernel_rfl) (door_met os _)) ?_
  intro W base args ds gs before hval0 hW _ _ hL _
  have hval : ∀ (j : Nat) t v, Tryd.f6.params[j]? = some t → args[j]? = some v → Value.okWide Tryd.prog W .any base t v := hval0
  have hW' := hW
  obtain ⟨p, q, hA0, hV, rfl, hfz, hnd⟩ := hW
  have hA : DataW.TrodAll enc Tryd.prog W 0 (fun _ => true) true Tryd.f6.params.toList args.toList ds p := hA0
  rw [Tryd.params6] at hA hval
  obtain ⟨v0, vs0, d0, ds0, p0, q0, hargs, rfl, rfl, h0, r0⟩ := trodAll_cons hA
  obtain ⟨v1, vs1, d1, ds1, p1, q1, rfl, rfl, rfl, h1, r1⟩ := trodAll_cons r0
  obtain ⟨rfl, rfl, rfl⟩ := trodAll_nil r1
  obtain rfl : args = #[v0, v1] := by cases args; simp_all
  obtain ⟨rfl, rfl⟩ := trodVars_none hV
  have k0 := h0
  have lt0 : ∀ x ∈ p0, x.block < W.heap.size := by obtain ⟨m, hm⟩ := k0; exact DataW.trod_lt m _ _ _ hm
  have k1 := h1
  have lt1 : ∀ x ∈ p1, x.block < W.heap.size := by obtain ⟨m, hm⟩ := k1; exact DataW.trod_lt m _ _ _ hm
  obtain ⟨l0, w0⟩ := open_bytes (hval 0 34 v0 rfl rfl) h0
  obtain ⟨l1, w1⟩ := open_bytes (hval 1 34 v1 rfl rfl) h1
  have hs := sg_of_laid hL
  clear hA0 hval0
  refine (walk W hs v0 l0 w0 v1 l1 w1).mono fun e W' ⟨he, bel⟩ => ?_
  subst he
  exact ⟨_, rfl, _, _, _, [], _, [], hW', trodAll_mk1 (shut_bool Tryd.underlying4 _), (trodAll_cons_mk (Below.trod laidOut (by kernel_rfl) (of_decide_eq_true (by kernel_rfl)) k0 bel lt0) (trodAll_cons_mk (Below.trod laidOut (by kernel_rfl) (of_decide_eq_true (by kernel_rfl)) k1 bel lt1) trodAll_mk0)), rfl, Below.frame bel _, fun h => by cases h⟩

theorem over : Rows.parsePartsRow.holds Tryd.pinned (OpenSpec.ofChange Rows.parsePartsSpec) :=
  OpenClaim.holds_of_wide 6 Tryd.f6 rfl rfl rfl rfl rfl rfl rfl ⟨rfl, rfl, rfl, rfl, rfl⟩ rfl rfl rfl rfl rfl (by kernel_rfl) Tryd.func6 (by kernel_rfl)
    (of_decide_eq_true (by kernel_rfl)) (by unfold Func.isWrapper; first | (rw [if_pos (by decide +kernel)]; kernel_rfl) | (rw [if_neg (by decide +kernel)]; exact ⟨rfl, rfl⟩))
    (fun os started H enc _ => lifted os started H enc)

theorem card : Rows.ParsePartsCardSaid :=
  Claim7.holds_tied_plain_at .later [] [.data, .data] true (true, "1ee87b867a6f7fb388cad427d3238b6067381e6223bad05719f6a30fb194ad88") true
    over (fun _ h => by cases h) (by kernel_rfl) (fun _ h => by cases h) parseParts_row_tie rfl ⟨rfl, rfl⟩ (by kernel_rfl) rfl
    (fun f fn hf hfn => by
      obtain rfl : f = 6 := Option.some.inj ((show Tryd.prog.funcNamed "jacquard/jacquardlaw06.ParseParts" = some 6 by kernel_rfl).symm.trans hf) |>.symm
      obtain rfl : fn = Tryd.f6 := (Option.some.inj (Tryd.func6.symm.trans hfn)).symm
      exact ⟨by kernel_rfl, fun j t ht => by
        rw [Tryd.params6] at ht
        have hm : t ∈ [34] := by have h9 := Array.mem_of_getElem? ht; simp at h9 ⊢; first | exact h9 | (rcases h9 with h9 | h9 <;> simp [h9]; done) | (rcases h9 with h9 | h9 | h9 <;> simp [h9]; done) | (rcases h9 with h9 | h9 | h9 | h9 <;> simp [h9]; done)
        have hall : ([34].all fun u => !Tryd.prog.wantsStandIn u) = true := by kernel_rfl
        exact (show Tryd.prog.wantsStandIn t = false by simpa using List.all_eq_true.1 hall t hm)⟩)
    (by kernel_rfl)
end Go.Proofs.YtlcieebneclmpaaDoor.parseParts
namespace Go.Proofs.YtlcieebneclmpaaDoor
theorem parseParts_holds : Rows.ParsePartsCardSaid := parseParts.card
#print axioms parseParts_holds
end Go.Proofs.YtlcieebneclmpaaDoor
