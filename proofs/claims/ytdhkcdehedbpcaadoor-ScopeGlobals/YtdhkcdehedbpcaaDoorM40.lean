/- scope.Resolve of any list of which the plain model tells an answer. · What a node is made of: the document's Kids. · scope.Resolve of any list of at most 1000 nodes. -/
import Derived.Test.YtdhkcdehedbpcaaDoorM35
import Derived.Test.YtdhkcdehedbpcaaDoorM39
import Derived.Test.YtdhkcdehedbpcaaDoorM37
import Derived.Test.YtdhkcdehedbpcaaDoorM24
import Derived.Test.YtdhkcdehedbpcaaDoorMm
set_option linter.unusedSimpArgs false
set_option linter.unusedVariables false
namespace Go.Proofs.YtdhkcdehedbpcaaDoor
open Go Go.RowKit

/-- What is told, in memory. -/
structure ScM (w : World) (vf vu vg : Value) (z : ZS) : Prop where
  f : ∃ K : List FK, K.map FK.f = z.funs ∧ w.ownsRow 0 49 4 vf K.length (K.flatMap fnC) ∧ ∀ (i : Nat) (k : FK), K[i]? = some k → w.ownsRow 0 59 2 k.cv k.f.caps.length (rowP k.f.caps)
  u : w.ownsRow 0 57 2 vu z.uses.length (rowP (z.uses.map (zend z)))
  g : w.ownsRow 0 9 1 vg z.globals.length (z.globals.map Value.string)

theorem ScM.bw {w w' : World} {vf vu vg : Value} {z : ZS} (h : ScM w vf vu vg z) (hb : Bw w w') : ScM w' vf vu vg z := by
  obtain ⟨K, h1, h2, h3⟩ := h.f
  exact ⟨⟨K, h1, own_keep8 h2 (fun b e => hb.block b (h2.lt b e).2), fun i k hk => own_keep8 (h3 i k hk) (fun b e => hb.block b ((h3 i k hk).lt b e).2)⟩, own_keep8 h.u (fun b e => hb.block b (h.u.lt b e).2), own_keep8 h.g (fun b e => hb.block b (h.g.lt b e).2)⟩

section
variable {w : World} {g o cap n : Nat} {L : List ANode} {A : ByteArray → Option Int}

set_option maxRecDepth 100000 in
set_option maxHeartbeats 8000000 in
theorem Resolve_no (h0 : 0 < L.length) (hl : L.length ≤ 1000) (h : NC w g o L) (hh : Sh w) (hc : (ckP L).2 ≠ 0) : Calls Tryd.prog 10 #[.slice (some ⟨g, o, none⟩) L.length cap] w fun e w' => e = .returned (.tuple #[.agg #[.slice none 0 0, .slice none 0 0, .slice none 0 0], .int .i64 (ckP L).2, .int .i64 0]) ∧ Bw w w' := by
  have HCK := hid (fun (W : World) (hb : Bw w W) => check_any g o cap L h0 hl W (h.bw hb) (hh.bw hb))
  have e1 : ((ckP L).2 != 0) = true := by simpa using hc
  have HB0 := hid (fun (o : Obj) => Bw.alloc (Bw.refl w) o)
  clear h hh hc
  generalize (ckP L).2 = er at HCK e1 ⊢
  generalize (ckP L).1 = k at HCK
  go_enter Tryd.func10, Tryd.ntmps10
  go_wp2_with (first
    | (go_at_call 23; refine (HCK.out _ (HB0.out _)).mono ?_; rintro e w1 ⟨rfl, hb1⟩; have B1 := hid ((HB0.out _).trans hb1); have P1 := hid (Blk.bw (Blk.new w #[.slice none 0 0, .slice none 0 0, .slice none 0 0] 31) hb1); have p0 := P1.out.cell; have pf := P1.out.free; have pl := P1.out.lt; clear hb1)
    | fail)
  all_goals refine bodyPost_ret (v := .tuple #[.agg #[.slice none 0 0, .slice none 0 0, .slice none 0 0], .int .i64 er, .int .i64 0]) (by simp [results, Tryd.results10, go_sem, *]) rfl ?_
  all_goals exact ⟨rfl, ((B1.out.setCell (Nat.le_refl _) _).setCell (Nat.le_refl _) _).setCell (Nat.le_refl _) _⟩

set_option maxRecDepth 100000 in
set_option maxHeartbeats 8000000 in
theorem Resolve_bad (h0 : 0 < L.length) (hl : L.length ≤ 1000) (hn : (zN L 0).2.1 = (n : Int)) (hn5 : n ≤ 1000) (h : NC w g o L) (hh : Sh w) (hp : PrM w) (hc : (ckP L).2 = 0) (hg : globA L n 1 (fun _ => none) 0 = some A) (t : Nat) (z : ZS) (hz : zR L A t (.parts n) (zstart L) = some z) (hf : z.fault ≠ 0) (hfy : z.faulty < L.length) :
    Calls Tryd.prog 10 #[.slice (some ⟨g, o, none⟩) L.length cap] w fun e w' => e = .returned (.tuple #[.agg #[.slice none 0 0, .slice none 0 0, .slice none 0 0], .int .i64 z.fault, .int .i64 (zN L z.faulty).2.2.2.2]) ∧ Bw w w' := by
  have hL0 : L[0].2.1 = (n : Int) := by have e : zN L 0 = L[0] := by unfold zN; rw [List.getD_eq_getElem?_getD, List.getElem?_eq_getElem h0]; rfl
                                        rw [← e]; exact hn
  have HCK := hid (fun (W : World) (hb : Bw w W) => (show Calls Tryd.prog 23 #[.slice (some ⟨g, o, none⟩) L.length cap] W fun e w' => ∃ k : Int, e = .returned (.tuple #[.int .i64 k, .int .i64 0]) ∧ Bw W w' from by
    have := check_any g o cap L h0 hl W (h.bw hb) (hh.bw hb)
    rw [hc] at this
    exact this.mono (by rintro e w' ⟨rfl, hb⟩; exact ⟨_, rfl, hb⟩)))
  have HNR := hid (fun (W : World) (hb : Bw w W) => newResolver_any g o cap L h0 hl n hL0 hn5 (h.bw hb) (hp.bw hb) hg)
  have HPG := hid (show zR L A t (.parts (zN L 0).2.1) (zstart L) = some z by rw [hn]; exact hz)
  have HL0 := hid h0
  have HB0 := hid (fun (o : Obj) => Bw.alloc (Bw.refl w) o)
  have e1 : (z.fault != 0) = true := by simpa using hf
  have HNC := hid h
  have HFY := hid hfy
  have hf2 : (z.faulty : Int) < (L.length : Int) := by omega
  have ca : w.cell? ⟨g, o + z.faulty * 5 + 4, none⟩ = some (.int .i64 (zN L z.faulty).2.2.2.2) := by
    have e : zN L z.faulty = L[z.faulty] := by unfold zN; rw [List.getD_eq_getElem?_getD, List.getElem?_eq_getElem hfy]; rfl
    rw [h.c z.faulty hfy 4 (by omega), e]; rfl
  have CA := hid ca
  have GL := hid h.lt
  clear h hh hp hc hg hz hf hfy hL0 ca
  generalize (zN L z.faulty).2.2.2.2 = at_ at CA ⊢
  go_enter Tryd.func10, Tryd.ntmps10
  go_upto_region 6 with (first
    | (go_at_call 23; refine (HCK.out _ (HB0.out _)).mono ?_; rintro e w1 ⟨k, rfl, hb1⟩; have B1 := hid ((HB0.out _).trans hb1); have P1 := hid (Blk.bw (Blk.new w #[.slice none 0 0, .slice none 0 0, .slice none 0 0] 31) hb1); clear hb1)
    | (go_at_call 24; refine (HNR.out _ B1.out).mono ?_; rintro e w2 ⟨r, ab, B, rfl, hr2, hb2, h02⟩; have R2 := hid hr2; have B2 := hid hb2; have Z2 := hid h02; clear hr2 hb2 h02)
    | (go_at_call 25; refine (program_any R2.out HL0.out t z HPG.out).mono ?_; rintro e w3 ⟨rfl, B3, hr3, hn3⟩; have R3 := hid hr3; have N3 := hid hn3; clear hr3 hn3)
    | fail)
  obtain ⟨O3, Z3⟩ := N3.out.old B2.out Z2.out
  have O3 := hid O3
  have P3 := P1.out.bw O3.out
  have B3' := B1.out.trans O3.out
  have p0 := P3.cell
  have pf := P3.free
  have pl := P3.lt
  have q11 : w3.cell? ⟨r, 11, none⟩ = some (.int .i64 z.fault) := R3.out.blk.cell 11
  have q12 : w3.cell? ⟨r, 12, none⟩ = some (.int .i64 z.faulty) := R3.out.blk.cell 12
  have rl := R3.out.blk.lt
  have gl : g < w3.heap.size := Nat.lt_of_lt_of_le GL.out B3'.size
  have ca3 : w3.cell? ⟨g, o + z.faulty * 5 + 4, none⟩ = some (.int .i64 at_) := by rw [← CA.out]; exact World.cell?_of_block (a := ⟨g, o + z.faulty * 5 + 4, none⟩) (B3'.block g GL.out)
  have HB3 := hid B3'
  clear P3 B3'
  go_upto_region 7 with fail
  go_region
  all_goals go_wp2
  all_goals refine bodyPost_ret (v := .tuple #[.agg #[.slice none 0 0, .slice none 0 0, .slice none 0 0], .int .i64 z.fault, .int .i64 at_]) (by simp [results, Tryd.results10, go_sem, *]) rfl ?_
  all_goals refine ⟨rfl, ?_⟩
  all_goals repeat (first | exact HB3.out | apply Bw.drew | apply Bw.drewN | (refine Bw.setCell ?_ (Nat.le_refl _) _))

set_option maxRecDepth 100000 in
set_option maxHeartbeats 8000000 in
theorem Resolve_ok (h0 : 0 < L.length) (hl : L.length ≤ 1000) (hn : (zN L 0).2.1 = (n : Int)) (hn5 : n ≤ 1000) (h : NC w g o L) (hh : Sh w) (hp : PrM w) (hc : (ckP L).2 = 0) (hg : globA L n 1 (fun _ => none) 0 = some A) (t : Nat) (z : ZS) (hz : zR L A t (.parts n) (zstart L) = some z) (hf : z.fault = 0) (hfit : ∀ u ∈ z.uses, zfit z u = true) :
    Calls Tryd.prog 10 #[.slice (some ⟨g, o, none⟩) L.length cap] w fun e w' => ∃ vf vu vg, e = .returned (.tuple #[.agg #[vf, vu, vg], .int .i64 0, .int .i64 0]) ∧ ScM w' vf vu vg z ∧ (∃ a c, vf = .slice a z.funs.length c) ∧ (∃ a c, vu = .slice a L.length c) ∧ (∃ a c, vg = .slice a z.globals.length c) ∧ z.uses.length = L.length ∧ Bw w w' := by
  have hL0 : L[0].2.1 = (n : Int) := by have e : zN L 0 = L[0] := by unfold zN; rw [List.getD_eq_getElem?_getD, List.getElem?_eq_getElem h0]; rfl
                                        rw [← e]; exact hn
  have HCK := hid (fun (W : World) (hb : Bw w W) => (show Calls Tryd.prog 23 #[.slice (some ⟨g, o, none⟩) L.length cap] W fun e w' => ∃ k : Int, e = .returned (.tuple #[.int .i64 k, .int .i64 0]) ∧ Bw W w' from by
    have := check_any g o cap L h0 hl W (h.bw hb) (hh.bw hb)
    rw [hc] at this
    exact this.mono (by rintro e w' ⟨rfl, hb⟩; exact ⟨_, rfl, hb⟩)))
  have HNR := hid (fun (W : World) (hb : Bw w W) => newResolver_any g o cap L h0 hl n hL0 hn5 (h.bw hb) (hp.bw hb) hg)
  have HPG := hid (show zR L A t (.parts (zN L 0).2.1) (zstart L) = some z by rw [hn]; exact hz)
  have HL0 := hid h0
  have HB0 := hid (fun (o : Obj) => Bw.alloc (Bw.refl w) o)
  have HFIT := hid hfit
  have HF := hid hf
  clear h hh hp hc hg hz hf hL0 hfit
  go_enter Tryd.func10, Tryd.ntmps10
  go_upto_region 6 with (first
    | (go_at_call 23; refine (HCK.out _ (HB0.out _)).mono ?_; rintro e w1 ⟨k, rfl, hb1⟩; have B1 := hid ((HB0.out _).trans hb1); have P1 := hid (Blk.bw (Blk.new w #[.slice none 0 0, .slice none 0 0, .slice none 0 0] 31) hb1); clear hb1)
    | (go_at_call 24; refine (HNR.out _ B1.out).mono ?_; rintro e w2 ⟨r, ab, B, rfl, hr2, hb2, h02⟩; have R2 := hid hr2; have B2 := hid hb2; have Z2 := hid h02; clear hr2 hb2 h02)
    | (go_at_call 25; refine (program_any R2.out HL0.out t z HPG.out).mono ?_; rintro e w3 ⟨rfl, B3, hr3, hn3⟩; have R3 := hid hr3; have N3 := hid hn3; clear hr3 hn3)
    | fail)
  obtain ⟨O3, Z3⟩ := N3.out.old B2.out Z2.out
  have O3 := hid O3
  have Z3 := hid Z3
  have P3 := hid (P1.out.bw O3.out)
  have q11 : w3.cell? ⟨r, 11, none⟩ = some (.int .i64 0) := by have := R3.out.blk.cell 11; rw [this]; show some (Value.int .i64 z.fault) = _; rw [HF.out]
  have rl := R3.out.blk.lt
  obtain ⟨nf, hnf⟩ : ∃ nf, z.funs.length = nf := ⟨_, rfl⟩
  have hK3 : B3.K.length = nf := by have h1 := congrArg List.length R3.out.x.kf; rw [List.length_map] at h1; rw [h1]; exact hnf
  have HK3 := hid hK3
  have HNF := hid hnf
  have HUL := hid R3.out.x.ul
  obtain ⟨ng, hng⟩ : ∃ ng, z.globals.length = ng := ⟨_, rfl⟩
  have HNG := hid hng
  clear hK3 hnf hng
  go_upto_region 9 with (first
    | (go_at_call 26; refine (whole_any R3.out HFIT.out).mono ?_; rintro e w4 ⟨vf, he, hf4, hr4, hn4, ho4⟩; (obtain ⟨fa, fc, hvf⟩ := own_form hf4); (obtain ⟨ua, uc, huv⟩ := own_form (hr4.x.uses (by decide)).1); (obtain ⟨ga, gc, hgv⟩ := own_form (hr4.x.globs (by decide)).1); rw [HK3.out] at hvf; rw [show (List.map (zend z) z.uses).length = L.length from (by rw [List.length_map]; exact HUL.out)] at huv; rw [HNG.out] at hgv; rw [huv, hgv] at he; subst hvf; subst he; have F4 := hid hf4; have R4 := hid hr4; have N4 := hid hn4; have OW4 := hid ho4; have HGV := hid hgv; have HUV := hid huv; have P4 := hid (P3.out.keep (hn4.block _ P3.out.lt (Z3.out _ P1.out.lt))); have p0 := P4.out.cell; have pf := P4.out.free; have pl := P4.out.lt; clear hf4 hr4 hn4 ho4 huv hgv)
    | fail)
  all_goals refine bodyPost_ret (v := .tuple #[.agg #[.slice fa nf fc, .slice ua L.length uc, .slice ga ng gc], .int .i64 0, .int .i64 0]) (by simp [results, Tryd.results10, go_sem, *]) rfl ?_
  all_goals
    obtain ⟨O4, Z4⟩ := N4.out.old O3.out Z3.out
    have hlw := P1.out.lt
    have hww := B1.out.size
    have hw3 := O3.out.size
    have hkeep : ∀ (b : Nat), b ≠ w.heap.size → ∀ (v0 v1 v2 : Value), (((w4.setCell ⟨w.heap.size, 0, none⟩ v0).setCell ⟨w.heap.size, 1, none⟩ v1).setCell ⟨w.heap.size, 2, none⟩ v2).heap[b]? = w4.heap[b]? := fun b hb v0 v1 v2 => by
      rw [Below.heap_setCell _ _ _ b hb, Below.heap_setCell _ _ _ b hb, Below.heap_setCell _ _ _ b hb]
    have role : ∀ {b j : Nat}, B3.ρ b = j → j ≠ 0 → b ≠ w.heap.size := fun e hj k => hj (by rw [← e, k]; exact Z4 _ hlw)
    have hu4 := R4.out.x.uses (by decide)
    rw [HUV.out] at hu4
    have hg4 := R4.out.x.globs (by decide)
    rw [HGV.out] at hg4
    have f4 := F4.out
    refine ⟨_, _, _, rfl, ⟨⟨B3.K, R4.out.x.kf, own_keep8 f4 (fun b e => hkeep b (by have := OW4.out b e; omega) _ _ _), fun i k hk => own_keep8 (R4.out.x.caps i k hk (by omega)).1 (fun b e => hkeep b (role ((R4.out.x.caps i k hk (by omega)).2 b e) (by omega)) _ _ _)⟩, ?_, ?_⟩, ⟨fa, fc, by rw [HNF.out]⟩, ⟨ua, uc, rfl⟩, ⟨ga, gc, by rw [HNG.out]⟩, HUL.out, (((B1.out.trans O4).setCell (Nat.le_refl _) _).setCell (Nat.le_refl _) _).setCell (Nat.le_refl _) _⟩
    · have h5 : w4.ownsRow 0 57 2 (.slice ua L.length uc) (List.map (zend z) z.uses).length (rowP (z.uses.map (zend z))) := hu4.1
      rw [List.length_map] at h5
      exact own_keep8 h5 (fun b e => hkeep b (role (hu4.2 b e) (by decide)) _ _ _)
    · exact own_keep8 hg4.1 (fun b e => hkeep b (role (hg4.2 b e) (by decide)) _ _ _)
end
end Go.Proofs.YtdhkcdehedbpcaaDoor

set_option linter.unusedSimpArgs false
set_option linter.unusedVariables false
namespace Go.Proofs.YtdhkcdehedbpcaaDoor
open Go Go.RowKit

def ints (l : List Nat) : List Value := l.map (fun (i : Nat) => Value.int .i64 (i : Int))
theorem ints_snoc (l : List Nat) (i : Nat) : ints (l ++ [i]) = ints l ++ [.int .i64 (i : Int)] := by simp [ints]
theorem infoI8 : (Tryd.prog.info? 3).map (fun i => (i.zero, i.size, i.bytes)) = some (some (.int .i64 0), 1, 8) := by kernel_rfl
theorem rts_len (L : List ANode) : ∀ (n p : Nat), (rts L n p).length = n
  | 0, _ => rfl
  | n + 1, p => by simp [rts, rts_len L n]

theorem na_nc {w : World} {a : Option Addr} {L : List ANode} (h : NA w a L) (h0 : 0 < L.length) : ∃ g o, a = some ⟨g, o, none⟩ ∧ NC w g o L := by
  obtain ⟨g, off, rfl, hg, _, _⟩ := h 0 h0
  refine ⟨g, off, rfl, hg, fun i hi j hj => ?_, fun i hi => ?_⟩
  · obtain ⟨b, o, e, _, hc, _⟩ := h i hi
    injection e with e
    injection e with e1 e2
    subst e1 e2
    have := hc j hj
    rw [← Nat.add_assoc] at this
    exact this
  · obtain ⟨b, o, e, _, _, hk⟩ := h i hi
    exact ⟨hk.2.1, hk.2.2.1.1, by have := hk.2.2.1.2; unfold maxLen at this; omega⟩

theorem zN_get {L : List ANode} {i : Nat} (h : i < L.length) : L[i] = zN L i := by unfold zN; rw [List.getD_eq_getElem?_getD, List.getElem?_eq_getElem h]; rfl

set_option maxRecDepth 100000 in
set_option maxHeartbeats 4000000 in
theorem kids_any (g o cap : Nat) (L : List ANode) (hl : L.length ≤ 1000) (i n j : Nat) (hi : i < L.length) (es : List Int) (hes : es.length = n) (hf : Fo L es (i + 1) j) (hn : (zN L i).2.1 = (n : Int)) (w : World) (h : NC w g o L) :
    Calls Tryd.prog 18 #[.slice (some ⟨g, o, none⟩) L.length cap, .int .i64 (i : Int)] w fun e w' => ∃ r, e = .returned r ∧ w'.ownsRow w.heap.size 3 1 r n (ints (rts L n (i + 1))) ∧ Bw w w' := by
  have H := hid h
  obtain ⟨i2, hi2, hz2, hs2, hy2⟩ := info_parts infoI8
  have I2 := hid (And.intro hi2 (And.intro hz2 (And.intro hs2 hy2)))
  have HF := hid hf
  have HL := hid hl
  have hjl := hf.top (by omega)
  have hle := hf.le
  have HES := hid hes
  have hn5 : n ≤ 1000 := by omega
  have c1 : w.cell? ⟨g, o + i * 5 + 1, none⟩ = some (.int .i64 (n : Int)) := by
    rw [h.c i hi 1 (by omega), zN_get hi]; simp [ndV, hn]
  have C1 := hid c1
  have gl := h.lt
  have GL := hid gl
  have hi0 : (i : Int) < (L.length : Int) := by omega
  have hi1 : (0 : Int) ≤ (i : Int) := by omega
  have hw1 : IntKind.i64.wrap ((i : Int) + 1) = ((i + 1 : Nat) : Int) := by rw [IntKind.wrap_i64]; omega
  have HI := hid (show i < 1000 by omega)
  clear h hf hi2 hz2 hs2 hy2 hes hn hi hjl hle hl c1
  go_enter Tryd.func18, Tryd.ntmps18
  go_wp2
  go_loopw [5, 6, 7] (fun v5 v6 v7 wr => ∃ (k p : Nat) (e1 e2 : List Int), v7 = .int .i64 (k : Int) ∧ k ≤ n ∧ v6 = .int .i64 (p : Int) ∧ es = e1 ++ e2 ∧ e1.length = k ∧ Fo L e1 (i + 1) p ∧ Fo L e2 p j ∧ wr.ownsRow w.heap.size 3 1 v5 k (ints (rts L k (i + 1))) ∧ Bw w wr) (fun _ _ v7 _ => n - (intOf v7).toNat)
  case atStart => exact ⟨0, i + 1, [], es, rfl, Nat.zero_le _, rfl, rfl, rfl, rfl, HF.out, World.ownsRow_nil w _ _ _, Bw.refl w⟩
  case round =>
    obtain ⟨k, p, e1, e2, rfl, hk, rfl, hes, he1, hf1, hf2, hown, hbw⟩ := hrel
    obtain ⟨ao, co, e⟩ := own_form hown
    subst e
    have HO := hid hown
    have HB := hid hbw
    have hsz := hbw.size
    have HE := hid (And.intro hes he1)
    have F1 := hid hf1
    have F2 := hid hf2
    have c1r : wr.cell? ⟨g, o + i * 5 + 1, none⟩ = some (.int .i64 (n : Int)) := by rw [← C1.out]; exact World.cell?_of_block (a := ⟨g, o + i * 5 + 1, none⟩) (hbw.block g GL.out)
    have grl : g < wr.heap.size := Nat.lt_of_lt_of_le GL.out hbw.size
    have NR := hid ((H.out.bw hbw).nm)
    by_cases hkn : k < n
    · have hkn' : (k : Int) < (n : Int) := by omega
      obtain ⟨a, e3, rfl⟩ : ∃ a e3, e2 = a :: e3 := by
        cases e2 with
        | nil => exfalso; rw [hes, List.append_nil] at HES; have := HES.out; omega
        | cons a e3 => exact ⟨a, e3, rfl⟩
      obtain ⟨r, ht, hf3⟩ := hf2
      have hb := ht.behind
      have hpl := ht.lt
      have HBH := hid (fun (W : World) (hw : NM W g o L) => (show Calls Tryd.prog 33 #[.slice (some ⟨g, o, none⟩) L.length cap, .int .i64 (p : Int)] W fun e w' => e = .returned (.tuple #[.int .i64 (r : Int), .int .i64 0]) ∧ w' = W from by
        have := rbehind_any g o cap L HL.out W (.inr hw) L.length (p : Int) (by have := HL.out; omega) (by omega)
        rw [hb] at this
        exact this))
      have HT := hid (And.intro ht hf3)
      have HST := hid (show ints (rts L (k + 1) (i + 1)) = ints (rts L k (i + 1)) ++ [.int .i64 (p : Int)] by
        rw [← ints_snoc]
        congr 1
        have := rts_app (L := L) (fs := [a]) hf1
        rw [he1] at this
        rw [show k + 1 = k + [a].length from rfl, this]
        rfl)
      clear hown hbw hes he1 hf1 ht hf3 hb hpl F2
      go_upto_region 6 with go_quiet (fail)
      go_wp2_with (first
        | (at_builtin; refine wpList_append_own _ rfl _ _ 51 rfl w.heap.size 3 i2 _ 1 8 Tryd.underlying51 I2.out.1 I2.out.2.1 I2.out.2.2.1 I2.out.2.2.2 rfl (by decide) (.slice ao k co) k (ints (rts L k (i + 1))) rfl (HO.out.alloc _) ⟨wr.heap.size, 0, none⟩ 1 1 [.int .i64 (p : Nat)] rfl rfl ?c1 ?c2 ?c3 ?c4 ?c5 ?_)
        | fail)
      case c1 =>
        intro j u hj
        match j, hj with
        | 0, hj => simp at hj; subst hj; simp [Addr.add, go_sem]
      case c2 => intro u hu; simp at hu; rcases hu with rfl; rfl
      case c3 => unfold maxLen; omega
      case c4 => omega
      case c5 => simp only [World.size_alloc]; have := HB.out.size; omega
      intro v' w2 hown hgr _
      obtain ⟨av', cv', e⟩ := own_form hown
      subst e
      have HW1 := hid (bw_grown (Bw.alloc HB.out _) (Nat.le_refl _) (HO.out.alloc _) hgr)
      have hown2 : w2.ownsRow w.heap.size 3 1 (.slice av' (k + 1) cv') (k + 1) (ints (rts L (k + 1) (i + 1))) := by
        rw [HST.out]
        exact hown
      have HO2 := hid hown2
      have NR2 := hid ((H.out.bw HW1.out).nm)
      clear hgr hown hown2
      go_wp2_with (first
        | (go_at_call 33; refine (HBH.out _ NR2.out).mono ?_; rintro e w3 ⟨rfl, hw3⟩; subst w3)
        | fail)
      go_roundw
      case rel => exact ⟨k + 1, r, e1 ++ [a], e3, by go_num, by omega, rfl, by rw [HE.out.1]; simp, by rw [List.length_append, HE.out.2]; rfl, F1.out.app (Fo.one HT.out.1), HT.out.2, HO2.out, HW1.out⟩
      case measure => simp [intOf]; omega
    · have hkn' : ¬ (k : Int) < (n : Int) := by omega
      obtain rfl : k = n := by omega
      clear hown hbw hes he1 hf1 hf2
      go_wp2
      all_goals go_ret
      all_goals exact ⟨_, rfl, HO.out, HB.out⟩

end Go.Proofs.YtdhkcdehedbpcaaDoor

set_option linter.unusedSimpArgs false
set_option linter.unusedVariables false
namespace Go.Proofs.YtdhkcdehedbpcaaDoor
open Go Go.RowKit

section
variable (L : List ANode)
/-- How many things the program is made of, its globals, what the resolver makes of it. -/
def rsN : Nat := (zN L 0).2.1.toNat
def rsA : ByteArray → Option Int := (globA L (rsN L) 1 (fun _ => none) 0).getD fun _ => none
def rsO : Option ZS := zR L (rsA L) (4 * (L.length - 1) + 1) (.parts (rsN L)) (zstart L)
def rsZ : ZS := (rsO L).getD default
end

theorem glob_all {L : List ANode} : ∀ (es : List Int) (p q : Nat) (M : ByteArray → Option Int) (c : Int), Fo L es p q → ∃ A, globA L es.length p M c = some A
  | [], p, q, M, c, h => ⟨M, rfl⟩
  | a :: es, p, q, M, c, h => by
    obtain ⟨r, h1, h2⟩ := h
    have hl := h1.lt
    have hb := h1.behind
    rw [List.length_cons]
    unfold globA
    rw [if_pos (by omega), hb]
    split
    · exact glob_all es r q _ _ h2
    · exact glob_all es r q _ _ h2

theorem zstart_inv (L : List ANode) : Inv L 0 0 (zstart L) where
  ul := by show (List.replicate L.length ((0 : Int), (0 : Int))).length = _; rw [List.length_replicate]
  un := fun j _ hl => by show (List.replicate L.length ((0 : Int), (0 : Int)))[j]? = _; rw [List.getElem?_replicate, if_pos hl]
  fn := by show 0 < 1; omega
  ab := fun g f hg h0 => by
    have hg : ([((0 : Int), (0 : Int), 0)] : List (Int × Int × Nat))[g]? = some f := hg
    cases g with
    | zero => omega
    | succ g => simp at hg
  se := fun s d h => by cases h
  dl := by show 0 + 1 + 0 ≤ 1; omega
  cn := by show 0 + 0 + 2 + 2 * 0 ≤ 2 * 1; omega
  lo := ⟨Int.le_refl _, by show (0 : Int) + 1 + ((0 : Nat) : Int) ≤ ((1 : Nat) : Int); omega⟩
  fy := fun h => absurd rfl h
  uf := fun j u hu h1 => by
    have hu : (List.replicate L.length ((0 : Int), (0 : Int)))[j]? = some u := hu
    rw [List.getElem?_replicate] at hu
    split at hu
    · cases hu; cases h1
    · cases hu

/-- What holds of the resolver in the end. -/
structure RsOk (L : List ANode) : Prop where
  n0 : (zN L 0).2.1 = (rsN L : Int)
  k0 : (zN L 0).1 = 1
  nl : rsN L + 1 ≤ L.length
  fo : Fo L (kidsA (zN L 0) (rsN L) 0) 1 L.length
  gl : globA L (rsN L) 1 (fun _ => none) 0 = some (rsA L)
  re : zR L (rsA L) (4 * (L.length - 1) + 1) (.parts (rsN L)) (zstart L) = some (rsZ L)
  fy : (rsZ L).fault ≠ 0 → (rsZ L).faulty < L.length
  fit : ∀ u ∈ (rsZ L).uses, zfit (rsZ L) u = true
  sn : (rsZ L).fault = 0 → skn (rsZ L) = (0, 0) :: fnR L 1 L.length
  gg : (rsZ L).fault = 0 → (rsZ L).globals = (gT L (rsN L) 1).map (zT L)
  gu : (rsZ L).fault = 0 → ∀ (n x : Nat), (gT L (rsN L) 1)[n]? = some x → (rsZ L).uses[x]? = some (4, (n : Int))

theorem rs_ok {L : List ANode} (hl : L.length ≤ 1000) (hc : (ckP L).2 = 0) : RsOk L := by
  have ht := tree_of hc
  obtain ⟨h0, h1, h2, h3⟩ := ht.out
  have hn0 := wm_nonneg h1 h2
  have hk : (zN L 0).1 = 1 := by
    have hr := ft_rng h1
    have : ∀ k : Nat, k < 33 → (shpA (k : Int)).1 = 1 → k = 1 := by decide
    have h1' : (shpA (zN L 0).1).1 = 1 := by
      unfold ftP at h1
      rw [if_neg (by omega), if_neg (by decide), if_neg (by decide), if_neg (by decide), if_neg (by decide)] at h1
      simpa using h1
    have := this (zN L 0).1.toNat (by omega) (by rw [Int.toNat_of_nonneg (by omega)]; exact h1')
    omega
  have hle := h3.le
  rw [kidsA_len] at hle
  have hlen : (kidsA (zN L 0) (rsN L) 0).length = rsN L := kidsA_len _ _ _
  have ha1 : ∀ a ∈ kidsA (zN L 0) (rsN L) 0, a ≠ 1 := by
    have key : ∀ (k : Nat) (x : Int), ∀ a ∈ kidsA (zN L 0) k x, a ≠ 1 := by
      intro k
      induction k with
      | zero => intro x a h; cases h
      | succ k ih =>
        intro x a h
        rcases List.mem_cons.1 h with h | h
        · rw [h]; unfold stP; rw [if_pos (.inl hk)]; decide
        · exact ih _ a h
    exact key _ _
  obtain ⟨A, hA⟩ := glob_all (L := L) _ 1 L.length (fun _ => none) 0 h3
  rw [kidsA_len] at hA
  have hA : globA L (rsN L) ((1 : Nat) : Int) (fun _ => none) 0 = some (rsA L) := by
    have hA' : globA L (rsN L) 1 (fun _ => none) 0 = some A := hA
    unfold rsA; rw [hA']; exact hA'
  obtain ⟨z, e1, e2, e3⟩ := tot_all (A := rsA L) hl (L.length - 1) (kidsA (zN L 0) (rsN L) 0) 1 L.length (4 * (L.length - 1) + 1) (zstart L) (Nat.le_refl _) h3 ha1 (Nat.le_refl _) rfl (zstart_inv L) (Nat.le_refl _)
  rw [hlen] at e1 e3
  have hz : rsZ L = z := by unfold rsZ rsO; rw [e1]; rfl
  refine ⟨by unfold rsN; omega, hk, by unfold rsN; omega, h3, hA, by rw [hz]; exact e1, by rw [hz]; exact e2.inv.fy, ?_, ?_, ?_, ?_⟩
  · rw [hz]
    intro u hu
    obtain ⟨j, hj⟩ := List.getElem?_of_mem hu
    unfold zfit
    by_cases h1 : u.1 = 1
    · obtain ⟨a, b⟩ := e2.inv.uf j u hj h1
      simp; right; exact ⟨a, b⟩
    · simp [h1]
  · rw [hz]; intro hf; rw [e2.sn hf]; rfl
  · rw [hz]; intro hf
    have := (e3 rfl hf).1
    simpa [zstart] using this
  · rw [hz]; intro hf n x hx
    have := (e3 rfl hf).2 n x hx
    simpa [zstart] using this

section
variable (w : World)
set_option maxRecDepth 100000 in
set_option maxHeartbeats 4000000 in
theorem check_nil' (a : Option Addr) (cap : Nat) : Calls Tryd.prog 23 #[.slice a 0 cap] w fun e w' => e = .returned (.tuple #[.int .i64 0, .int .i64 6]) ∧ Bw w w' := by
  go_enter Tryd.func23, Tryd.ntmps23
  go_wp2
  all_goals go_ret2
  all_goals exact ⟨rfl, by repeat (first | exact Bw.refl _ | apply Bw.alloc | apply Bw.drewN | apply Bw.drew)⟩

set_option maxRecDepth 100000 in
set_option maxHeartbeats 4000000 in
theorem resolve_nil' (a : Option Addr) (cap : Nat) : Calls Tryd.prog 10 #[.slice a 0 cap] w fun e w' => e = .returned (.tuple #[.agg #[.slice none 0 0, .slice none 0 0, .slice none 0 0], .int .i64 6, .int .i64 0]) ∧ Bw w w' := by
  go_enter Tryd.func10, Tryd.ntmps10
  go_wp2_with (first
    | (go_at_call 23; refine (check_nil' _ _ _).mono ?_; rintro e w1 ⟨rfl, hb1⟩; have B1 := hid (show Bw w w1 from Bw.trans bq hb1); have p3 : Blk w1 w.heap.size #[.slice none 0 0, .slice none 0 0, .slice none 0 0] 31 := Blk.bw (w := w.alloc _) (Blk.new w _ _) (Bw.trans bq hb1); have P3 := hid p3; have z := p3.cell; have zf := p3.free; have zl := p3.lt; clear hb1 p3)
    | fail)
  refine bodyPost_ret (v := .tuple #[.agg #[.slice none 0 0, .slice none 0 0, .slice none 0 0], .int .i64 6, .int .i64 0]) (by simp [results, Tryd.results10, go_sem, *]) rfl ?_
  exact ⟨rfl, ((B1.out.setCell (Nat.le_refl _) _).setCell (Nat.le_refl _) _).setCell (Nat.le_refl _) _⟩
end

/-- The error that is told, and its place. -/
def rsE (L : List ANode) : Int := if (ckP L).2 ≠ 0 then (ckP L).2 else (rsZ L).fault
def rsP (L : List ANode) : Int := if (ckP L).2 ≠ 0 then 0 else if (rsZ L).fault ≠ 0 then (zN L (rsZ L).faulty).2.2.2.2 else 0

theorem resolve_bad {w : World} {a : Option Addr} {L : List ANode} (h : NA w a L) (hl : L.length ≤ 1000) (cap : Nat) (hh : Sh w) (hp : PrM w) (he : rsE L ≠ 0) :
    Calls Tryd.prog 10 #[.slice a L.length cap] w fun e w' => e = .returned (.tuple #[.agg #[.slice none 0 0, .slice none 0 0, .slice none 0 0], .int .i64 (rsE L), .int .i64 (rsP L)]) ∧ Bw w w' := by
  rcases Nat.eq_zero_or_pos L.length with h0 | h0
  · have : L = [] := List.length_eq_zero_iff.1 h0
    subst this
    have e1 : rsE [] = 6 := by unfold rsE; rw [if_pos (by decide)]; rfl
    have e2 : rsP [] = 0 := by unfold rsP; rw [if_pos (by decide)]
    rw [e1, e2]
    exact resolve_nil' w a cap
  · obtain ⟨g, o, rfl, hm⟩ := na_nc h h0
    by_cases hc : (ckP L).2 = 0
    · have e1 : rsE L = (rsZ L).fault := by unfold rsE; rw [if_neg (by omega)]
      rw [e1] at he ⊢
      have e2 : rsP L = (zN L (rsZ L).faulty).2.2.2.2 := by unfold rsP; rw [if_neg (by omega), if_pos he]
      rw [e2]
      have R := rs_ok hl hc
      exact Resolve_bad h0 hl R.n0 (by have := R.nl; omega) hm hh hp hc R.gl _ _ R.re he (R.fy he)
    · have e1 : rsE L = (ckP L).2 := by unfold rsE; rw [if_pos hc]
      have e2 : rsP L = 0 := by unfold rsP; rw [if_pos hc]
      rw [e1, e2]
      exact Resolve_no h0 hl hm hh hc

theorem rs_in {L : List ANode} (hl : L.length ≤ 1000) (he : rsE L = 0) : RsOk L ∧ (rsZ L).fault = 0 ∧ (ckP L).2 = 0 ∧ 0 < L.length := by
  unfold rsE at he
  split at he
  · next h => exact absurd he h
  · next h =>
    have hc : (ckP L).2 = 0 := by omega
    have h0 := (tree_of hc).lt.1
    exact ⟨rs_ok hl hc, he, hc, h0⟩

theorem resolve_ok {w : World} {a : Option Addr} {L : List ANode} (h : NA w a L) (hl : L.length ≤ 1000) (cap : Nat) (hh : Sh w) (hp : PrM w) (he : rsE L = 0) :
    Calls Tryd.prog 10 #[.slice a L.length cap] w fun e w' => ∃ vf vu vg, e = .returned (.tuple #[.agg #[vf, vu, vg], .int .i64 0, .int .i64 0]) ∧ ScM w' vf vu vg (rsZ L) ∧ (∃ a c, vf = .slice a (rsZ L).funs.length c) ∧ (∃ a c, vu = .slice a L.length c) ∧ (∃ a c, vg = .slice a (rsZ L).globals.length c) ∧ (rsZ L).uses.length = L.length ∧ Bw w w' := by
  obtain ⟨R, hf, hc, h0⟩ := rs_in hl he
  obtain ⟨g, o, rfl, hm⟩ := na_nc h h0
  exact Resolve_ok h0 hl R.n0 (by have := R.nl; omega) hm hh hp hc R.gl _ _ R.re hf R.fit
end Go.Proofs.YtdhkcdehedbpcaaDoor

