/- For every world of objects, every byte and every word, the statement ShowMoves of layer 4 answers true: where it asks, the program's Text of a word in that world is its Text of the moved word in the world whose objects stand behind others, and the same error; the page's examples hold; no condition beyond the library's own tables, which the card ties to its text. -/
import Derived.Test.YtimidonagbfjcaaGreatDoorK19
import Derived.Test.YtimidonagbfjcaaGreatDoorK9
set_option linter.unusedVariables false
set_option linter.unusedSimpArgs false
namespace Go.Proofs.YtimidonagbfjcaaGreatDoor.showMoves
open Go.ChangeShapes Go.WideShapes Go.ChangeAt Go.RowKit

theorem wrH_cap (H : AHeap) (x : Int × Int × Int) (h : H.1 = 100 ∧ (H.2.length : Int) ≤ 100) : (wrH H x).1 = 100 ∧ ((wrH H x).2.length : Int) ≤ 100 := by
  unfold wrH aSetH
  split
  · exact ⟨h.1, by simpa using h.2⟩
  · exact h

theorem made_100 (Os : List AObj) (Ws : List (Int × Int × Int)) : (madeH Os Ws).2.length ≤ 100 := by
  have h1 : ∀ (Os : List AObj) (H : AHeap), (H.1 = 100 ∧ (H.2.length : Int) ≤ 100) → ((Os.foldl mkH H).1 = 100 ∧ ((Os.foldl mkH H).2.length : Int) ≤ 100) := by
    intro Os
    induction Os with
    | nil => intro H h; exact h
    | cons o r ih => intro H h; exact ih _ (mkH_cap H o h)
  have h2 : ∀ (Ws : List (Int × Int × Int)) (H : AHeap), (H.1 = 100 ∧ (H.2.length : Int) ≤ 100) → ((Ws.foldl wrH H).1 = 100 ∧ ((Ws.foldl wrH H).2.length : Int) ≤ 100) := by
    intro Ws
    induction Ws with
    | nil => intro H h; exact h
    | cons o r ih => intro H h; exact ih _ (wrH_cap H o h)
  have := (h2 Ws _ (h1 Os (100, []) ⟨rfl, by decide⟩)).2
  unfold madeH
  omega

set_option maxRecDepth 100000 in
set_option maxHeartbeats 16000000 in
theorem core (ao aw : Option Addr) (co cw : Nat) (Os : List AObj) (Ws : List (Int × Int × Int)) (mo : Os.length ≤ maxLen) (mw : Ws.length ≤ maxLen) (y : Int) (wy : 0 ≤ y ∧ y ≤ 255) (a : Int) (wa : U a) (w : World) (hpd : Pd w) (wu : WU w ao aw Os Ws) :
    Calls Tryz.prog 3 #[.agg #[.slice ao Os.length co, .slice aw Ws.length cw], .int .u8 y, .int .u64 a] w fun e w' => e = .returned (.bool true) ∧ Bw w w' := by
  have HMU := hid (fun w1 (hb : Bw w w1) => much4_any ao aw co cw Os Ws w1 (wu.bw hb) mo mw)
  by_cases hm : muchW Os Ws = true
  · rw [hm] at HMU
    clear wa wu mo mw hm hpd
    go_enter Tryz.func3, Tryz.ntmps3
    go_wp2_with (first
      | (go_at_call 4; refine (HMU.out _ (by repeat (first | exact Bw.refl _ | apply Bw.lay | apply Bw.alloc | apply Bw.drewN | apply Bw.drew))).mono ?_; rintro e w1 ⟨rfl, os1, n1, rfl⟩)
      | (go_at_call 6; refine (live4_any _).mono ?_; rintro e wl ⟨rfl, hbl⟩; have BL := hid (Bw.trans (a := w) (by repeat (first | exact Bw.refl _ | apply Bw.lay | apply Bw.alloc | apply Bw.drewN | apply Bw.drew)) hbl); clear hbl)
      | fail)
    all_goals go_ret
    all_goals exact ⟨rfl, BL.out⟩
  · have hm' : muchW Os Ws = false := by simpa using hm
    have HWI := hid (fun w1 (hb : Bw w w1) => wide_any ao aw co cw Os Ws w1 (wu.bw hb) hm')
    rw [hm'] at HMU
    obtain ⟨hbr, hn, hmd⟩ := made_all (co := co) (cw := cw) wu hm'
    have HSN := hid (made_sane wu hm')
    have H100 := hid (made_100 Os Ws)
    have HMD := hid hmd
    have HA := hid wa
    have HPD := hid hpd
    have HWU := hid wu
    have HMW := hid hm'
    clear wa wu mo mw hm hm' hbr hn hmd hpd
    obtain ⟨n, hnn⟩ : ∃ n : Nat, (n : Int) = y % 20 := ⟨(y % 20).toNat, by omega⟩
    have hn19 : n ≤ 19 := by omega
    have hy1 : y.tmod 20 = (n : Int) := by rw [hnn]; exact Int.tmod_eq_emod_of_nonneg wy.1
    go_enter Tryz.func3, Tryz.ntmps3
    go_upto_region 1 with fail
    go_cut [28] (fun c wc => (∃ q : Bool, c = .bool q) ∧ Bw w wc ∧ Blk wc w.heap.size #[.slice ao Os.length co, .slice aw Ws.length cw] 25)
    case first =>
      go_wp2_with (first
          | (go_at_call 4; refine (HMU.out _ (by repeat (first | exact Bw.refl _ | apply Bw.lay | apply Bw.alloc | apply Bw.drewN | apply Bw.drew))).mono ?_; rintro e w1 ⟨rfl, os1, n1, rfl⟩)
          | (go_at_call 5; refine (HWI.out _ (by repeat (first | exact Bw.refl _ | apply Bw.lay | apply Bw.alloc | apply Bw.drewN | apply Bw.drew))).mono ?_; rintro e w2 ⟨⟨q, rfl⟩, hb2⟩; have B2 := hid (Bw.trans (a := w.alloc (.cells #[.slice ao Os.length co, .slice aw Ws.length cw] 25)) (by repeat (first | exact Bw.refl _ | apply Bw.lay | apply Bw.alloc | apply Bw.drewN | apply Bw.drew)) hb2); clear hb2)
          | fail)
      go_meet
      exact ⟨⟨_, rfl⟩, Bw.trans (Bw.alloc (Bw.refl _) _) B2.out, (Blk.new w _ _).bw B2.out⟩
    case rest =>
      obtain ⟨⟨q, rfl⟩, hb1, hk1⟩ := hcut
      rename World => w1
      have B1 := hid hb1
      have K1 := hid hk1
      have yl := hk1.lt
      clear hb1 hk1
      cases q
      · clear HMU HWI
        go_upto_region 5 with fail
        simp only [← hnn]
        have M0 : Hid (MS w (w1.alloc (.cells #[.slice none 0 0, .slice none 0 0] 25)) w1.heap.size (.slice none 0 0) (.slice none 0 0) (.slice ao Os.length co) (.slice aw Ws.length cw) ((List.range 0).map cob) [] []) :=
          hid ⟨Blk.new _ _ _, K1.out.alloc _, Bw.alloc B1.out _, yl, rfl, World.ownsRow_nil _ _ _ _, World.ownsRow_nil _ _ _ _, fun i o x ho => by simp at ho⟩
        obtain ⟨w2, hw2⟩ : ∃ w2, w2 = w1.alloc (.cells #[.slice none 0 0, .slice none 0 0] 25) := ⟨_, rfl⟩
        rw [← hw2] at M0 ⊢
        clear hw2 K1 B1 hy1 hnn wy
        obtain ⟨i1, hi1, hz1, hs1, hy1⟩ := info_parts infoO
        have I1 := hid (And.intro hi1 (And.intro hz1 (And.intro hs1 hy1)))
        clear hi1 hz1 hs1 hy1
        generalize hb8 : w1.heap.size = b8 at M0 yl
        clear hb8
        go_wp2
        go_loopw [9] (fun j wr => ∃ k : Nat, k ≤ n ∧ j = .int .i64 k ∧ ∃ vo t, MS w wr b8 vo (.slice none 0 0) (.slice ao Os.length co) (.slice aw Ws.length cw) ((List.range k).map cob) [] t) (fun j _ => n - (intOf j).toNat)
        case atStart => exact ⟨0, Nat.zero_le _, rfl, _, _, M0.out⟩
        case round =>
          obtain ⟨k, hk, rfl, vo, t, hms⟩ := hrel
          rename World => wr
          have hsz := hms.k.lt
          have hLk : ((List.range k).map cob).length = k := by simp
          have hro := hms.ro
          rw [hLk] at hro
          obtain ⟨av, cv, rfl⟩ := own_form hro
          have RO := hid hro
          clear hro hLk
          have MK := hid hms
          have z := hms.k.cell
          have zf := hms.k.free
          clear hms M0
          by_cases hlt : k < n
          · go_wp2_with (first
              | (at_builtin; refine wpList_append_sl (G := fun _ => True) _ rfl _ _ 22 rfl (b8 + 1) 34 i1 _ 7 104 Tryz.underlying22 I1.out.1 I1.out.2.1 I1.out.2.2.1 I1.out.2.2.2 rfl (by decide) (.slice av k cv) k (hcells ((List.range k).map cob) t) rfl (RO.out.alloc _) (.slice (some ⟨wr.heap.size, 0, none⟩) 1 1) 1 [.int .i64 6, .slice none 0 0, .slice none 0 0, .slice none 0 0, .int .i64 0, .int .u64 k, .int .u64 0] rfl (sl_new7 wr _ 34 rfl) (ocells_one (cob k) _ _ _ rfl rfl rfl) ?c3 ?c4 ?c5 ?_)
              | go_in)
            case c3 => unfold maxLen; omega
            case c4 => omega
            case c5 => simp; omega
            intro v6 w6 how hgr
            obtain ⟨a6, c6, rfl⟩ := own_form how
            have P6 := (MK.out.on (Bw.alloc (Bw.refl _) (.cells #[.int .i64 6, .slice none 0 0, .slice none 0 0, .slice none 0 0, .int .i64 0, .int .u64 k, .int .u64 0] 34))).push (Rw.nil _ _ k) (by rw [show ((List.range k).map cob).length = k by simp]; exact how) hgr
            have K6 := hid P6
            have z6 := P6.1.cell
            have z6f := P6.1.free
            have hs6 := P6.1.lt
            clear z zf how hgr P6
            go_wp2
            refine ⟨⟨k + 1, hlt, by simp, .slice a6 (k + 1) c6, t ++ [(.slice none 0 0, .slice none 0 0, .slice none 0 0)], ?_⟩, by simp [intOf]; omega⟩
            rw [List.range_succ, List.map_append]
            exact K6.out.2
          · obtain rfl : k = n := by omega
            have O30 := (much_no4 HMW.out).1
            have MK2 : Hid (MS w wr b8 (.slice av k cv) (.slice none 0 0) (.slice ao Os.length co) (.slice aw Ws.length cw) ((List.range k).map cob ++ (Os.take 0).map (mvO k)) [] t) := hid (by simpa using MK.out)
            clear MK RO z zf hlt hk
            go_wp2
            go_loopw [10] (fun j wr => ∃ m : Nat, m ≤ Os.length ∧ j = .int .i64 m ∧ ∃ vo t, MS w wr b8 vo (.slice none 0 0) (.slice ao Os.length co) (.slice aw Ws.length cw) ((List.range k).map cob ++ (Os.take m).map (mvO k)) [] t) (fun j _ => Os.length - (intOf j).toNat)
            case atStart => exact ⟨0, Nat.zero_le _, rfl, _, _, MK2.out⟩
            case round =>
              clear MK2 hsz
              obtain ⟨m, hm, rfl, vo, t, hms⟩ := hrel
              rename World => wr
              have hsz := hms.k.lt
              have y3 := hms.k3.cell
              have hs3 := hms.k3.lt
              have hL : ((List.range k).map cob ++ (Os.take m).map (mvO k)).length = k + m := by simp; omega
              have hro := hms.ro
              rw [hL] at hro
              obtain ⟨av, cv, rfl⟩ := own_form hro
              have RO := hid hro
              have HL := hid hL
              have MK := hid hms
              clear hms hro hL
              by_cases hlt : m < Os.length
              · obtain ⟨b, off, ⟨xb, xv, xk⟩, rfl, hb, hc, hou⟩ := HWU.out.1 m hlt
                have hb1 : (0 : Int) ≤ (m : Int) := by omega
                have hb2 : (m : Int) < (Os.length : Int) := by omega
                obtain ⟨o, ho⟩ : ∃ o, o = Os[m] := ⟨_, rfl⟩
                rw [← ho] at hou hc
                have hat := fun j (hj : j < 7) => (Below.cell (p := ⟨b, off + (m * 7 + j), none⟩) MK.out.bw hb).trans (hc j hj)
                have hbw : b < wr.heap.size := Nat.lt_of_lt_of_le hb MK.out.bw.size
                have c0 : wr.cell? ⟨b, off + m * 7, none⟩ = some (.int .i64 o.kind) := hat 0 (by omega)
                have c1 : wr.cell? ⟨b, off + m * 7 + 1, none⟩ = some xb := hat 1 (by omega)
                have c2 : wr.cell? ⟨b, off + m * 7 + 2, none⟩ = some xv := hat 2 (by omega)
                have c3 : wr.cell? ⟨b, off + m * 7 + 3, none⟩ = some xk := hat 3 (by omega)
                have c4 : wr.cell? ⟨b, off + m * 7 + 4, none⟩ = some (.int .i64 o.num) := hat 4 (by omega)
                have c5 : wr.cell? ⟨b, off + m * 7 + 5, none⟩ = some (.int .u64 o.re) := hat 5 (by omega)
                have c6 : wr.cell? ⟨b, off + m * 7 + 6, none⟩ = some (.int .u64 o.im) := hat 6 (by omega)
                have hbig := big_no ((much_no4 HMW.out).2.2 _ (List.getElem_mem hlt))
                rw [← ho] at hbig
                have HOU := hid (hou.bw MK.out.bw)
                have HO := hid ho
                clear hat hc hou hb ho
                obtain ⟨ab, cb, rfl⟩ := HOU.out.ol.1.form
                obtain ⟨a2, c2', rfl⟩ := HOU.out.ol.2.1.form
                obtain ⟨ak, ck, rfl⟩ := HOU.out.ol.2.2.form
                go_upto_region 13 with (first
                  | (go_at_call 7; refine (rcopy_any _ o _ _ _ _ (HOU.out.ol.below (by repeat (first | exact Bw.refl _ | apply Bw.lay | apply Bw.alloc | apply Bw.drewN | apply Bw.drew))) (by omega) (by omega) (by omega)).mono ?_; rintro e wp ⟨pb, pv, pk, rfl, r1, r2, r3, hbp⟩; obtain ⟨pab, pcb, rfl⟩ := own_form r1; obtain ⟨pav, pcv, rfl⟩ := own_form r2; obtain ⟨pak, pck, rfl⟩ := own_form r3; have R1 := hid r1; have R2 := hid r2; have R3 := hid r3; have BP := hid hbp; clear r1 r2 r3 hbp c0 c1 c2 c3 c4 c5 c6)
                  | fail)
                have hpl := BP.out.size
                have C0 : Hid (CP wr (wp.alloc (.cells #[.int .i64 o.kind, .slice pab o.bytes.length pcb, .slice pav o.vals.length pcv, .slice pak o.keys.length pck, .int .i64 o.num, .int .u64 o.re, .int .u64 o.im] 34)) wp.heap.size o (.slice pab o.bytes.length pcb) (.slice pav o.vals.length pcv) (.slice pak o.keys.length pck) (part k o.vals 0)) :=
                  hid ⟨Bw.alloc BP.out _, Blk.new _ _ _, R1.out.alloc _, (by rw [part_zero]; exact R2.out.alloc _), R3.out.alloc _⟩
                obtain ⟨wq, hwq⟩ : ∃ wq, wq = wp.alloc (.cells #[.int .i64 o.kind, .slice pab o.bytes.length pcb, .slice pav o.vals.length pcv, .slice pak o.keys.length pck, .int .i64 o.num, .int .u64 o.re, .int .u64 o.im] 34) := ⟨_, rfl⟩
                rw [← hwq] at C0 ⊢
                generalize wp.heap.size = bq at C0 hpl
                clear hwq R1 R2 R3 BP
                go_wp2
                go_loopw [12] (fun j wc => ∃ l : Nat, l ≤ o.vals.length ∧ j = .int .i64 l ∧ CP wr wc bq o (.slice pab o.bytes.length pcb) (.slice pav o.vals.length pcv) (.slice pak o.keys.length pck) (part k o.vals l)) (fun j _ => o.vals.length - (intOf j).toNat)
                case atStart => exact ⟨0, Nat.zero_le _, rfl, C0.out⟩
                case round =>
                  obtain ⟨l, hl, rfl, hcp⟩ := hrel
                  rename World => wc
                  have zq := hcp.k.cell
                  have hq := hcp.k.lt
                  have CK := hid hcp
                  by_cases hll : l < o.vals.length
                  · have hl1 : (0 : Int) ≤ (l : Int) := by omega
                    have hl2 : (l : Int) < (o.vals.length : Int) := by omega
                    obtain ⟨g, rfl⟩ : ∃ g, pav = some ⟨g, 0, none⟩ := by
                      rcases hcp.r2.2 with ⟨h0, _⟩ | ⟨g', cap', cur, e, hbg, hgg, hnc, hcm, hcs, htake⟩
                      · simp only [Value.slice.injEq] at h0; omega
                      · simp only [Value.slice.injEq] at e; exact ⟨g', e.1⟩
                    obtain ⟨x, hx⟩ : ∃ x, x = o.vals[l] := ⟨_, rfl⟩
                    obtain ⟨d0, d1, d2⟩ := hcp.cell l o.vals[l] (part_at k o.vals l hll)
                    have hU : U o.vals[l] := HOU.out.u _ (List.getElem_mem hll)
                    have hps := part_set k o.vals l hll
                    rw [← hx] at d0 hU hps
                    have HU := hid hU
                    have HPS := hid hps
                    clear hU hps hx hcp
                    go_upto_region 16 with fail
                    go_region_with (first
                      | (go_at_call 8; refine (moved_any k hn19 x HU.out _).mono ?_; rintro e w' ⟨rfl, rfl⟩))
                    all_goals
                      go_wp2
                      have Q := CK.out.set l (mv k x)
                      rw [HPS.out] at Q
                      exact ⟨⟨l + 1, hll, by simp, Bw.drew Q.bw, Q.k, Q.r1.drew, Q.r2.drew, Q.r3.drew⟩, by simp [intOf]; omega⟩
                  · obtain rfl : l = o.vals.length := by omega
                    have hrw : Rw wc (b8 + 1) (mvO k o) (.slice pab o.bytes.length pcb, .slice pav o.vals.length pcv, .slice pak o.keys.length pck) := by
                      have q2 := hcp.r2
                      rw [part_all] at q2
                      exact ⟨own_base hcp.r1 (by omega), own_base q2 (by omega), own_base hcp.r3 (by omega)⟩
                    have RQ := hid hrw
                    have hmq := MK.out.on hcp.bw
                    have ROQ := hid (own_bw RO.out hcp.bw)
                    have z := hmq.k.cell
                    have zf := hmq.k.free
                    have hsq := hmq.k.lt
                    have MQ := hid hmq
                    clear hrw hmq hcp C0 y3 hs3
                    go_wp2_with (first
                      | (at_builtin; refine wpList_append_sl (G := fun _ => True) _ rfl _ _ 22 rfl (b8 + 1) 34 i1 _ 7 104 Tryz.underlying22 I1.out.1 I1.out.2.1 I1.out.2.2.1 I1.out.2.2.2 rfl (by decide) (.slice av (k + m) cv) (k + m) (hcells ((List.range k).map cob ++ (Os.take m).map (mvO k)) t) rfl (ROQ.out.alloc _) (.slice (some ⟨wc.heap.size, 0, none⟩) 1 1) 1 [.int .i64 o.kind, .slice pab o.bytes.length pcb, .slice pav o.vals.length pcv, .slice pak o.keys.length pck, .int .i64 o.num, .int .u64 o.re, .int .u64 o.im] rfl (sl_new7 wc _ 34 rfl) (ocells_one o _ _ _ rfl rfl rfl) ?c3 ?c4 ?c5 ?_)
                      | go_in)
                    case c3 => unfold maxLen; omega
                    case c4 => omega
                    case c5 => simp; omega
                    intro v6 w6 how hgr
                    obtain ⟨a6, c6, rfl⟩ := own_form how
                    have P6 := (MQ.out.on (Bw.alloc (Bw.refl _) (.cells #[.int .i64 o.kind, .slice pab o.bytes.length pcb, .slice pav o.vals.length pcv, .slice pak o.keys.length pck, .int .i64 o.num, .int .u64 o.re, .int .u64 o.im] 34))).push (RQ.out.bw (Bw.alloc (Bw.refl _) _)) (by rw [HL.out, List.map_take]; exact how) hgr
                    have K6 := hid P6
                    have z6 := P6.1.cell
                    have z6f := P6.1.free
                    have hs6 := P6.1.lt
                    clear z zf how hgr P6
                    go_wp2
                    refine ⟨⟨m + 1, hlt, by simp, .slice a6 (k + m + 1) c6, t ++ [(.slice pab o.bytes.length pcb, .slice pav o.vals.length pcv, .slice pak o.keys.length pck)], ?_⟩, by simp [intOf]; omega⟩
                    rw [List.take_succ_eq_append_getElem hlt, List.map_append, ← List.append_assoc]
                    rw [← HO.out]
                    exact K6.out.2
              · obtain rfl : m = Os.length := by omega
                have M4 : Hid (MS w wr b8 (.slice av (k + Os.length) cv) (.slice none 0 0) (.slice ao Os.length co) (.slice aw Ws.length cw) ((List.range k).map cob ++ Os.map (mvO k)) ((Ws.take 0).map (mvW k)) t) := hid (by have h := MK.out; rw [List.take_length] at h; simpa using h)
                have W30 := (much_no4 HMW.out).2.1
                obtain ⟨Ms, hMs⟩ : ∃ Ms, Ms = (List.range k).map cob ++ Os.map (mvO k) := ⟨_, rfl⟩
                rw [← hMs] at M4
                have HMS := hid hMs
                clear hMs MK RO HL hsz
                obtain ⟨i4, hi4, hz4, hs4, hy4⟩ := info_parts infoWr
                have I4 := hid (And.intro hi4 (And.intro hz4 (And.intro hs4 hy4)))
                clear hi4 hz4 hs4 hy4
                go_wp2
                go_loopw [13] (fun j wr => ∃ q : Nat, q ≤ Ws.length ∧ j = .int .i64 q ∧ ∃ vw, MS w wr b8 (.slice av (k + Os.length) cv) vw (.slice ao Os.length co) (.slice aw Ws.length cw) Ms ((Ws.take q).map (mvW k)) t) (fun j _ => Ws.length - (intOf j).toNat)
                case atStart => exact ⟨0, Nat.zero_le _, rfl, _, M4.out⟩
                case round =>
                  obtain ⟨q, hq, rfl, vw, hms⟩ := hrel
                  clear M4 y3 hs3
                  rename World => wr
                  have hsz := hms.k.lt
                  have y3 := hms.k3.cell
                  have hs3 := hms.k3.lt
                  have z := hms.k.cell
                  have zf := hms.k.free
                  have hL : ((Ws.take q).map (mvW k)).length = q := by simp; omega
                  have hro := hms.rw'
                  rw [hL] at hro
                  obtain ⟨av4, cv4, rfl⟩ := own_form hro
                  have RO := hid hro
                  have HL := hid hL
                  have MK := hid hms
                  clear hms hro hL
                  by_cases hlt : q < Ws.length
                  · obtain ⟨b, off, rfl, hb, e0, e1, e2, hu1, hu2⟩ := HWU.out.2 q hlt
                    have hb1 : (0 : Int) ≤ (q : Int) := by omega
                    have hb2 : (q : Int) < (Ws.length : Int) := by omega
                    obtain ⟨x, hx⟩ : ∃ x, x = Ws[q] := ⟨_, rfl⟩
                    rw [← hx] at e0 e1 e2 hu1 hu2
                    have c0 := (Below.cell (p := ⟨b, off + q * 3, none⟩) MK.out.bw hb).trans e0
                    have c1 := (Below.cell (p := ⟨b, off + q * 3 + 1, none⟩) MK.out.bw hb).trans e1
                    have c2 := (Below.cell (p := ⟨b, off + q * 3 + 2, none⟩) MK.out.bw hb).trans e2
                    have hbw : b < wr.heap.size := Nat.lt_of_lt_of_le hb MK.out.bw.size
                    have HU1 := hid hu1
                    have HU2 := hid hu2
                    have HX := hid hx
                    clear hu1 hu2 hx e0 e1 e2 hb
                    go_upto_region 22 with fail
                    refine wp_region_W (fun w' => w'.cell? ⟨wr.heap.size, 0, none⟩ = some (.int .u64 x.1) ∧ w'.cell? ⟨wr.heap.size, 1, none⟩ = some (.int .i64 x.2.1) ∧ w'.cell? ⟨wr.heap.size, 2, none⟩ = some (.int .u64 x.2.2) ∧ w'.cell? ⟨b8, 1, none⟩ = some (.slice av4 q cv4)) (fun j => if j == 5 || j == 11 || j == 13 || j == 14 then 0 else if j == 16 then 2 else 1) (by kernel_rfl) ?_
                    refine wpAnyW_take (i := 0) (oi := { dst := some 95, op := Op.fieldAddr 25 (Operand.tmp 8) 1, type := 0, pos := "law.go:223", after := #[], guard := none }) (v := ?_) rfl (by kernel_rfl) (by kernel_rfl) (by kernel_rfl) (by kernel_rfl) (fun _ _ _ h => h) (Or.inl ⟨by rfl, fun w _ => ?_⟩) ?_
                    rotate_left
                    · (go_simp; first | done | with_reducible rfl)
                    try simp only [Act.put, List.setIfInBounds_toArray, List.set_cons_zero, List.set_cons_succ]
                    refine wpAnyW_load (i := 1) (oi := { dst := some 96, op := Op.load 23 (Operand.tmp 95), type := 23, pos := "law.go:223", after := #[{ on := 0, ground := Ground.data }], guard := none }) (v := ?_) rfl (by kernel_rfl) (by kernel_rfl) (by kernel_rfl) (by kernel_rfl) (by kernel_rfl) (fun _ _ _ h => h) (Or.inl ⟨by rfl, fun w hS => ?_⟩) (by refine ⟨?_, ?_, ?_, ?_⟩ <;> (first | (simp [go_sem]; done) | (simp [go_sem, *]; done))) ?_
                    rotate_left
                    · (obtain ⟨hs0, hs1, hs2, hs3⟩ := hS; go_simp; first | done | with_reducible rfl)
                    try simp only [Act.put, List.setIfInBounds_toArray, List.set_cons_zero, List.set_cons_succ]
                    refine wpAnyW_take (i := 2) (oi := { dst := some 97, op := Op.fieldAddr 38 (Operand.tmp 14) 0, type := 0, pos := "law.go:223", after := #[], guard := none }) (v := ?_) rfl (by kernel_rfl) (by kernel_rfl) (by kernel_rfl) (by kernel_rfl) (fun _ _ _ h => h) (Or.inl ⟨by rfl, fun w _ => ?_⟩) ?_
                    rotate_left
                    · (go_simp; first | done | with_reducible rfl)
                    try simp only [Act.put, List.setIfInBounds_toArray, List.set_cons_zero, List.set_cons_succ]
                    refine wpAnyW_load (i := 3) (oi := { dst := some 98, op := Op.load 27 (Operand.tmp 97), type := 27, pos := "law.go:223", after := #[{ on := 2, ground := Ground.data }], guard := none }) (v := ?_) rfl (by kernel_rfl) (by kernel_rfl) (by kernel_rfl) (by kernel_rfl) (by kernel_rfl) (fun _ _ _ h => h) (Or.inl ⟨by rfl, fun w hS => ?_⟩) (by refine ⟨?_, ?_, ?_, ?_⟩ <;> (first | (simp [go_sem]; done) | (simp [go_sem, *]; done))) ?_
                    rotate_left
                    · (obtain ⟨hs0, hs1, hs2, hs3⟩ := hS; go_simp; first | done | with_reducible rfl)
                    try simp only [Act.put, List.setIfInBounds_toArray, List.set_cons_zero, List.set_cons_succ]
                    refine wpAnyW_take (i := 4) (oi := { dst := some 99, op := Op.move (Operand.tmp 7), type := 3, pos := "law.go:223", after := #[], guard := none }) (v := ?_) rfl (by kernel_rfl) (by kernel_rfl) (by kernel_rfl) (by kernel_rfl) (fun _ _ _ h => h) (Or.inl ⟨by rfl, fun w _ => ?_⟩) ?_
                    rotate_left
                    · (go_simp; first | done | with_reducible rfl)
                    try simp only [Act.put, List.setIfInBounds_toArray, List.set_cons_zero, List.set_cons_succ]
                    refine wpAnyW_take (i := 6) (oi := { dst := some 101, op := Op.fieldAddr 38 (Operand.tmp 14) 1, type := 0, pos := "law.go:223", after := #[], guard := none }) (v := ?_) rfl (by kernel_rfl) (by kernel_rfl) (by kernel_rfl) (by kernel_rfl) (fun _ _ _ h => h) (Or.inl ⟨by rfl, fun w _ => ?_⟩) ?_
                    rotate_left
                    · (go_simp; first | done | with_reducible rfl)
                    try simp only [Act.put, List.setIfInBounds_toArray, List.set_cons_zero, List.set_cons_succ]
                    refine wpAnyW_load (i := 7) (oi := { dst := some 102, op := Op.load 3 (Operand.tmp 101), type := 3, pos := "law.go:223", after := #[{ on := 6, ground := Ground.data }], guard := none }) (v := ?_) rfl (by kernel_rfl) (by kernel_rfl) (by kernel_rfl) (by kernel_rfl) (by kernel_rfl) (fun _ _ _ h => h) (Or.inl ⟨by rfl, fun w hS => ?_⟩) (by refine ⟨?_, ?_, ?_, ?_⟩ <;> (first | (simp [go_sem]; done) | (simp [go_sem, *]; done))) ?_
                    rotate_left
                    · (obtain ⟨hs0, hs1, hs2, hs3⟩ := hS; go_simp; first | done | with_reducible rfl)
                    try simp only [Act.put, List.setIfInBounds_toArray, List.set_cons_zero, List.set_cons_succ]
                    refine wpAnyW_take (i := 8) (oi := { dst := some 103, op := Op.fieldAddr 38 (Operand.tmp 14) 2, type := 0, pos := "law.go:223", after := #[], guard := none }) (v := ?_) rfl (by kernel_rfl) (by kernel_rfl) (by kernel_rfl) (by kernel_rfl) (fun _ _ _ h => h) (Or.inl ⟨by rfl, fun w _ => ?_⟩) ?_
                    rotate_left
                    · (go_simp; first | done | with_reducible rfl)
                    try simp only [Act.put, List.setIfInBounds_toArray, List.set_cons_zero, List.set_cons_succ]
                    refine wpAnyW_load (i := 9) (oi := { dst := some 104, op := Op.load 27 (Operand.tmp 103), type := 27, pos := "law.go:223", after := #[{ on := 8, ground := Ground.data }], guard := none }) (v := ?_) rfl (by kernel_rfl) (by kernel_rfl) (by kernel_rfl) (by kernel_rfl) (by kernel_rfl) (fun _ _ _ h => h) (Or.inl ⟨by rfl, fun w hS => ?_⟩) (by refine ⟨?_, ?_, ?_, ?_⟩ <;> (first | (simp [go_sem]; done) | (simp [go_sem, *]; done))) ?_
                    rotate_left
                    · (obtain ⟨hs0, hs1, hs2, hs3⟩ := hS; go_simp; first | done | with_reducible rfl)
                    try simp only [Act.put, List.setIfInBounds_toArray, List.set_cons_zero, List.set_cons_succ]
                    refine wpAnyW_take (i := 10) (oi := { dst := some 105, op := Op.move (Operand.tmp 7), type := 3, pos := "law.go:223", after := #[], guard := none }) (v := ?_) rfl (by kernel_rfl) (by kernel_rfl) (by kernel_rfl) (by kernel_rfl) (fun _ _ _ h => h) (Or.inl ⟨by rfl, fun w _ => ?_⟩) ?_
                    rotate_left
                    · (go_simp; first | done | with_reducible rfl)
                    try simp only [Act.put, List.setIfInBounds_toArray, List.set_cons_zero, List.set_cons_succ]
                    refine wpAnyW_ready (rs := [5]) (by kernel_rfl) (by simp) ?_
                    refine (AllReadyW.cons (o := { dst := some 100, op := Op.call { callee := Callee.value (Operand.func 8), args := #[Operand.tmp 98, Operand.tmp 99], argTypes := #[27, 3] }, type := 27, pos := "law.go:223", after := #[{ on := 3, ground := Ground.data }, { on := 4, ground := Ground.data }], guard := none }) rfl (fun K hK => ?_) AllReadyW.nil)
                    go_simp
                    refine (moved_any k hn19 _ HU1.out _).mono ?_
                    rintro e w' ⟨rfl, hw'⟩
                    subst w'
                    refine hK.out _ _ (by refine ⟨?_, ?_, ?_, ?_⟩ <;> (first | (simp [go_sem]; done) | (simp [go_sem, *]; done))) ?_
                    clear hK K
                    try simp only [Act.put, List.setIfInBounds_toArray, List.set_cons_zero, List.set_cons_succ]
                    refine wpAnyW_ready (rs := [11]) (by kernel_rfl) (by simp) ?_
                    refine (AllReadyW.cons (o := { dst := some 106, op := Op.call { callee := Callee.value (Operand.func 8), args := #[Operand.tmp 104, Operand.tmp 105], argTypes := #[27, 3] }, type := 27, pos := "law.go:223", after := #[{ on := 9, ground := Ground.data }, { on := 10, ground := Ground.data }, { on := 5, ground := Ground.chain }], guard := none }) rfl (fun K hK => ?_) AllReadyW.nil)
                    go_simp
                    refine (moved_any k hn19 _ HU2.out _).mono ?_
                    rintro e w' ⟨rfl, hw'⟩
                    subst w'
                    refine hK.out _ _ (by refine ⟨?_, ?_, ?_, ?_⟩ <;> (first | (simp [go_sem]; done) | (simp [go_sem, *]; done))) ?_
                    clear hK K
                    try simp only [Act.put, List.setIfInBounds_toArray, List.set_cons_zero, List.set_cons_succ]
                    refine wpAnyW_take (i := 12) (oi := { dst := some 107, op := Op.build 38 #[(0, Operand.tmp 100), (1, Operand.tmp 102), (2, Operand.tmp 106)], type := 38, pos := "law.go:223", after := #[{ on := 5, ground := Ground.data }, { on := 7, ground := Ground.data }, { on := 11, ground := Ground.data }], guard := none }) (v := ?_) rfl (by kernel_rfl) (by kernel_rfl) (by kernel_rfl) (by kernel_rfl) (fun _ _ _ h => h) (Or.inl ⟨by rfl, fun w _ => ?_⟩) ?_
                    rotate_left
                    · (go_simp; first | done | with_reducible rfl)
                    try simp only [Act.put, List.setIfInBounds_toArray, List.set_cons_zero, List.set_cons_succ]
                    refine wpAnyW_ready (rs := [13]) (by kernel_rfl) (by simp) ?_
                    refine (AllReadyW.cons (o := { dst := some 108, op := Op.buildSlice 23 1 #[(0, Operand.tmp 107)], type := 23, pos := "law.go:223", after := #[{ on := 12, ground := Ground.data }], guard := none }) rfl (fun K hK => ?_) AllReadyW.nil)
                    go_simp
                    refine hK.out _ _ (by refine ⟨?_, ?_, ?_, ?_⟩ <;> (first | (simp [go_sem]; done) | (simp [go_sem, *]; done))) ?_
                    clear hK K
                    try simp only [Act.put, List.setIfInBounds_toArray, List.set_cons_zero, List.set_cons_succ]
                    refine wpAnyW_ready (rs := [14]) (by kernel_rfl) (by simp) ?_
                    refine (AllReadyW.cons (o := { dst := some 109, op := Op.call { callee := Callee.builtin Builtin.append, args := #[Operand.tmp 96, Operand.tmp 108], argTypes := #[23, 23] }, type := 23, pos := "law.go:223", after := #[{ on := 1, ground := Ground.data }, { on := 13, ground := Ground.data }, { on := 11, ground := Ground.chain }], guard := none }) rfl (fun K hK => ?_) AllReadyW.nil)
                    refine step_append_sl (G := fun _ => True) (by rfl) (.tmp 96) (.tmp 108) 23 (by rfl) (b8 + 1) 38 i4 _ 3 24 Tryz.underlying23 I4.out.1 I4.out.2.1 I4.out.2.2.1 I4.out.2.2.2 (by rfl) (by decide) (.slice av4 q cv4) q (wcells ((Ws.take q).map (mvW k))) (by rfl) (own_bw RO.out (by repeat (first | exact Bw.refl _ | apply Bw.alloc | apply Bw.drew | apply Bw.drewN | apply Bw.lay))) _ 1 [.int .u64 (mv k x.1), .int .i64 x.2.1, .int .u64 (mv k x.2.2)] (by rfl) (by first | exact (sl_new3 _ _ 38 rfl _ (by simp)).below (Bw.drew (Bw.refl _)) | exact sl_new3 _ _ 38 rfl _ (by simp)) (three_one _ _ _) (by unfold maxLen; omega) (by omega) (by first | (simp; done) | (simp; omega)) ?_
                    intro v6 w6 how hgr
                    obtain ⟨a6, c6, rfl⟩ := own_form how
                    have P6 := MS.entry (y := mvW k x) (MK.out.on (by repeat (first | exact Bw.refl _ | apply Bw.alloc | apply Bw.drew | apply Bw.drewN | apply Bw.lay))) (by rw [HL.out]; exact how) hgr
                    have K6 := hid P6
                    have z6 := P6.1.cell
                    have z6f := P6.1.free
                    have hs6 := P6.1.lt
                    have bx6 := (show Blk _ wr.heap.size #[.int .u64 x.1, .int .i64 x.2.1, .int .u64 x.2.2] 38 from by repeat (first | exact Blk.new wr _ _ | apply Blk.alloc | apply Blk.drew | apply Blk.drewN)).keep (hgr.block _ (by first | (simp; done) | (simp; omega)) (fun e => by have := own_lt RO.out e.symm; omega))
                    refine hK.out _ _ ⟨bx6.cell 0, bx6.cell 1, bx6.cell 2, z6 1⟩ ?_
                    clear hK K bx6 z zf how hgr P6
                    try simp only [Act.put, List.setIfInBounds_toArray, List.set_cons_zero, List.set_cons_succ]
                    refine wpAnyW_take (i := 15) (oi := { dst := some 110, op := Op.fieldAddr 25 (Operand.tmp 8) 1, type := 0, pos := "law.go:223", after := #[{ on := 0, ground := Ground.phase }, { on := 1, ground := Ground.phase }, { on := 2, ground := Ground.phase }, { on := 3, ground := Ground.phase }, { on := 4, ground := Ground.phase }, { on := 5, ground := Ground.phase }, { on := 6, ground := Ground.phase }, { on := 7, ground := Ground.phase }, { on := 8, ground := Ground.phase }, { on := 9, ground := Ground.phase }, { on := 10, ground := Ground.phase }, { on := 11, ground := Ground.phase }, { on := 12, ground := Ground.phase }, { on := 13, ground := Ground.phase }, { on := 14, ground := Ground.phase }], guard := none }) (v := ?_) rfl (by kernel_rfl) (by kernel_rfl) (by kernel_rfl) (by kernel_rfl) (fun _ _ _ h => h) (Or.inl ⟨by rfl, fun w _ => ?_⟩) ?_
                    rotate_left
                    · (go_simp; first | done | with_reducible rfl)
                    try simp only [Act.put, List.setIfInBounds_toArray, List.set_cons_zero, List.set_cons_succ]
                    refine wpAnyW_ready (rs := [16]) (by kernel_rfl) (by simp) ?_
                    refine (AllReadyW.cons (o := { dst := none, op := Op.store 23 (Operand.tmp 110) (Operand.tmp 109), type := 0, pos := "law.go:223", after := #[{ on := 15, ground := Ground.data }, { on := 14, ground := Ground.data }, { on := 14, ground := Ground.chain }, { on := 0, ground := Ground.phase }, { on := 1, ground := Ground.phase }, { on := 2, ground := Ground.phase }, { on := 3, ground := Ground.phase }, { on := 4, ground := Ground.phase }, { on := 5, ground := Ground.phase }, { on := 6, ground := Ground.phase }, { on := 7, ground := Ground.phase }, { on := 8, ground := Ground.phase }, { on := 9, ground := Ground.phase }, { on := 10, ground := Ground.phase }, { on := 11, ground := Ground.phase }, { on := 12, ground := Ground.phase }, { on := 13, ground := Ground.phase }, { on := 14, ground := Ground.phase }], guard := none }) rfl (fun K hK => ?_) AllReadyW.nil)
                    go_simp
                    refine hK.out _ _ trivial ?_
                    clear hK K
                    try simp only [Act.put, List.setIfInBounds_toArray, List.set_cons_zero, List.set_cons_succ]
                    refine wpAnyW_done (by kernel_rfl) ?_ _
                    all_goals go_wp2
                    all_goals
                      refine ⟨⟨q + 1, hlt, by simp, .slice a6 (q + 1) c6, ?_⟩, by simp [intOf]; omega⟩
                      rw [List.take_succ_eq_append_getElem hlt, List.map_append, ← HX.out]
                      exact K6.out.2
                  · obtain rfl : q = Ws.length := by omega
                    have hml : Ms.length = k + Os.length := by rw [HMS.out]; simp
                    have hxl : (Ws.map (mvW k)).length = Ws.length := by simp
                    have hxu : ∀ y ∈ Ws.map (mvW k), U y.1 ∧ U y.2.2 := by
                      intro y hy
                      obtain ⟨x, hx, rfl⟩ := List.mem_map.1 hy
                      obtain ⟨i, hi, rfl⟩ := List.getElem_of_mem hx
                      obtain ⟨b, off, e, hb, e0, e1, e2, hu1, hu2⟩ := HWU.out.2 i hi
                      exact ⟨mv_U hn19 hu1, mv_U hn19 hu2⟩
                    have hos : ∀ o ∈ Ms, ((∀ x ∈ o.vals, U x) ∧ (∀ x ∈ o.bytes, 0 ≤ x ∧ x ≤ 255) ∧ o.bytes.length ≤ 1000 ∧ o.vals.length ≤ 1000 ∧ o.keys.length ≤ 1000) ∧ (-9223372036854775808 ≤ o.num ∧ o.num ≤ 9223372036854775807) ∧ U o.re ∧ U o.im ∧ ∀ s ∈ o.keys, s.size ≤ 1000000000 := by
                      intro o ho
                      rw [HMS.out] at ho
                      rcases List.mem_append.1 ho with ho | ho
                      · obtain ⟨i, hi, rfl⟩ := List.mem_map.1 ho
                        have hi' : i < k := by simpa using hi
                        refine ⟨⟨fun x hx => by simp [cob, AObj.vals] at hx, fun x hx => by simp [cob, AObj.bytes] at hx, by simp [cob, AObj.bytes], by simp [cob, AObj.vals], by simp [cob, AObj.keys]⟩, by simp [cob, AObj.num], ?_, ?_, fun s hs => by simp [cob, AObj.keys] at hs⟩
                        · show U (i : Int)
                          unfold U; omega
                        · show U 0
                          unfold U; omega
                      · obtain ⟨p, hp, rfl⟩ := List.mem_map.1 ho
                        have hg := big_no ((much_no4 HMW.out).2.2 _ hp)
                        obtain ⟨i, hi, rfl⟩ := List.getElem_of_mem hp
                        obtain ⟨b, off, x, e, hlt, hc, hou⟩ := HWU.out.1 i hi
                        refine ⟨⟨fun x hx => ?_, hou.b, (show Os[i].bytes.length ≤ 1000 by omega), (show (Os[i].vals.map (mv k)).length ≤ 1000 by rw [List.length_map]; omega), (show Os[i].keys.length ≤ 1000 by omega)⟩, hou.nn, hou.nr, hou.ni, fun s hs => by have := hg.2.2.2 s hs; omega⟩
                        obtain ⟨y, hy, rfl⟩ := List.mem_map.1 (show x ∈ Os[i].vals.map (mv k) from hx)
                        exact mv_U hn19 (hou.u y hy)
                    have hwr : WR wr av av4 Ms (Ws.map (mvW k)) := by
                      have h5 := MK.out
                      rw [List.take_length] at h5
                      obtain ⟨ao', co', aw', cw', e1, e2, h6⟩ := h5.wr (fun o ho => (hos o ho).1) hxu
                      simp only [Value.slice.injEq] at e1 e2
                      obtain ⟨rfl, _, rfl⟩ := e1
                      obtain ⟨rfl, _, rfl⟩ := e2
                      exact h6
                    have hsn' : Sane (madeH Ms (Ws.map (mvW k))) := foldl_saneW _ _ (fun y hy => (hxu y hy).1) (foldl_sane Ms _ (fun o ho => (hos o ho).2) (fun o ho => by simp at ho))
                    have hmv : Mvd k (madeH Os Ws) (madeH Ms (Ws.map (mvW k))) := by rw [HMS.out]; exact made_mv hn19 Os Ws O30 HWU.out.us
                    have HM2 : Hid (∀ w1, Bw wr w1 → Calls Tryz.prog 9 #[.agg #[.slice av (k + Os.length) cv, .slice av4 Ws.length cv4]] w1 fun e w' => ∃ b0 bs ar cr, e = .returned (.tuple #[.pointer (some ⟨b0, 0, none⟩), .agg #[.int .i64 (madeH Ms (Ws.map (mvW k))).1, .slice ar (madeH Ms (Ws.map (mvW k))).2.length cr]]) ∧ HS w' b0 (madeH Ms (Ws.map (mvW k))) bs ∧ Bw w1 w') := hid (fun w1 hb => by
                      have h7 := made_any av av4 cv cv4 Ms (Ws.map (mvW k)) w1 (hwr.bw hb) (by omega) (by omega)
                      rw [hml, hxl] at h7
                      refine h7.mono fun e w' ⟨b0, bs, va, he, hs, hr, hb', hl⟩ => ?_
                      obtain ⟨ar, cr, ev⟩ := hr.parts
                      have ev' : va = .slice ar (madeH Ms (Ws.map (mvW k))).2.length cr := by simpa using ev
                      subst ev'
                      exact ⟨b0, bs, ar, cr, he, hs, hb'⟩)
                    have HSN' := hid hsn'
                    have HMV := hid hmv
                    have hlen := hmv.len
                    clear hsn' hmv hwr hos hxu hxl hml
                    generalize madeH Ms (Ws.map (mvW k)) = H' at HSN' HMV HM2 hlen
                    generalize madeH Os Ws = H at HSN HMV HMD H100 hlen
                    have h100 : H.2.length ≤ 100 := H100.out
                    go_upto_region 24 with (first
                      | (go_at_call 9; refine (HMD.out _ (by repeat (first | exact MK.out.bw | apply Bw.lay | apply Bw.alloc | apply Bw.drewN | apply Bw.drew))).mono ?_; rintro e w2 ⟨b0, bs, ar, cr, rfl, hs2, hr2, hb2, hl2⟩; have B2 := hid (Bw.trans (a := wr) (by repeat (first | exact Bw.refl _ | apply Bw.lay | apply Bw.alloc | apply Bw.drewN | apply Bw.drew)) hb2); have S2 := hid hs2; have R2 := hid hr2; have zz := (MK.out.k.bw B2.out).cell; have zl := (MK.out.k.bw B2.out).lt; clear hb2 hs2 hr2 hl2 z zf y3)
                      | fail)
                    clear HMD
                    go_upto_region 25 with (first
                      | (go_at_call 9; refine (HM2.out _ (by repeat (first | exact B2.out | apply Bw.lay | apply Bw.alloc | apply Bw.drewN | apply Bw.drew))).mono ?_; rintro e w4 ⟨b4, bs4, ar4, cr4, rfl, hs4, hb4⟩; have B4 := hid hb4; have S4 := hid hs4; clear hb4 hs4 zz zl)
                      | fail)
                    obtain ⟨w5, hw5⟩ : ∃ w5, w5 = w4.alloc (.cells #[.int .i64 H'.1, .slice ar4 (H.2.length + k) cr4] 41) := ⟨_, rfl⟩
                    rw [← hw5]
                    have B25 : Hid (Bw w2 w5) := (by rw [hw5]; exact hid (Bw.alloc (Bw.trans (Bw.alloc (Bw.refl _) _) B4.out) _))
                    have B5 : Hid (Bw w w5) := hid (Bw.trans MK.out.bw (Bw.trans B2.out B25.out))
                    have HOK5 := hid S2.out.ok
                    have S5 : Hid (HS w5 b0 H bs) := hid (S2.out.bw B25.out)
                    have R5 : Hid (RdH w5 (fun b => b ∉ bs) (.agg #[.int .i64 H.1, .slice ar H.2.length cr]) H) := hid (R2.out.below B25.out)
                    have T5 : Hid (HS w5 b4 H' bs4) := (by rw [hw5]; exact hid (S4.out.bw (Bw.alloc (Bw.refl _) _)))
                    have k16 : Blk w5 w2.heap.size #[.int .i64 H.1, .slice ar H.2.length cr] 41 := (by rw [hw5]; exact ((Blk.new w2 _ _).bw B4.out).alloc _)
                    have k18 : Blk w5 w4.heap.size #[.int .i64 H'.1, .slice ar4 (H.2.length + k) cr4] 41 := (by rw [hw5]; exact Blk.new _ _ _)
                    have v0 : w5.cell? ⟨w2.heap.size, 0, none⟩ = some (.int .i64 H.1) := k16.cell 0
                    have v1 : w5.cell? ⟨w2.heap.size, 1, none⟩ = some (.slice ar H.2.length cr) := k16.cell 1
                    have v2 : w5.cell? ⟨w4.heap.size, 1, none⟩ = some (.slice ar4 (H.2.length + k) cr4) := k18.cell 1
                    have hl100 : H.2.length + k ≤ 119 := by omega
                    generalize w2.heap.size = p16 at v0 v1 ⊢
                    generalize w4.heap.size = p18 at v2 ⊢
                    have hK := hid (fun w1 (hb : Bw w5 w1) => rkindH_any _ _ H a HA.out w1 (R5.out.below hb) (by omega))
                    clear hw5 k16 k18 S2 R2 S4 B4 B2 B25 MK HM2 HMW HWU RO HL HMS I1 I4 hsz hs3
                    have etx : txt H' (mv k a) = txt H a := txt_mv hn19 HMV.out HOK5.out HA.out
                    have esh : shownS H' (mv k a) = shownS H a := by unfold shownS shown; rw [etx]
                    have hT := hid (fun w1 (hb : Bw w5 w1) => text_str HSN.out a HA.out w1 (HPD.out.bw (B5.out.trans hb)) (S5.out.bw hb))
                    have hT2 := hid (fun w1 (hb : Bw w5 w1) => text_str HSN'.out (mv k a) (mv_U hn19 HA.out) w1 (HPD.out.bw (B5.out.trans hb)) (T5.out.bw hb))
                    rw [etx, esh] at hT2
                    clear etx esh hlen HMV HSN HSN' HOK5 S5 T5 R5 HPD
                    generalize (if fits [] (txt H a) = true then (0 : Int) else 2) = nn at hT hT2
                    generalize shownS H a = zs at hT hT2
                    by_cases hk0 : kk H a = 0
                    · rw [hk0] at hK
                      clear hT hT2
                      go_wp2_with (first
                        | (go_at_call 10; refine (hK.out _ (by repeat (first | exact Bw.refl _ | apply Bw.lay | apply Bw.alloc | apply Bw.drewN | apply Bw.drew))).mono ?_; rintro e w6 ⟨rfl, os6, n6, rfl⟩)
                        | (go_at_call 6; refine (live4_any _).mono ?_; rintro e wl ⟨rfl, hbl⟩; have BL := hid (Bw.trans B5.out (Bw.trans (by repeat (first | exact Bw.refl _ | apply Bw.lay | apply Bw.alloc | apply Bw.drewN | apply Bw.drew)) hbl)); clear hbl)
                        | fail)
                      all_goals go_ret
                      all_goals exact ⟨rfl, BL.out⟩
                    · generalize kk H a = kq at hK hk0
                      go_wp2_with (first
                        | (go_at_call 10; refine (hK.out _ (by repeat (first | exact Bw.refl _ | apply Bw.lay | apply Bw.alloc | apply Bw.drewN | apply Bw.drew))).mono ?_; rintro e w6 ⟨rfl, os6, n6, rfl⟩)
                        | (go_at_call_of 11 (Value.int .u64 a); refine (hT.out _ (by repeat (first | exact Bw.refl _ | apply Bw.lay | apply Bw.alloc | apply Bw.drewN | apply Bw.drew))).mono ?_; rintro e w7 ⟨r7, rfl, hc7, hb7⟩; have B7 := hid (Bw.trans (a := w5) (by repeat (first | exact Bw.refl _ | apply Bw.lay | apply Bw.alloc | apply Bw.drewN | apply Bw.drew)) hb7); have C7 := hid hc7; clear hb7 hc7)
                        | (go_at_call 8; refine (moved_any k hn19 a HA.out _).mono ?_; rintro e w' ⟨rfl, hw'⟩; subst w')
                        | (go_at_call 11; refine (hT2.out _ B7.out).mono ?_; rintro e w8 ⟨r8, rfl, hc8, hb8⟩; have B8 := hid (Bw.trans B7.out hb8); have q7 : (convert 30 9 r7).run Tryz.prog w8 = .ok (.string zs) w8 := C7.out _ hb8; have q8 : (convert 30 9 r8).run Tryz.prog w8 = .ok (.string zs) w8 := hc8 _ (Bw.refl _); clear hb8 hc8)
                        | (go_at_call 12; refine (lnum_any _ _).mono ?_; rintro e w' ⟨rfl, hw'⟩; subst w')
                        | (go_at_call 6; refine (live4_any _).mono ?_; rintro e wl ⟨rfl, hbl⟩; have BL := hid (Bw.trans B5.out (Bw.trans B8.out hbl)); clear hbl)
                        | fail)
                      all_goals go_ret
                      all_goals exact ⟨rfl, BL.out⟩
      · clear HMD
        go_wp2_with (first
          | (go_at_call 6; refine (live4_any _).mono ?_; rintro e wl ⟨rfl, hbl⟩; have BL := hid (Bw.trans B1.out hbl); clear hbl)
          | fail)
        all_goals go_ret
        all_goals exact ⟨rfl, BL.out⟩

theorem walk (ao0 aw0 : Option Addr) (co0 cw0 : Nat) (Os0 : List AObj) (Ws0 : List (Int × Int × Int)) (mo0 : Os0.length ≤ maxLen) (mw0 : Ws0.length ≤ maxLen) (a1 : Int) (w1 : 0 ≤ a1 ∧ a1 ≤ 255) (a2 : Int) (w2 : U a2) (w : World) (hpd : Pd w) (wu0 : WU w ao0 aw0 Os0 Ws0) :
    Calls Tryz.prog 3 #[.agg #[.slice ao0 Os0.length co0, .slice aw0 Ws0.length cw0], .int .u8 a1, .int .u64 a2] w fun e w' => e = .returned (.bool true) ∧ Bw w w' := by
  exact core ao0 aw0 co0 cw0 Os0 Ws0 mo0 mw0 a1 w1 a2 w2 w hpd wu0

set_option maxRecDepth 100000 in
theorem lifted (os : Os) (started : os.Started) (H : Type) (enc : TypeId × Value → H) :
    ReturnsInHanded {} Tryz.checked os 3 .any (fun w args => (Rows.showMovesSpec.pre enc Tryz.prog Tryz.f3 [] false w args ∧ laidMetH Tryz.prog laidS w) ∧ sizedMet enc Tryz.prog Tryz.f3 (OpenSpec.ofChange Rows.showMovesSpec) false w args)
      (Rows.showMovesSpec.post enc Tryz.prog Tryz.f3 false true false false) := by
  refine returnsInHanded_of_change_and (C := Tryz.checked) (X := fun w _ => laidMetH Tryz.prog laidS w) (fun _ _ _ hh h => h.of_heap hh) ownK started (by kernel_rfl) Tryz.func3
    (ChangeSpec.witness_shaped (enc := enc) (C := Tryz.checked) (os := os) (X := fun w _ => laidMetH Tryz.prog laidS w) false (World.doorLaid Tryz.prog 400 os) #[.agg #[.slice none 0 0, .slice none 0 0], .int .u8 0, .int .u64 0] 8 rfl (World.shaped_of_RefB (by kernel_rfl) (by kernel_rfl)) (by kernel_rfl) (by kernel_rfl) (by kernel_rfl) (door_met os _)) ?_
  intro W base args ds gs before hval0 hW _ _ hL _
  have hval : ∀ (j : Nat) t v, Tryz.f3.params[j]? = some t → args[j]? = some v → Value.okWide Tryz.prog W .any base t v := hval0
  have hW' := hW
  obtain ⟨p, q, hA0, hV, rfl, hfz, hnd⟩ := hW
  have hA : DataW.TrodAll enc Tryz.prog W 0 (fun _ => true) true Tryz.f3.params.toList args.toList ds p := hA0
  rw [Tryz.params3] at hA hval
  obtain ⟨v0, vs0, d0, ds0, p0, q0, hargs, rfl, rfl, h0, r0⟩ := trodAll_cons hA
  obtain ⟨v1, vs1, d1, ds1, p1, q1, rfl, rfl, rfl, h1, r1⟩ := trodAll_cons r0
  obtain ⟨v2, vs2, d2, ds2, p2, q2, rfl, rfl, rfl, h2, r2⟩ := trodAll_cons r1
  obtain ⟨rfl, rfl, rfl⟩ := trodAll_nil r2
  obtain rfl : args = #[v0, v1, v2] := by cases args; simp_all
  obtain ⟨rfl, rfl⟩ := trodVars_none hV
  have k0 := h0
  have lt0 : ∀ x ∈ p0, x.block < W.heap.size := by obtain ⟨m, hm⟩ := k0; exact DataW.trod_lt m _ _ _ hm
  have k1 := h1
  have lt1 : ∀ x ∈ p1, x.block < W.heap.size := by obtain ⟨m, hm⟩ := k1; exact DataW.trod_lt m _ _ _ hm
  have k2 := h2
  have lt2 : ∀ x ∈ p2, x.block < W.heap.size := by obtain ⟨m, hm⟩ := k2; exact DataW.trod_lt m _ _ _ hm
  obtain ⟨ao0, aw0, co0, cw0, Os0, Ws0, e0, mo0, mw0, wu0⟩ := open_world (hval 0 25 v0 rfl rfl) h0
  subst e0
  obtain ⟨a1, rfl, rfl, rfl, w10⟩ := open_int Tryz.underlying5 (hval 1 5 v1 rfl rfl) h1
  have w1 : 0 ≤ a1 ∧ a1 ≤ 255 := by have := bounds_u8 w10; omega
  obtain ⟨a2, rfl, rfl, rfl, w20⟩ := open_int Tryz.underlying27 (hval 2 27 v2 rfl rfl) h2
  have w2 : U a2 := by have := bounds_u64 w20; unfold U; omega
  clear hA0 hval0
  refine (walk ao0 aw0 co0 cw0 Os0 Ws0 mo0 mw0 a1 w1 a2 w2 W (pd_of_laid hL) wu0).mono fun e W' ⟨he, bel⟩ => ?_
  subst he
  exact ⟨_, rfl, _, _, _, [], _, [], hW', trodAll_mk1 (shut_bool Tryz.underlying4 _), (trodAll_cons_mk (Below.trod laidOut (by kernel_rfl) (of_decide_eq_true (by kernel_rfl)) k0 bel lt0) (trodAll_cons_mk (Below.trod laidOut (by kernel_rfl) (of_decide_eq_true (by kernel_rfl)) k1 bel lt1) (trodAll_cons_mk (Below.trod laidOut (by kernel_rfl) (of_decide_eq_true (by kernel_rfl)) k2 bel lt2) trodAll_mk0))), rfl, Below.frame bel _, fun h => by cases h⟩

theorem over : Rows.showMovesRow.holds Tryz.pinned (OpenSpec.ofChange Rows.showMovesSpec) :=
  OpenClaim.holds_of_wide 3 Tryz.f3 rfl rfl rfl rfl rfl rfl rfl ⟨rfl, rfl, rfl, rfl, rfl⟩ rfl rfl rfl rfl rfl (by kernel_rfl) Tryz.func3 (by kernel_rfl)
    (of_decide_eq_true (by kernel_rfl)) (by unfold Func.isWrapper; first | (rw [if_pos (by decide +kernel)]; kernel_rfl) | (rw [if_neg (by decide +kernel)]; exact ⟨rfl, rfl⟩))
    (fun os started H enc _ => lifted os started H enc)

theorem card : Rows.ShowMovesCardSaid :=
  Claim7.holds_tied_plain_at .later [] [.data, .data, .data] true (true, "eed8ee929e5cd5e591cfb39a3c4e373f59a2887dbf71f9e10a8d075ca982713f") false
    over (fun _ h => by cases h) (by kernel_rfl) (fun _ h => by cases h) showMoves_row_tie rfl ⟨rfl, rfl⟩ (by kernel_rfl) rfl
    (fun f fn hf hfn => by
      obtain rfl : f = 3 := Option.some.inj ((show Tryz.prog.funcNamed "jacquard/jacquardlaw04.ShowMoves" = some 3 by kernel_rfl).symm.trans hf) |>.symm
      obtain rfl : fn = Tryz.f3 := (Option.some.inj (Tryz.func3.symm.trans hfn)).symm
      exact ⟨by kernel_rfl, fun j t ht => by
        rw [Tryz.params3] at ht
        have hm : t ∈ [5, 25, 27] := by have h9 := Array.mem_of_getElem? ht; simp at h9 ⊢; first | exact h9 | (rcases h9 with h9 | h9 <;> simp [h9]; done) | (rcases h9 with h9 | h9 | h9 <;> simp [h9]; done) | (rcases h9 with h9 | h9 | h9 | h9 <;> simp [h9]; done)
        have hall : ([5, 25, 27].all fun u => !Tryz.prog.wantsStandIn u) = true := by kernel_rfl
        exact (show Tryz.prog.wantsStandIn t = false by simpa using List.all_eq_true.1 hall t hm)⟩)
    (by kernel_rfl)
end Go.Proofs.YtimidonagbfjcaaGreatDoor.showMoves
namespace Go.Proofs.YtimidonagbfjcaaGreatDoor
theorem showMoves_holds : Rows.ShowMovesCardSaid := showMoves.card
#print axioms showMoves_holds
end Go.Proofs.YtimidonagbfjcaaGreatDoor

