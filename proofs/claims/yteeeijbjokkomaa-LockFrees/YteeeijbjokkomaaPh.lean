/- wake: a contract. -/
import Derived.Test.YteeeijbjokkomaaPg
set_option linter.unusedSimpArgs false
set_option linter.unusedVariables false
namespace Go.Proofs.Yteeeijbjokkomaa
open Go Go.RowKit

theorem own_of_blk {w : World} {g base n : Nat} {cur : Array Value} {e : TypeId} (hb : Blk w g cur e) (hsz : cur.size = n) (hn : n ≤ maxLen) (hg : base ≤ g) : w.ownsRow base e 1 (.slice (some ⟨g, 0, none⟩) n n) n cur.toList :=
  ⟨by simp [hsz], .inr ⟨g, n, cur, rfl, hg, hb, Nat.le_refl _, hn, by omega, by rw [Nat.mul_one, ← hsz, ← Array.length_toList, List.take_length]⟩⟩

theorem underIs : Try.prog.underlying 41 = some (.slice 3) := by kernel_rfl
/-- A row of numbers made. -/
theorem made_i (n : Nat) (h : n ≤ 1024) : ∃ cur : Array Value, (∀ w : World, (Instr.makeSlice 41 (.int .i64 n) (.int .i64 n)).run Try.prog w = .ok (.slice (some ⟨w.heap.size, 0, none⟩) n n) (w.alloc (.cells cur 3))) ∧ cur.size = n := by
  obtain ⟨i, hi, e⟩ := Option.map_eq_some_iff.1 infoI
  simp only [Prod.mk.injEq] at e
  refine ⟨madeCells #[.int .i64 0] n, fun w => ?_, size_madeCells _ _⟩
  have := run_makeSlice (P := Try.prog) (w := w) 41 3 i _ underIs hi e.1 .i64 .i64 (n : Int) (n : Int) (by omega) (by omega) (by rw [e.2.1]; omega) (by rw [e.2.2]; omega) (by omega)
  rw [this, e.2.1]
  simp [Value.cells]

theorem PS.nx {w w' : World} {p : Nat} {bs bs' : List Nat} {mv wv kv : Value} {R : List MM} {A : LL} (h : PS w p bs mv wv kv R A) {b : Nat} (hb : b < w.heap.size) (hn : b ∉ bs) (k : Nx bs w w' bs') : b ∉ bs' := fun hm => by
  rcases k.new b hm with h1 | h1
  · exact hn h1
  · omega

section
variable {w : World} {p : Nat} {bs : List Nat} {mv wv kv : Value} {R : List MM} {A : LL}

set_option maxRecDepth 100000 in
set_option maxHeartbeats 2000000 in
theorem wake_any (h : PS w p bs mv wv kv R A) (v : Value) (l : List WW) (told : Bool) (hs : Sl w (fun b => b ∉ bs) v l.length 4 (l.flatMap wC)) (ok : ∀ x ∈ l, okW A.M.length x) (big : A.W.length + A.K.length + l.length ≤ 1000) :
    Calls Try.prog 41 #[.pointer (some ⟨p, 0, none⟩), v, .bool told] w fun e w' => ∃ r bs', e = .returned r ∧ w'.ownsRow w.heap.size 3 1 r l.length (l.map (fun x => Value.int .i64 x.t)) ∧ PX w' p bs' { A with K := A.K ++ l.map (fun x => (x, told)) } ∧ Nx bs w w' bs' ∧ ∀ b, r.ownBlock = some b → b ∉ bs' := by
  obtain ⟨a, c, rfl⟩ := hs.form
  obtain ⟨am, cm, rfl⟩ := own_form h.rm
  obtain ⟨aw, cw, rfl⟩ := own_form h.rw
  obtain ⟨CI, mi, b1⟩ := made_i l.length (by omega)
  have HS := hid hs
  have HP := hid h
  have HOW := hid ok
  have HC1 := hid b1
  obtain ⟨i2, hi2, hz2, hs2, hy2⟩ := info_parts infoWk
  have I2 := hid (And.intro hi2 (And.intro hz2 (And.intro hs2 hy2)))
  clear h hs ok b1 hi2 hz2 hs2 hy2
  go_enter Try.func41, Try.ntmps41
  go_wp2
  go_loopw [8, 9, 15] (fun _ _ j wr => ∃ (k : Nat) (bs' : List Nat) (ak : Option Addr) (ck : Nat) (cur : Array Value), k ≤ l.length ∧ j = .int .i64 k ∧ PS wr p bs' (.slice am R.length cm) (.slice aw A.W.length cw) (.slice ak (A.K.length + k) ck) R { A with K := A.K ++ (l.take k).map (fun x => (x, told)) } ∧ Nx bs w wr bs' ∧ w.heap.size ∉ bs' ∧ Blk wr w.heap.size cur 3 ∧ cur.size = l.length ∧ ∀ (i : Nat) (hi : i < l.length), i < k → cur[i]? = some (.int .i64 l[i].t)) (fun _ _ j _ => l.length - (intOf j).toNat)
  case atStart =>
    obtain ⟨ak, ck, rfl⟩ := own_form HP.out.rk
    exact ⟨0, bs, ak, ck, CI, by omega, rfl, by simpa using HP.out.bw (Bw.alloc (Bw.refl w) _), Nx.of_bw (Bw.alloc (Bw.refl w) _), (fun hm => by have := HP.out.lt _ hm; omega), Blk.new w _ _, HC1.out, fun i _ h => absurd h (Nat.not_lt_zero i)⟩
  case round =>
    obtain ⟨k, bs', ak, ck, cur, hk, rfl, hps, hnx, hng, hib, hcs, hcu⟩ := hrel
    have HNG := hid hng
    have HN := hid hnx
    have HP1 := hid hps
    have HIB := hid hib
    have HCS := hid hcs
    have HCU := hid hcu
    have hbig := hps.big
    simp only [List.length_append, List.length_map, List.length_take] at hbig
    have hpw := HP.out.lt p HP.out.mp
    have hws := hnx.ex.size
    have hil := hib.lt
    by_cases h4 : k < l.length
    · have h4' : (k : Int) < (l.length : Int) := by omega
      obtain ⟨b, o, e, hlb, hc⟩ := sl_elem wC_len (by decide) (HS.out.ex HN.out.ex) h4
      subst e
      have x0 := hc 0 (by decide)
      have x1 := hc 1 (by decide)
      have x2 := hc 2 (by decide)
      have x3 := hc 3 (by decide)
      simp only [wC, Nat.add_zero, List.getElem?_cons_zero, List.getElem?_cons_succ] at x0 x1 x2 x3
      have HTK := hid (show (l.take (k + 1)).map (fun x => (x, told)) = (l.take k).map (fun x => (x, told)) ++ [(l[k], told)] by rw [List.take_succ_eq_append_getElem h4, List.map_append]; rfl)
      have HLK := hid (show (A.K ++ (l.take k).map (fun x => (x, told))).length = A.K.length + k by simp; omega)
      have HOK := hid (HOW.out l[k] (List.getElem_mem h4))
      have HNU := hid (fun (u : Value) (e : u = .int .i64 l[k].t) i (hi : i < l.length) (hik : i < k + 1) => show (cur.setIfInBounds k u)[i]? = some (.int .i64 l[i].t) from by
        rw [Array.getElem?_setIfInBounds]
        by_cases e2 : k = i
        · subst e2; rw [if_pos rfl, if_pos (by rw [HCS.out]; exact hi), e]
        · rw [if_neg e2]; exact HCU.out i hi (by omega))
      have HPX := hid (show ¬ p = wr.heap.size by omega)
      have HPI := hid (show ¬ p = w.heap.size by omega)
      clear hc hps hnx hng hib hcs hcu
      obtain ⟨y, hy⟩ : ∃ y, l[k] = y := ⟨_, rfl⟩
      rw [hy] at x0 x1 x2 x3 HTK HOK HNU
      clear hy
      obtain ⟨y1, y2, y3, y4⟩ := y
      simp only at x0 x1 x2 x3 HNU
      · skip
        go_wp2
        refine wp_region_W (fun w' => ((((w'.cell? ⟨p, 2, none⟩ = some (.slice ak (A.K.length + k) ck) ∧ w'.cell? ⟨wr.heap.size, 0, none⟩ = some (.int .i64 y1)) ∧ w'.cell? ⟨wr.heap.size, 1, none⟩ = some (.int .i64 y2)) ∧ w'.cell? ⟨wr.heap.size, 2, none⟩ = some (.int .i64 y3)) ∧ w'.cell? ⟨wr.heap.size, 3, none⟩ = some (.int .i64 y4))) (fun j => if j == 8 || j == 9 then 0 else if j == 12 then 2 else 1) (by kernel_rfl) ?_
        have HPA := hid (HP1.out.bw (Bw.alloc (Bw.refl wr) (.cells (wC ⟨y1, y2, y3, y4⟩).toArray 89)))
        have HPD := hid (HPA.out.bw (Bw.drew (Bw.refl _)))
        have HBXD := hid (show Blk (wr.alloc (.cells (wC ⟨y1, y2, y3, y4⟩).toArray 89)).drew wr.heap.size (wC ⟨y1, y2, y3, y4⟩).toArray 89 from Blk.new wr _ _)
        have HIBD := hid (show Blk (wr.alloc (.cells (wC ⟨y1, y2, y3, y4⟩).toArray 89)).drew w.heap.size cur 3 from (HIB.out.alloc _).drewN 1)
        have HBD := hid (show Bw wr (wr.alloc (.cells (wC ⟨y1, y2, y3, y4⟩).toArray 89)).drew from Bw.drew (Bw.alloc (Bw.refl _) _))
        simp only [wC] at HPD HBXD HIBD HBD
        generalize hW0 : (wr.alloc (Obj.cells [Value.int IntKind.i64 y1, Value.int IntKind.i64 y2, Value.int IntKind.i64 y3, Value.int IntKind.i64 y4].toArray 89)).drew = W0 at HPD HBXD HIBD HBD
        try rw [hW0]
        have hS := hid (show ∀ W', Bw W0 W' → (((((W'.cell? ⟨p, 2, none⟩ = some (.slice ak (A.K.length + k) ck) ∧ W'.cell? ⟨wr.heap.size, 0, none⟩ = some (.int .i64 y1)) ∧ W'.cell? ⟨wr.heap.size, 1, none⟩ = some (.int .i64 y2)) ∧ W'.cell? ⟨wr.heap.size, 2, none⟩ = some (.int .i64 y3)) ∧ W'.cell? ⟨wr.heap.size, 3, none⟩ = some (.int .i64 y4))) from fun W' hb => (by
          have hbx := HBXD.out.bw hb
          exact ⟨⟨⟨⟨(HPD.out.bw hb).cells.2.2.2.1, hbx.cell 0⟩, hbx.cell 1⟩, hbx.cell 2⟩, hbx.cell 3⟩))
        refine wpAnyW_take (i := 0) (oi := { dst := some 20, op := Op.move (Operand.tmp 0), type := 24, pos := "lock.go:132", after := #[], guard := none }) (v := ?_) rfl (by kernel_rfl) (by kernel_rfl) (by kernel_rfl) (by kernel_rfl) (fun _ _ _ h => h) (Or.inl ⟨by rfl, fun w _ => ?_⟩) ?_
        rotate_left
        · (go_simp; first | done | with_reducible rfl)
        try simp only [Act.put, List.setIfInBounds_toArray, List.set_cons_zero, List.set_cons_succ]
        refine wpAnyW_take (i := 1) (oi := { dst := some 21, op := Op.move (Operand.tmp 0), type := 24, pos := "lock.go:132", after := #[], guard := none }) (v := ?_) rfl (by kernel_rfl) (by kernel_rfl) (by kernel_rfl) (by kernel_rfl) (fun _ _ _ h => h) (Or.inl ⟨by rfl, fun w _ => ?_⟩) ?_
        rotate_left
        · (go_simp; first | done | with_reducible rfl)
        try simp only [Act.put, List.setIfInBounds_toArray, List.set_cons_zero, List.set_cons_succ]
        refine wpAnyW_take (i := 2) (oi := { dst := some 22, op := Op.nilCheck (Operand.tmp 21), type := 0, pos := "lock.go:132", after := #[{ on := 1, ground := Ground.data }], guard := none }) (v := ?_) rfl (by kernel_rfl) (by kernel_rfl) (by kernel_rfl) (by kernel_rfl) (fun _ _ _ h => h) (Or.inl ⟨by rfl, fun w _ => ?_⟩) ?_
        rotate_left
        · (go_simp; first | done | with_reducible rfl)
        try simp only [Act.put, List.setIfInBounds_toArray, List.set_cons_zero, List.set_cons_succ]
        refine wpAnyW_take (i := 3) (oi := { dst := some 23, op := Op.fieldAddr 65 (Operand.tmp 22) 2, type := 0, pos := "lock.go:132", after := #[{ on := 2, ground := Ground.data }], guard := none }) (v := ?_) rfl (by kernel_rfl) (by kernel_rfl) (by kernel_rfl) (by kernel_rfl) (fun _ _ _ h => h) (Or.inl ⟨by rfl, fun w _ => ?_⟩) ?_
        rotate_left
        · (go_simp; first | done | with_reducible rfl)
        try simp only [Act.put, List.setIfInBounds_toArray, List.set_cons_zero, List.set_cons_succ]
        refine wpAnyW_load (i := 4) (oi := { dst := some 24, op := Op.load 63 (Operand.tmp 23), type := 63, pos := "lock.go:132", after := #[{ on := 3, ground := Ground.data }], guard := none }) (v := ?_) rfl (by kernel_rfl) (by kernel_rfl) (by kernel_rfl) (by kernel_rfl) (by kernel_rfl) (fun _ _ _ h => h) (Or.inl ⟨by rfl, fun w hS => ?_⟩) (hS.out W0 (Bw.refl _)) ?_
        rotate_left
        · (obtain ⟨⟨⟨⟨hS0, hS1⟩, hS2⟩, hS3⟩, hS4⟩ := hS; go_simp; first | done | with_reducible rfl)
        try simp only [Act.put, List.setIfInBounds_toArray, List.set_cons_zero, List.set_cons_succ]
        refine wpAnyW_load (i := 5) (oi := { dst := some 25, op := Op.load 89 (Operand.tmp 9), type := 89, pos := "lock.go:132", after := #[], guard := none }) (v := ?_) rfl (by kernel_rfl) (by kernel_rfl) (by kernel_rfl) (by kernel_rfl) (by kernel_rfl) (fun _ _ _ h => h) (Or.inl ⟨by rfl, fun w hS => ?_⟩) (hS.out W0 (Bw.refl _)) ?_
        rotate_left
        · (obtain ⟨⟨⟨⟨hS0, hS1⟩, hS2⟩, hS3⟩, hS4⟩ := hS; go_simp; first | done | with_reducible rfl)
        try simp only [Act.put, List.setIfInBounds_toArray, List.set_cons_zero, List.set_cons_succ]
        refine wpAnyW_take (i := 6) (oi := { dst := some 26, op := Op.move (Operand.tmp 2), type := 4, pos := "lock.go:132", after := #[], guard := none }) (v := ?_) rfl (by kernel_rfl) (by kernel_rfl) (by kernel_rfl) (by kernel_rfl) (fun _ _ _ h => h) (Or.inl ⟨by rfl, fun w _ => ?_⟩) ?_
        rotate_left
        · (go_simp; first | done | with_reducible rfl)
        try simp only [Act.put, List.setIfInBounds_toArray, List.set_cons_zero, List.set_cons_succ]
        refine wpAnyW_take (i := 7) (oi := { dst := some 27, op := Op.build 94 #[(0, Operand.tmp 25), (1, Operand.tmp 26)], type := 94, pos := "lock.go:132", after := #[{ on := 5, ground := Ground.data }, { on := 6, ground := Ground.data }], guard := none }) (v := ?_) rfl (by kernel_rfl) (by kernel_rfl) (by kernel_rfl) (by kernel_rfl) (fun _ _ _ h => h) (Or.inl ⟨by rfl, fun w _ => ?_⟩) ?_
        rotate_left
        · (go_simp; first | done | with_reducible rfl)
        try simp only [Act.put, List.setIfInBounds_toArray, List.set_cons_zero, List.set_cons_succ]
        refine wpAnyW_ready (rs := [8]) (by kernel_rfl) (by simp) ?_
        refine (AllReadyW.cons (o := { dst := some 28, op := Op.buildSlice 63 1 #[(0, Operand.tmp 27)], type := 63, pos := "lock.go:132", after := #[{ on := 7, ground := Ground.data }], guard := none }) rfl (fun K hK => ?_) AllReadyW.nil)
        go_simp
        have N9 := hid (show Sl (W0.alloc (.cells (kC (⟨y1, y2, y3, y4⟩, told)).toArray 94)) (fun b => b = W0.heap.size) (.slice (some ⟨W0.heap.size, 0, none⟩) 1 1) 1 5 (kC (⟨y1, y2, y3, y4⟩, told)) from sl_new W0 (fun b => b = W0.heap.size) (kC (⟨y1, y2, y3, y4⟩, told)) 94 1 5 rfl rfl)
        refine hK.out _ _ (hS.out _ (Bw.alloc (Bw.refl _) _)) ?_
        clear hK K
        try simp only [Act.put, List.setIfInBounds_toArray, List.set_cons_zero, List.set_cons_succ]
        refine wpAnyW_ready (rs := [9]) (by kernel_rfl) (by simp) ?_
        refine (AllReadyW.cons (o := { dst := some 29, op := Op.call { callee := Callee.builtin Builtin.append, args := #[Operand.tmp 24, Operand.tmp 28], argTypes := #[63, 63] }, type := 63, pos := "lock.go:132", after := #[{ on := 4, ground := Ground.data }, { on := 8, ground := Ground.data }], guard := none }) rfl (fun K hK => ?_) AllReadyW.nil)
        have HP9 := hid (HPD.out.bw (Bw.alloc (Bw.refl W0) (.cells (kC (⟨y1, y2, y3, y4⟩, told)).toArray 94)))
        refine step_append_any rfl _ _ 63 rfl 94 i2 _ 5 40 Try.underlying63 I2.out.1 I2.out.2.1 I2.out.2.2.1 I2.out.2.2.2 rfl (by decide) (.slice ak (A.K.length + k) ck) (A.K.length + k) ((A.K ++ (l.take k).map (fun x => (x, told))).flatMap kC) rfl (HLK.out ▸ HP9.out.rk) (.slice (some ⟨W0.heap.size, 0, none⟩) 1 1) 1 (kC (⟨y1, y2, y3, y4⟩, told)) rfl N9.out (kC_one _) (by unfold maxLen; omega) (by omega) ?_
        intro v10 w10 ho10 hg10 hvb10
        have hbB := blk_grown hg10 HP9.out.rk HP9.out.blk (by decide)
        have hmB := keep_grown hg10 HP9.out.rk HP9.out.rm (by decide)
        have HX2 := hid (PS.turnK HPD.out (A.K ++ (l.take (k + 1)).map (fun x => (x, told))) hbB hmB (keep_grown hg10 HP9.out.rk HP9.out.rw (by decide)) (by rw [HTK.out, ← List.append_assoc, fm_snoc, List.length_append, HLK.out]; exact ho10) (Ex.grown (Ex.of_bw (Bw.alloc (Bw.refl W0) _)) hg10 (fun b e => .inl (HPD.out.mkk b e))) (fun b e => hvb10.elim (fun k => .inl (HPD.out.mkk b (k ▸ e))) (fun k => .inr (Nat.le_trans (Bw.alloc (Bw.refl W0) _).size (k b e)))) (by rw [HTK.out, ← List.append_assoc]; exact okK_snoc HPD.out.ok.K HOK.out) (by rw [HTK.out, ← List.append_assoc, List.length_append, HLK.out]; simp only [List.length_cons, List.length_nil]; omega))
        have HBX2 := hid ((blk_grown hg10 HP9.out.rk (HBXD.out.alloc (.cells (kC (⟨y1, y2, y3, y4⟩, told)).toArray 94)) (by decide)).other (p := ⟨p, 2, none⟩) (fun e => absurd e HPX.out) v10)
        have HIB2 := hid ((blk_grown hg10 HP9.out.rk (HIBD.out.alloc (.cells (kC (⟨y1, y2, y3, y4⟩, told)).toArray 94)) (by decide)).other (p := ⟨p, 2, none⟩) (fun e => absurd e HPI.out) v10)
        have hbx10 := blk_grown hg10 HP9.out.rk (HBXD.out.alloc (.cells (kC (⟨y1, y2, y3, y4⟩, told)).toArray 94)) (by decide)
        have HNG2 := hid (show w.heap.size ∉ bs' ++ v10.ownBlock.toList from fun hm => by rcases List.mem_append.1 hm with h1 | h1; exact HNG.out h1; exact row_box ho10 (blk_grown hg10 HP9.out.rk (HIBD.out.alloc (.cells (kC (⟨y1, y2, y3, y4⟩, told)).toArray 94)) (by decide)) (by decide) (by simpa using h1))
        obtain ⟨a10, c10, e10⟩ := own_form ho10
        subst e10
        have p2 := hbB.cell 2
        simp only [List.getElem?_toArray, List.getElem?_cons_zero, List.getElem?_cons_succ] at p2
        have pl := hbB.lt
        have pf := hbB.free
        have hS10 := hid (show (((((w10.cell? ⟨p, 2, none⟩ = some (.slice ak (A.K.length + k) ck) ∧ w10.cell? ⟨wr.heap.size, 0, none⟩ = some (.int .i64 y1)) ∧ w10.cell? ⟨wr.heap.size, 1, none⟩ = some (.int .i64 y2)) ∧ w10.cell? ⟨wr.heap.size, 2, none⟩ = some (.int .i64 y3)) ∧ w10.cell? ⟨wr.heap.size, 3, none⟩ = some (.int .i64 y4))) from ⟨⟨⟨⟨p2, hbx10.cell 0⟩, hbx10.cell 1⟩, hbx10.cell 2⟩, hbx10.cell 3⟩)
        refine hK.out _ _ hS10.out ?_
        clear hK K
        try simp only [Act.put, List.setIfInBounds_toArray, List.set_cons_zero, List.set_cons_succ]
        clear hg10 hvb10 ho10 hbB hmB hbx10
        refine wpAnyW_take (i := 10) (oi := { dst := some 30, op := Op.nilCheck (Operand.tmp 20), type := 0, pos := "lock.go:132", after := #[{ on := 0, ground := Ground.data }, { on := 0, ground := Ground.phase }, { on := 1, ground := Ground.phase }, { on := 2, ground := Ground.phase }, { on := 3, ground := Ground.phase }, { on := 4, ground := Ground.phase }, { on := 5, ground := Ground.phase }, { on := 6, ground := Ground.phase }, { on := 7, ground := Ground.phase }, { on := 8, ground := Ground.phase }, { on := 9, ground := Ground.phase }], guard := none }) (v := ?_) rfl (by kernel_rfl) (by kernel_rfl) (by kernel_rfl) (by kernel_rfl) (fun _ _ _ h => h) (Or.inl ⟨by rfl, fun w _ => ?_⟩) ?_
        rotate_left
        · (go_simp; first | done | with_reducible rfl)
        try simp only [Act.put, List.setIfInBounds_toArray, List.set_cons_zero, List.set_cons_succ]
        refine wpAnyW_take (i := 11) (oi := { dst := some 31, op := Op.fieldAddr 65 (Operand.tmp 30) 2, type := 0, pos := "lock.go:132", after := #[{ on := 10, ground := Ground.data }, { on := 0, ground := Ground.phase }, { on := 1, ground := Ground.phase }, { on := 2, ground := Ground.phase }, { on := 3, ground := Ground.phase }, { on := 4, ground := Ground.phase }, { on := 5, ground := Ground.phase }, { on := 6, ground := Ground.phase }, { on := 7, ground := Ground.phase }, { on := 8, ground := Ground.phase }, { on := 9, ground := Ground.phase }], guard := none }) (v := ?_) rfl (by kernel_rfl) (by kernel_rfl) (by kernel_rfl) (by kernel_rfl) (fun _ _ _ h => h) (Or.inl ⟨by rfl, fun w _ => ?_⟩) ?_
        rotate_left
        · (go_simp; first | done | with_reducible rfl)
        try simp only [Act.put, List.setIfInBounds_toArray, List.set_cons_zero, List.set_cons_succ]
        refine wpAnyW_ready (rs := [12]) (by kernel_rfl) (by simp) ?_
        refine (AllReadyW.cons (o := { dst := none, op := Op.store 63 (Operand.tmp 31) (Operand.tmp 29), type := 0, pos := "lock.go:132", after := #[{ on := 11, ground := Ground.data }, { on := 9, ground := Ground.data }, { on := 9, ground := Ground.chain }, { on := 0, ground := Ground.phase }, { on := 1, ground := Ground.phase }, { on := 2, ground := Ground.phase }, { on := 3, ground := Ground.phase }, { on := 4, ground := Ground.phase }, { on := 5, ground := Ground.phase }, { on := 6, ground := Ground.phase }, { on := 7, ground := Ground.phase }, { on := 8, ground := Ground.phase }, { on := 9, ground := Ground.phase }], guard := none }) rfl (fun K hK => ?_) AllReadyW.nil)
        go_simp
        refine hK.out _ _ trivial ?_
        clear hK K
        try simp only [Act.put, List.setIfInBounds_toArray, List.set_cons_zero, List.set_cons_succ]
        refine wpAnyW_done (by kernel_rfl) ?_ _
        have q0 := HBX2.out.cell 0
        simp only [wC, List.getElem?_toArray, List.getElem?_cons_zero] at q0
        have ql := HBX2.out.lt
        have r0 := HIB2.out.cell k
        have rl := HIB2.out.lt
        have rf := HIB2.out.free
        obtain ⟨ov, hov⟩ : ∃ ov, cur[k]? = some ov := ⟨_, Array.getElem?_eq_getElem (by rw [HCS.out]; exact h4)⟩
        rw [hov] at r0
        have HIB3 := hid (HIB2.out.set k (.int .i64 y1))
        have HX3 := hid (HX2.out.1.keep (w' := (w10.setCell ⟨p, 2, none⟩ (.slice a10 (A.K.length + k + 1) c10)).setCell ⟨w.heap.size, k, none⟩ (.int .i64 y1)) (by simp) (fun b hb => Below.heap_setCell _ _ _ b (fun e => by
          simp only at e
          subst e
          exact HNG2.out hb)))
        have HNX := HN.out.trans ((Nx.of_bw HBD.out).trans HX2.out.2)
        have HNY := hid (show Nx bs w ((w10.setCell ⟨p, 2, none⟩ (.slice a10 (A.K.length + k + 1) c10)).setCell ⟨w.heap.size, k, none⟩ (.int .i64 y1)) _ from ⟨HNX.ex.set (.inr (Nat.le_refl _)) _ _, HNX.new⟩)
        clear hov HNX
        go_wp2
        go_roundw
        case rel => exact ⟨k + 1, _, a10, c10, _, by omega, by go_num, HX3.out, HNY.out, HNG2.out, HIB3.out, by simp [HCS.out], HNU.out _ rfl⟩
        case measure => simp [intOf]; omega
    · have h4' : ¬ (k : Int) < (l.length : Int) := by omega
      obtain rfl : k = l.length := by omega
      rw [List.take_length] at hps
      have HP2 := hid hps
      have HOI := hid (own_of_blk (base := w.heap.size) HIB.out hcs (by unfold maxLen; omega) (Nat.le_refl _))
      have HEQ := hid (show cur.toList = l.map (fun x => Value.int .i64 x.t) from by
        apply List.ext_getElem?
        intro i
        rw [Array.getElem?_toList, List.getElem?_map]
        by_cases hi : i < l.length
        · rw [HCU.out i hi hi]; simp [hi]
        · rw [Array.getElem?_eq_none (by omega), List.getElem?_eq_none (by omega)]; rfl)
      clear hps hnx hng hib hcs hcu
      go_wp2
      all_goals go_ret
      all_goals exact ⟨_, rfl, HEQ.out ▸ HOI.out, _, ⟨_, _, _, _, HP2.out⟩, HN.out, fun b e => by cases e; exact HNG.out⟩
end

end Go.Proofs.Yteeeijbjokkomaa
