/- The closed text of the law's own example, read by the document's Parse. · No nodes: Check, Resolve; the law's own example is well made. -/
import Derived.Test.YtdhkcdehedbpcaaDoorM27
import Derived.Test.YtdhkcdehedbpcaaDoorM11
set_option linter.unusedSimpArgs false
set_option linter.unusedVariables false
namespace Go.Proofs.YtdhkcdehedbpcaaDoor
open Go Go.RowKit

def liveB : List Int := [118, 97, 114, 32, 120, 32, 61, 32, 49, 59, 32, 102, 110, 32, 102, 40, 97, 41, 32, 123, 32, 114, 101, 116, 117, 114, 110, 32, 102, 110, 32, 40, 41, 32, 123, 32, 114, 101, 116, 117, 114, 110, 32, 97, 32, 43, 32, 120, 59, 32, 125, 59, 32, 125]
def liveL : List ANode := [(3, 1, [120], 0, 0), (14, 0, [], 1, 8), (12, 2, [102], 1, 11), (19, 0, [97], 0, 16), (2, 1, [], 0, 19), (9, 1, [], 0, 21), (31, 1, [], 0, 28), (2, 1, [], 0, 34), (9, 1, [], 0, 36), (23, 2, [43], 0, 43), (19, 0, [97], 0, 43), (19, 0, [120], 0, 47)]

theorem live_lexed : (lexA liveB).2.1 = 0 ∧ (lexA liveB).1.length = 25 ∧ liveB.length = 54 := by decide +kernel
theorem live_endT : EndT8 (lexA liveB).1 := by unfold EndT8; decide +kernel
theorem live_read : dProgL (lexA liveB).1 200 [] 0 ⟨0, 0, 0⟩ = some (liveL, 2, ⟨24, 0, 0⟩) := by kernel_rfl

theorem live_parsed {w : World} {v : Value} (h : By w v liveB) : Calls Tryd.prog 9 #[v] w fun e w' => ∃ a c, e = .returned (.tuple #[.slice a 13 c, .int .i64 0, .int .i64 54]) ∧ Nd w' w.heap.size (.slice a 13 c) (dJoin (1, 0, [], 0, 0) 2 liveL) ∧ Bw w w' := by
 obtain ⟨h1, h2, h3⟩ := live_lexed
 exact rParse_any h (by omega) h1 (by omega) (by omega) live_endT live_read (by decide) (by decide) rfl

end Go.Proofs.YtdhkcdehedbpcaaDoor

namespace Go.Proofs.YtdhkcdehedbpcaaDoor
open Go Go.RowKit

def liveP : List ANode := dJoin (1, 0, [], 0, 0) 2 liveL
theorem live_checked : (ckP liveP).2 = 0 := by kernel_rfl

section
variable (w : World)

set_option maxRecDepth 100000 in
set_option maxHeartbeats 4000000 in
theorem check_nil : Calls Tryd.prog 23 #[.slice none 0 0] w fun e w' => e = .returned (.tuple #[.int .i64 0, .int .i64 6]) ∧ Bw w w' := by
 go_enter Tryd.func23, Tryd.ntmps23
 go_wp2
 all_goals go_ret2
 all_goals exact ⟨rfl, by repeat (first | exact Bw.refl _ | apply Bw.alloc | apply Bw.drewN | apply Bw.drew)⟩

set_option maxRecDepth 100000 in
set_option maxHeartbeats 4000000 in
theorem resolve_nil : Calls Tryd.prog 10 #[.slice none 0 0] w fun e w' => e = .returned (.tuple #[.agg #[.slice none 0 0, .slice none 0 0, .slice none 0 0], .int .i64 6, .int .i64 0]) ∧ Bw w w' := by
 go_enter Tryd.func10, Tryd.ntmps10
 go_wp2_with (first
  | (go_at_call 23; refine (check_nil _).mono ?_; rintro e w1 ⟨rfl, hb1⟩; have B1 := hid (show Bw w w1 from Bw.trans bq hb1); have p3 : Blk w1 w.heap.size #[.slice none 0 0, .slice none 0 0, .slice none 0 0] 31 := Blk.bw (w := w.alloc _) (Blk.new w _ _) (Bw.trans bq hb1); have P3 := hid p3; have z := p3.cell; have zf := p3.free; have zl := p3.lt; clear hb1 p3)
  | fail)
 refine bodyPost_ret (v := .tuple #[.agg #[.slice none 0 0, .slice none 0 0, .slice none 0 0], .int .i64 6, .int .i64 0]) (by simp [results, Tryd.results10, go_sem, *]) rfl ?_
 exact ⟨rfl, ((B1.out.setCell (Nat.le_refl _) _).setCell (Nat.le_refl _) _).setCell (Nat.le_refl _) _⟩

end

end Go.Proofs.YtdhkcdehedbpcaaDoor

