/- prim.Pure: pushes, pops, lengths: contracts. -/
import Derived.Test.YtajnpdiepiinjaaDoorKA
import Derived.Deep.RegionHeld3
set_option linter.unusedSimpArgs false
set_option linter.unusedVariables false
namespace Go.Proofs.YtajnpdiepiinjaaDoor
open Go Go.RowKit

section
variable {w w' : World}

theorem ary1 : ary 1 = 1 := rfl
theorem ary2 : ary 2 = 2 := rfl
theorem ary3 : ary 3 = 1 := rfl
theorem ary4 : ary 4 = 1 := rfl

def pF (e : Int) : Int := if e = 0 then 0 else if e = 4 then 3 else 1
def pV (e v : Int) : Int := if e = 0 then v else 0







end

end Go.Proofs.YtajnpdiepiinjaaDoor
