/- The document's Same, of images that are the same: contracts. -/
import Derived.Test.YtmhjfkhcpfihfabDoorQk
set_option linter.unusedSimpArgs false
set_option linter.unusedVariables false
namespace Go.Proofs.YtmhjfkhcpfihfabDoor
open Go Go.RowKit

section
variable {w w' : World}





end

end Go.Proofs.YtmhjfkhcpfihfabDoor
