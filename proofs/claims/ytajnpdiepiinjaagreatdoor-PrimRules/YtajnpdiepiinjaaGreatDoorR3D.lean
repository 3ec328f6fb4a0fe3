/- The document's answers that ask: entries, fields: the contracts. -/
import Derived.Test.YtajnpdiepiinjaaGreatDoorR3C
set_option linter.unusedSimpArgs false
set_option linter.unusedVariables false
namespace Go.Proofs.YtajnpdiepiinjaaGreatDoor
open Go Go.RowKit















end Go.Proofs.YtajnpdiepiinjaaGreatDoor
