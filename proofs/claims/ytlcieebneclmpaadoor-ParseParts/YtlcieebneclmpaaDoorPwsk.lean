/- What ParseWraps and ParseParts lean on. -/
import Derived.Test.YtlcieebneclmpaaDoorPnsk
import Derived.Test.YtlcieebneclmpaaDoorPgak
import Derived.Test.YtlcieebneclmpaaDoorK12
import Derived.Lib.AppendStr
import Derived.ArgAppend
namespace Go.Proofs.YtlcieebneclmpaaDoor
end Go.Proofs.YtlcieebneclmpaaDoor
