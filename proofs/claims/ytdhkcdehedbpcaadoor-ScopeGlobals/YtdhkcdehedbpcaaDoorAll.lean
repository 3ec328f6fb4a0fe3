/- All that the laws need. -/
import Derived.Test.YtdhkcdehedbpcaaDoorM41
import Derived.Test.YtdhkcdehedbpcaaDoorM22
import Derived.Test.YtdhkcdehedbpcaaDoorM42
namespace Go.Proofs.YtdhkcdehedbpcaaDoor
end Go.Proofs.YtdhkcdehedbpcaaDoor

