/- All that the laws of this claim need. -/
import Derived.Test.YtekkjpecdflajaaDoorZvk
import Derived.Test.YtekkjpecdflajaaDoorM4


