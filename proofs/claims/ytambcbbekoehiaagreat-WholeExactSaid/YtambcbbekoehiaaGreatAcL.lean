import Derived.Test.YtambcbbekoehiaaGreatZLiftS
import Derived.Test.YtambcbbekoehiaaGreatByt
import Derived.Deep.Cut
set_option linter.unusedSimpArgs false
set_option linter.unusedVariables false
set_option maxRecDepth 100000
set_option maxHeartbeats 9000000
namespace Go.Proofs.YtambcbbekoehiaaGreat
section
open Go.ChangeShapes Go.WideShapes Go.ChangeAt Go.RowKit
end
end Go.Proofs.YtambcbbekoehiaaGreat
