/- The contracts of layer 13 (frame): the document's answers. -/
import Derived.Test.YtghhoofdbmgacaaDoorFaA
import Derived.Deep.RegionHeld
namespace Go.Proofs.YtghhoofdbmgacaaDoor
set_option linter.unusedSimpArgs false
set_option linter.unusedVariables false
open Go.ChangeShapes Go.WideShapes Go.ChangeAt Go.RowKit
end Go.Proofs.YtghhoofdbmgacaaDoor
