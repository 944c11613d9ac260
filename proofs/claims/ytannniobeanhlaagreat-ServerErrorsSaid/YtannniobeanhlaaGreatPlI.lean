import Derived.Test.YtannniobeanhlaaGreatZPlA
import Derived.Test.YtannniobeanhlaaGreatZCellB
/- The contracts of layer 10 (pool): Idle. -/
namespace Go.Proofs.YtannniobeanhlaaGreat
set_option linter.unusedSimpArgs false
set_option linter.unusedVariables false
set_option maxRecDepth 100000
open Go.ChangeShapes Go.WideShapes Go.ChangeAt Go.RowKit Go.Shelf
open Ar (inR)
attribute [local go_sem] Oper.semAt_some
end Go.Proofs.YtannniobeanhlaaGreat
