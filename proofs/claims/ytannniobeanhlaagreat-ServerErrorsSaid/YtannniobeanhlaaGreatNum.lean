import Derived.Test.YtannniobeanhlaaGreatByt
import Derived.Lib.AppendStr
/- Strings as lists of numbers. -/
namespace Go.Proofs.YtannniobeanhlaaGreat
set_option linter.unusedSimpArgs false
set_option linter.unusedVariables false
set_option maxRecDepth 100000
open Go Go.RowKit
end Go.Proofs.YtannniobeanhlaaGreat
