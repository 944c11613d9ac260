import Derived.Test.YtannniobeanhlaaGreatZArSum
import Derived.Test.YtannniobeanhlaaGreatZObj
import Derived.Test.YtannniobeanhlaaGreatLift
import Derived.Deep.RegionHeld3
import Derived.BigQuiet
import Derived.Deep.Cut
import Derived.Below
import Derived.Deep.LoopGhost
import Derived.Deep.QuietTactic
import Derived.Outline
/- The contracts of layer 9 (cell): the pure functions. -/
namespace Go.Proofs.YtannniobeanhlaaGreat
set_option linter.unusedSimpArgs false
set_option linter.unusedVariables false
set_option maxRecDepth 100000
open Go.ChangeShapes Go.WideShapes Go.ChangeAt Go.RowKit
open Ar (inR)

/-- a pace, a cell, as values. -/
abbrev pv (U W B L : Int) : Value := .agg #[.int .i64 U, .int .i64 W, .int .i64 B, .int .i64 L]
theorem below_from {W0 w w' : World} (h : Below W0.heap.size W0 w) (b : Below w.heap.size w w') : Below W0.heap.size W0 w' := h.trans (b.mono h.size)

end Go.Proofs.YtannniobeanhlaaGreat
