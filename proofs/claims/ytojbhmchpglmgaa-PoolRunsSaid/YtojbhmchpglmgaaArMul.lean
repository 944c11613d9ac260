/- The contract of arith.Product: the nearest product. -/
import Derived.Test.YtojbhmchpglmgaaArSum
import Derived.WalkKit
import Derived.ProofKit
import Derived.OpenShut
import Derived.Lib.Hide
namespace Go.Proofs.Ytojbhmchpglmgaa
set_option linter.unusedSimpArgs false
set_option linter.unusedVariables false
open Go.ChangeShapes Go.WideShapes Go.ChangeAt Go.RowKit
open Ar (inR)
theorem sgn_b (p a b : Int) : (decide (p < 0) == !(decide (a < 0) == decide (b < 0))) = true ↔ (p < 0 ↔ ¬(a < 0 ↔ b < 0)) := by
  by_cases hp : p < 0 <;> by_cases ha : a < 0 <;> by_cases hb : b < 0 <;> simp [hp, ha, hb]
end Go.Proofs.Ytojbhmchpglmgaa
