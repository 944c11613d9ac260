/- The contracts of layer 13 (frame): faults. -/
import Derived.Test.YtghhoofdbmgacaaDoorFr
namespace Go.Proofs.YtghhoofdbmgacaaDoor
set_option linter.unusedSimpArgs false
set_option linter.unusedVariables false
open Go.ChangeShapes Go.WideShapes Go.ChangeAt Go.RowKit
def fitP (c n : Int) : Prop := (c = 3 ∧ n = 2) ∨ (c = 4 ∧ n = 3) ∨ ((c = 1 ∨ c = 2) ∧ n ≥ 7)
theorem ret_i {k : IntKind} {a b : Int} (h : a = b) : Ending.returned (.int k a) = .returned (.int k b) := by rw [h]
end Go.Proofs.YtghhoofdbmgacaaDoor
