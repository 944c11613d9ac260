import Derived.Test.YtannniobeanhlaaGreatRows
import Derived.Test.YtannniobeanhlaaGreatShelf
import Derived.Test.YtannniobeanhlaaGreatKnuth
import Derived.WalkKit
import Derived.ProofKit
import Derived.OpenShut
import Derived.Outline
import Derived.Lib.Hide
import Derived.RegionTactic
import Derived.Deep.DeepCutAuto
import Derived.Deep.CutBlock
import Derived.Deep.Draws
import Derived.Test.YtannniobeanhlaaGreatZKyMath
import Derived.Test.YtannniobeanhlaaGreatArMath
import Derived.Deep.LoopGhost
namespace Go.Proofs.YtannniobeanhlaaGreat
set_option linter.unusedSimpArgs false
set_option linter.unusedVariables false
set_option maxRecDepth 100000
open Go.ChangeShapes Go.WideShapes Go.ChangeAt Go.RowKit

end Go.Proofs.YtannniobeanhlaaGreat
/- The contracts of field.Of, Add and Mul. -/
namespace Go.Proofs.YtannniobeanhlaaGreat
set_option linter.unusedSimpArgs false
set_option linter.unusedVariables false
set_option maxRecDepth 100000
open Go.ChangeShapes Go.WideShapes Go.ChangeAt Go.RowKit

theorem ret_i {k : IntKind} {a b : Int} (h : a = b) : Ending.returned (.int k a) = .returned (.int k b) := by rw [h]
theorem fof_any (x : Nat) (hx : x < 18446744073709551616) (w : World) :
    Calls Tryz.prog 116 #[.int .u64 x] w fun e w' => e = .returned (.int .u64 (x % 2305843009213693951 : Nat)) ∧ w = w' := by
  obtain ⟨r, hr⟩ : ∃ r, r = x % 2305843009213693951 := ⟨_, rfl⟩
  have e1 : (x : Int) % 2305843009213693951 = (r : Int) := by omega
  rw [← hr]
  have hb : r < 2305843009213693951 := by omega
  clear hr
  go_enter Tryz.func116, Tryz.ntmps116
  go_wp2
  go_ret
  exact ⟨ret_i (by first | exact e1 | rfl), rfl⟩
end Go.Proofs.YtannniobeanhlaaGreat
/- The contract of arith.Down. -/
namespace Go.Proofs.YtannniobeanhlaaGreat
set_option linter.unusedSimpArgs false
set_option linter.unusedVariables false
set_option maxRecDepth 100000
open Go.ChangeShapes Go.WideShapes Go.ChangeAt Go.RowKit
/-- What a quotient of a product is. -/
structure Quo (a b c q r : Nat) : Prop where
  lt : a * b / 18446744073709551616 < c
  dq : q = a * b / c
  dr : r = a * b % c
  qb : q < 18446744073709551616
  rb : r < c
end Go.Proofs.YtannniobeanhlaaGreat
/- The contract of arith.Up, for seats that lack the rest of layer 1. -/
namespace Go.Proofs.YtannniobeanhlaaGreat
set_option linter.unusedSimpArgs false
set_option linter.unusedVariables false
set_option maxRecDepth 100000
open Go.ChangeShapes Go.WideShapes Go.ChangeAt Go.RowKit
/-- what Up answers: the next whole number up, where it fits. -/
def upQ (q r : Nat) : Nat := if r = 0 then q else q + 1
end Go.Proofs.YtannniobeanhlaaGreat
