/- The example of layer 5 (index), and what its laws begin with. -/
import Derived.Test.YtnpiimaapholiaaIxQ
namespace Go.Proofs.Ytnpiimaapholiaa
set_option linter.unusedSimpArgs false
set_option linter.unusedVariables false
open Go.ChangeShapes Go.WideShapes Go.ChangeAt Go.RowKit
/-- three draws' function. -/
def dX (a _b _c : Nat) : Nat := a % 2305843009213693950 + 1
def dA (_a b _c : Nat) : Nat := b % 2305843009213693950 + 1
def dB (_a _b c : Nat) : Nat := c % 2305843009213693951
theorem d_lt (a b c : Nat) : dX a b c < 2305843009213693951 ∧ dA a b c < 2305843009213693951 ∧ dB a b c < 2305843009213693951 := by
  unfold dX dA dB
  have h1 := Nat.mod_lt a (show 0 < 2305843009213693950 by omega)
  have h2 := Nat.mod_lt b (show 0 < 2305843009213693950 by omega)
  have h3 := Nat.mod_lt c (show 0 < 2305843009213693951 by omega)
  omega
theorem d_row (a b c : Nat) : rX [(a : Int), (b : Int), (c : Int)] 0 = dX a b c ∧ rA [(a : Int), (b : Int), (c : Int)] 0 = dA a b c ∧ rB [(a : Int), (b : Int), (c : Int)] 0 = dB a b c := ⟨rfl, rfl, rfl⟩
theorem kNew_none (n i : Nat) (s : ByteArray) : (kNew n).K i ≠ some s := fun e => by cases e
end Go.Proofs.Ytnpiimaapholiaa
