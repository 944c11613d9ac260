/- The laws of layer 9 (cell): the bounds, its arguments in their order. -/
import Derived.Test.YtfegoehiopkcnaaCellBe
import Derived.Test.YtfegoehiopkcnaaLiftT
namespace Go.Proofs.Ytfegoehiopkcnaa
set_option linter.unusedSimpArgs false
set_option linter.unusedVariables false
open Go.ChangeShapes Go.WideShapes Go.ChangeAt Go.RowKit
open Ar (inR)
theorem bounds_law2 (w : World) (a b c : Int) (A : Option Addr) (n cap : Nat) (x y : Nat → Int) (ax ay : Int) (ha : inR a) (hb : inR b) (hc : inR c) (hr : RdP w A n cap x y)
    (_ : -9223372036854775808 ≤ ax ∧ ax ≤ 9223372036854775807) (_ : -9223372036854775808 ≤ ay ∧ ay ≤ 9223372036854775807) :
    Calls Try.prog 5 #[.agg #[.int .i64 a, .int .i64 b, .int .i64 c], .slice A n cap, .agg #[.int .i64 ax, .int .i64 ay]] w fun e w' => e = .returned (.bool true) ∧ Below w.heap.size w w' :=
  bounds_law w a b c ax ay A n cap x y ha hb hc hr
end Go.Proofs.Ytfegoehiopkcnaa
