import Derived.Test.YtannniobeanhlaaGreatLift
import Derived.Lib.SmallJoins
import Derived.Test.YtannniobeanhlaaGreatRowF
import Derived.Test.YtannniobeanhlaaGreatZObj
import Derived.SliceStrings
import Derived.ChangeMaps5
import Derived.Deep.Fields
/- Arguments that are structs of three whole numbers, or arrays of two, opened. -/
namespace Go.Proofs.YtannniobeanhlaaGreat
set_option linter.unusedSimpArgs false
set_option linter.unusedVariables false
set_option maxRecDepth 100000
open Go.ChangeShapes Go.WideShapes Go.ChangeAt Go.RowKit Go.Deep Go.Joins

section
variable {H : Type} {enc : TypeId × Value → H} {P : Program} {w : World} {base : Nat} {sp : Nat → Bool} {held : Bool}
end
end Go.Proofs.YtannniobeanhlaaGreat
/- Arguments that are slices of structs of one-cell fields, as lists; arrays of three, and two of three. -/
namespace Go.Proofs.YtannniobeanhlaaGreat
set_option linter.unusedSimpArgs false
set_option linter.unusedVariables false
set_option maxRecDepth 100000
open Go.ChangeShapes Go.WideShapes Go.ChangeAt Go.RowKit Go.Deep Go.Joins
/-- A slice of things of m cells each, as a list. -/
structure RdL {α : Type} (w : World) (A : Option Addr) (n c m : Nat) (Enc : α → Nat → Value) (L : List α) : Prop where
  len : L.length = n
  cap : n ≤ c
  max : c ≤ maxLen
  at_ : 0 < n → ∃ b off, A = some ⟨b, off, none⟩ ∧ b < w.heap.size ∧ ∀ i a, L[i]? = some a → ∀ j, j < m → w.cell? ⟨b, off + i * m + j, none⟩ = some (Enc a j)
theorem RdL.below {α : Type} {w w' : World} {A : Option Addr} {n c m : Nat} {Enc : α → Nat → Value} {L : List α} (h : RdL w A n c m Enc L) (hb : Below w.heap.size w w') : RdL w' A n c m Enc L :=
  ⟨h.len, h.cap, h.max, fun hn => by
    obtain ⟨b, off, e, hlt, hc⟩ := h.at_ hn
    exact ⟨b, off, e, Nat.lt_of_lt_of_le hlt hb.size, fun i a hi j hj => by rw [hb.cell (p := ⟨b, off + i * m + j, none⟩) hlt]; exact hc i a hi j hj⟩⟩
theorem RdL.fr {α : Type} {w w' : World} {A : Option Addr} {n c m : Nat} {Enc : α → Nat → Value} {L : List α} {F : Nat → Prop} (h : RdL w A n c m Enc L) (hf : Fr F w w') (hF : ∀ b, b < w.heap.size → ¬ F b) : RdL w' A n c m Enc L :=
  ⟨h.len, h.cap, h.max, fun hn => by
    obtain ⟨b, off, e, hlt, hc⟩ := h.at_ hn
    exact ⟨b, off, e, Nat.lt_of_lt_of_le hlt hf.size, fun i a hi j hj => by rw [hf.cell hlt (hF b hlt)]; exact hc i a hi j hj⟩⟩
section
variable {H : Type} {enc : TypeId × Value → H} {P : Program}
/-! #### a whole number and a string -/
/-! #### a string and a whole number -/
/-! #### a whole number, a string and a whole number; two whole numbers and a string -/
/-! #### strings -/
/-! #### arrays of three, and two of them -/
end
end Go.Proofs.YtannniobeanhlaaGreat
/- Arguments that are structs of one-cell fields, any number of them: requests. -/
namespace Go.Proofs.YtannniobeanhlaaGreat
set_option linter.unusedSimpArgs false
set_option linter.unusedVariables false
set_option maxRecDepth 100000
open Go.ChangeShapes Go.WideShapes Go.ChangeAt Go.RowKit Go.Deep Go.Joins
section
variable {H : Type} {enc : TypeId × Value → H} {P : Program} {w : World} {base : Nat} {sp : Nat → Bool} {held : Bool}
end
end Go.Proofs.YtannniobeanhlaaGreat
/- Arguments that are rules by value: eight numbers and a Bool. -/
namespace Go.Proofs.YtannniobeanhlaaGreat
set_option linter.unusedSimpArgs false
set_option linter.unusedVariables false
set_option maxRecDepth 100000
open Go.ChangeShapes Go.WideShapes Go.ChangeAt Go.RowKit Go.Deep Go.Joins
section
variable {H : Type} {enc : TypeId × Value → H} {P : Program} {w : World} {base : Nat} {sp : Nat → Bool} {held : Bool}
/-- an i64's bounds. -/
def i64In (x : Int) : Prop := -9223372036854775808 ≤ x ∧ x ≤ 9223372036854775807
/-- what is known of a rule's numbers. -/
def RuleOK (L W B Sl Ce Ro Wi Tr : Int) : Prop := i64In L ∧ i64In W ∧ i64In B ∧ i64In Sl ∧ i64In Ce ∧ i64In Ro ∧ i64In Wi ∧ i64In Tr
end
end Go.Proofs.YtannniobeanhlaaGreat
