import Derived.Test.YtannniobeanhlaaGreatLift
import Derived.Deep.Fields
/- Arguments that are slices of structs of one-cell fields, opened. -/
namespace Go.Proofs.YtannniobeanhlaaGreat
set_option linter.unusedSimpArgs false
set_option linter.unusedVariables false
set_option maxRecDepth 100000
open Go.ChangeShapes Go.WideShapes Go.ChangeAt Go.RowKit Go.Deep

/-- A slice of structs of m cells, by index. -/
structure RdF (w : World) (A : Option Addr) (n c m : Nat) (V : Nat → Nat → Value) : Prop where
  cap : n ≤ c
  max : c ≤ maxLen
  at_ : 0 < n → ∃ b off, A = some ⟨b, off, none⟩ ∧ b < w.heap.size ∧ ∀ i j, i < n → j < m → w.cell? ⟨b, off + i * m + j, none⟩ = some (V i j)
theorem RdF.below {w w' : World} {A : Option Addr} {n c m : Nat} {V : Nat → Nat → Value} (h : RdF w A n c m V) (hb : Below w.heap.size w w') : RdF w' A n c m V :=
  ⟨h.cap, h.max, fun hn => by
    obtain ⟨b, off, e, hlt, hc⟩ := h.at_ hn
    exact ⟨b, off, e, Nat.lt_of_lt_of_le hlt hb.size, fun i j hi hj => by rw [hb.cell (p := ⟨b, off + i * m + j, none⟩) hlt]; exact hc i j hi hj⟩⟩
section
variable {H : Type} {enc : TypeId × Value → H} {P : Program}
/-- A slice of structs of two whole numbers. -/
structure RdP (w : World) (A : Option Addr) (n c : Nat) (x y : Nat → Int) : Prop where
  cap : n ≤ c
  max : c ≤ maxLen
  at_ : 0 < n → ∃ b off, A = some ⟨b, off, none⟩ ∧ b < w.heap.size ∧ ∀ i, i < n → w.cell? ⟨b, off + i * 2, none⟩ = some (.int .i64 (x i)) ∧ w.cell? ⟨b, off + i * 2 + 1, none⟩ = some (.int .i64 (y i))
  bx : ∀ i, i < n → -9223372036854775808 ≤ x i ∧ x i ≤ 9223372036854775807
  by_ : ∀ i, i < n → -9223372036854775808 ≤ y i ∧ y i ≤ 9223372036854775807
theorem RdP.below {w w' : World} {A : Option Addr} {n c : Nat} {x y : Nat → Int} (h : RdP w A n c x y) (hb : Below w.heap.size w w') : RdP w' A n c x y :=
  ⟨h.cap, h.max, fun hn => by
    obtain ⟨b, off, e, hlt, hc⟩ := h.at_ hn
    exact ⟨b, off, e, Nat.lt_of_lt_of_le hlt hb.size, fun i hi => by rw [hb.cell (p := ⟨b, off + i * 2, none⟩) hlt, hb.cell (p := ⟨b, off + i * 2 + 1, none⟩) hlt]; exact hc i hi⟩, h.bx, h.by_⟩
end
end Go.Proofs.YtannniobeanhlaaGreat
