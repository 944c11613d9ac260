/- Arguments that are structs of four whole numbers and a truth value, by value. -/
import Derived.Test.YthfaeapodfgldaaReq
namespace Go.Proofs.Ythfaeapodfgldaa
set_option linter.unusedSimpArgs false
set_option linter.unusedVariables false
open Go.ChangeShapes Go.WideShapes Go.ChangeAt Go.RowKit Go.Deep Go.Joins
section
variable {H : Type} {enc : TypeId × Value → H} {P : Program} {w : World} {base : Nat} {sp : Nat → Bool} {held : Bool}
theorem open_pln {r : Reach} {b0 : Nat} {t : TypeId} {f0 f1 f2 f3 f4 : Field} {v : Value} {d : DataW H} {p : List MemPlace} (hs : P.underlying t = some (.struct #[f0, f1, f2, f3, f4])) (hone : oneCellFields P #[f0, f1, f2, f3, f4] = true) (hC : P.cellsOf t = 5)
    (k0 : P.underlying f0.type = some (.int .i64)) (k1 : P.underlying f1.type = some (.int .i64)) (k2 : P.underlying f2.type = some (.int .i64)) (k3 : P.underlying f3.type = some (.int .i64)) (k4 : P.underlying f4.type = some .bool)
    (hv : Value.okWide P w r b0 t v) (h : DataW.Trod enc P w base sp held t v d p) :
    ∃ (a b c x : Int) (y : Bool), v = .agg #[.int .i64 a, .int .i64 b, .int .i64 c, .int .i64 x, .bool y] := by
  obtain ⟨cs, n, rfl, hsz, hf⟩ := open_fields hs hone hC hv h
  obtain ⟨u0, y0, c0, t0⟩ := hf 0 f0 rfl
  obtain ⟨u1, y1, c1, t1⟩ := hf 1 f1 rfl
  obtain ⟨u2, y2, c2, t2⟩ := hf 2 f2 rfl
  obtain ⟨u3, y3, c3, t3⟩ := hf 3 f3 rfl
  obtain ⟨u4, y4, c4, t4⟩ := hf 4 f4 rfl
  obtain ⟨a, rfl, _⟩ := cell_int k0 t0
  obtain ⟨b, rfl, _⟩ := cell_int k1 t1
  obtain ⟨c, rfl, _⟩ := cell_int k2 t2
  obtain ⟨x, rfl, _⟩ := cell_int k3 t3
  obtain ⟨y, e4, _⟩ := DataW.trod_bool k4 t4
  simp only [List.cons.injEq, and_true] at e4
  subst e4
  exact ⟨a, b, c, x, y, by rw [size5 hsz c0 c1 c2 c3 c4]⟩
end
end Go.Proofs.Ythfaeapodfgldaa
