/- Arguments that are rules by value: eight numbers and a Bool. -/
import Derived.Test.YtfpknklnbgmflaaReq
namespace Go.Proofs.Ytfpknklnbgmflaa
set_option linter.unusedSimpArgs false
set_option linter.unusedVariables false
open Go.ChangeShapes Go.WideShapes Go.ChangeAt Go.RowKit Go.Deep Go.Joins
section
variable {H : Type} {enc : TypeId × Value → H} {P : Program} {w : World} {base : Nat} {sp : Nat → Bool} {held : Bool}
/-- an i64's bounds. -/
def i64In (x : Int) : Prop := -9223372036854775808 ≤ x ∧ x ≤ 9223372036854775807
/-- what is known of a rule's numbers. -/
def RuleOK (L W B Sl Ce Ro Wi Tr : Int) : Prop := i64In L ∧ i64In W ∧ i64In B ∧ i64In Sl ∧ i64In Ce ∧ i64In Ro ∧ i64In Wi ∧ i64In Tr
theorem size9 {cs : Array Value} (h : cs.size = 9) {u0 u1 u2 u3 u4 u5 u6 u7 u8 : Value} (h0 : cs[0]? = some u0) (h1 : cs[1]? = some u1) (h2 : cs[2]? = some u2) (h3 : cs[3]? = some u3) (h4 : cs[4]? = some u4) (h5 : cs[5]? = some u5) (h6 : cs[6]? = some u6) (h7 : cs[7]? = some u7) (h8 : cs[8]? = some u8) : cs = #[u0, u1, u2, u3, u4, u5, u6, u7, u8] := by
  apply Array.ext_getElem?
  intro i
  match i with
  | 0 => exact h0
  | 1 => exact h1
  | 2 => exact h2
  | 3 => exact h3
  | 4 => exact h4
  | 5 => exact h5
  | 6 => exact h6
  | 7 => exact h7
  | 8 => exact h8
  | i + 9 => rw [Array.getElem?_eq_none (by omega), Array.getElem?_eq_none (by simp)]
theorem open_rule {r : Reach} {b0 : Nat} {t : TypeId} {f0 f1 f2 f3 f4 f5 f6 f7 f8 : Field} {v : Value} {d : DataW H} {p : List MemPlace} (hs : P.underlying t = some (.struct #[f0, f1, f2, f3, f4, f5, f6, f7, f8])) (hone : oneCellFields P #[f0, f1, f2, f3, f4, f5, f6, f7, f8] = true) (hC : P.cellsOf t = 9)
    (k0 : P.underlying f0.type = some (.int .i64)) (k1 : P.underlying f1.type = some (.int .i64)) (k2 : P.underlying f2.type = some (.int .i64)) (k3 : P.underlying f3.type = some (.int .i64)) (k4 : P.underlying f4.type = some (.int .i64)) (k5 : P.underlying f5.type = some (.int .i64)) (k6 : P.underlying f6.type = some (.int .i64)) (k7 : P.underlying f7.type = some (.int .i64))
    (k8 : P.underlying f8.type = some .bool)
    (hv : Value.okWide P w r b0 t v) (h : DataW.Trod enc P w base sp held t v d p) :
    ∃ (L W B Sl Ce Ro Wi Tr : Int) (sm : Bool), v = .agg #[.int .i64 L, .int .i64 W, .int .i64 B, .int .i64 Sl, .int .i64 Ce, .int .i64 Ro, .int .i64 Wi, .int .i64 Tr, .bool sm] ∧ RuleOK L W B Sl Ce Ro Wi Tr := by
  obtain ⟨cs, n, rfl, hsz, hf⟩ := open_fields hs hone hC hv h
  obtain ⟨u0, y0, c0, t0⟩ := hf 0 f0 rfl
  obtain ⟨u1, y1, c1, t1⟩ := hf 1 f1 rfl
  obtain ⟨u2, y2, c2, t2⟩ := hf 2 f2 rfl
  obtain ⟨u3, y3, c3, t3⟩ := hf 3 f3 rfl
  obtain ⟨u4, y4, c4, t4⟩ := hf 4 f4 rfl
  obtain ⟨u5, y5, c5, t5⟩ := hf 5 f5 rfl
  obtain ⟨u6, y6, c6, t6⟩ := hf 6 f6 rfl
  obtain ⟨u7, y7, c7, t7⟩ := hf 7 f7 rfl
  obtain ⟨u8, y8, c8, t8⟩ := hf 8 f8 rfl
  obtain ⟨L, rfl, g0⟩ := cell_int k0 t0
  obtain ⟨W, rfl, g1⟩ := cell_int k1 t1
  obtain ⟨B, rfl, g2⟩ := cell_int k2 t2
  obtain ⟨Sl, rfl, g3⟩ := cell_int k3 t3
  obtain ⟨Ce, rfl, g4⟩ := cell_int k4 t4
  obtain ⟨Ro, rfl, g5⟩ := cell_int k5 t5
  obtain ⟨Wi, rfl, g6⟩ := cell_int k6 t6
  obtain ⟨Tr, rfl, g7⟩ := cell_int k7 t7
  obtain ⟨sm, e8, _⟩ := DataW.trod_bool k8 t8
  simp only [List.cons.injEq, and_true] at e8
  subst e8
  exact ⟨L, W, B, Sl, Ce, Ro, Wi, Tr, sm, by rw [size9 hsz c0 c1 c2 c3 c4 c5 c6 c7 c8], bounds_i64 g0, bounds_i64 g1, bounds_i64 g2, bounds_i64 g3, bounds_i64 g4, bounds_i64 g5, bounds_i64 g6, bounds_i64 g7⟩
end
end Go.Proofs.Ytfpknklnbgmflaa
