/- Arguments that are structs of one-cell fields, any number of them: requests. -/
import Derived.Test.YteeinckmmbdfoaaLiftS
import Derived.ChangeMaps5
import Derived.Deep.Fields
namespace Go.Proofs.Yteeinckmmbdfoaa
set_option linter.unusedSimpArgs false
set_option linter.unusedVariables false
set_option maxRecDepth 100000
open Go.ChangeShapes Go.WideShapes Go.ChangeAt Go.RowKit Go.Deep Go.Joins
section
variable {H : Type} {enc : TypeId × Value → H} {P : Program} {w : World} {base : Nat} {sp : Nat → Bool} {held : Bool}
/-- each field of a struct by value, with its reading. -/
theorem open_fields {r : Reach} {b0 : Nat} {t : TypeId} {fs : Array Field} {v : Value} {d : DataW H} {p : List MemPlace} (hs : P.underlying t = some (.struct fs)) (hone : oneCellFields P fs = true) (hC : P.cellsOf t = fs.size)
    (hv : Value.okWide P w r b0 t v) (h : DataW.Trod enc P w base sp held t v d p) :
    ∃ (cs : Array Value) (n : Nat), v = .agg cs ∧ cs.size = fs.size ∧ ∀ (j : Nat) (f : Field), fs[j]? = some f → ∃ (u : Value) (y : DataW H × List MemPlace), cs[j]? = some u ∧ DataW.trod enc P w base sp held n f.type [u] = some y := by
  obtain ⟨cs, rfl, hsz⟩ := okWide_struct hs hv
  obtain ⟨fuel, hf⟩ := h
  obtain ⟨xs, n, _, _, _, hlen, hg⟩ := DataW.trod_struct hs hf
  refine ⟨cs, n, rfl, hsz.trans hC, fun j f hj => ?_⟩
  obtain ⟨o, k⟩ := hone_of hone j f hj
  have hjl : j < fs.size := (Array.getElem?_eq_some_iff.1 hj).1
  have hjc : j < cs.size := by rw [hsz, hC]; exact hjl
  have h1 := hg j f hj
  rw [o, k] at h1
  have e : ((Value.agg cs).cells.toList.drop j).take 1 = [cs[j]] := by
    have : (Value.agg cs).cells.toList = cs.toList := rfl
    rw [this, List.drop_eq_getElem_cons (by simpa using hjc)]
    simp
  rw [e] at h1
  exact ⟨cs[j], _, Array.getElem?_eq_getElem hjc, h1.trans (List.getElem?_eq_getElem (by omega))⟩
theorem cell_int {k : IntKind} {t : TypeId} {n : Nat} {v : Value} {y : DataW H × List MemPlace} (ht : P.underlying t = some (.int k)) (h : DataW.trod enc P w base sp held n t [v] = some y) : ∃ a : Int, v = .int k a ∧ (Lit.int k a).wf = true := by
  obtain ⟨a, h1, _, h3⟩ := DataW.trod_int ht h
  simp only [List.cons.injEq, and_true] at h1
  exact ⟨a, h1, h3⟩
/-- what is known of a request's numbers. -/
def ReqOK (op rule cost k : Int) (s : ByteArray) : Prop := (-9223372036854775808 ≤ op ∧ op ≤ 9223372036854775807) ∧ (-9223372036854775808 ≤ rule ∧ rule ≤ 9223372036854775807) ∧ (0 ≤ cost ∧ cost < 4294967296) ∧ (-9223372036854775808 ≤ k ∧ k ≤ 9223372036854775807) ∧ s.size ≤ maxLen
theorem size5 {cs : Array Value} (h : cs.size = 5) {u0 u1 u2 u3 u4 : Value} (h0 : cs[0]? = some u0) (h1 : cs[1]? = some u1) (h2 : cs[2]? = some u2) (h3 : cs[3]? = some u3) (h4 : cs[4]? = some u4) : cs = #[u0, u1, u2, u3, u4] := by
  apply Array.ext_getElem?
  intro i
  match i with
  | 0 => exact h0
  | 1 => exact h1
  | 2 => exact h2
  | 3 => exact h3
  | 4 => exact h4
  | i + 5 => rw [Array.getElem?_eq_none (by omega), Array.getElem?_eq_none (by simp)]
theorem open_req {r : Reach} {b0 : Nat} {t : TypeId} {f0 f1 f2 f3 f4 : Field} {v : Value} {d : DataW H} {p : List MemPlace} (hs : P.underlying t = some (.struct #[f0, f1, f2, f3, f4])) (hone : oneCellFields P #[f0, f1, f2, f3, f4] = true) (hC : P.cellsOf t = 5)
    (k0 : P.underlying f0.type = some (.int .i64)) (k1 : P.underlying f1.type = some (.int .i64)) (k2 : P.underlying f2.type = some (.int .u32)) (k3 : P.underlying f3.type = some .string) (k4 : P.underlying f4.type = some (.int .i64))
    (hv : Value.okWide P w r b0 t v) (h : DataW.Trod enc P w base sp held t v d p) :
    ∃ (op rule cost k : Int) (s : ByteArray), v = .agg #[.int .i64 op, .int .i64 rule, .int .u32 cost, .string s, .int .i64 k] ∧ ReqOK op rule cost k s := by
  obtain ⟨cs, n, rfl, hsz, hf⟩ := open_fields hs hone hC hv h
  obtain ⟨u0, y0, c0, t0⟩ := hf 0 f0 rfl
  obtain ⟨u1, y1, c1, t1⟩ := hf 1 f1 rfl
  obtain ⟨u2, y2, c2, t2⟩ := hf 2 f2 rfl
  obtain ⟨u3, y3, c3, t3⟩ := hf 3 f3 rfl
  obtain ⟨u4, y4, c4, t4⟩ := hf 4 f4 rfl
  obtain ⟨op, rfl, g0⟩ := cell_int k0 t0
  obtain ⟨rule, rfl, g1⟩ := cell_int k1 t1
  obtain ⟨cost, rfl, g2⟩ := cell_int k2 t2
  obtain ⟨s, e3, _, g3⟩ := DataW.trod_string k3 t3
  simp only [List.cons.injEq, and_true] at e3
  subst e3
  obtain ⟨k, rfl, g4⟩ := cell_int k4 t4
  refine ⟨op, rule, cost, k, s, by rw [size5 hsz c0 c1 c2 c3 c4], bounds_i64 g0, bounds_i64 g1, ?_, bounds_i64 g4, g3⟩
  have := bounds_u32 g2
  omega
end
end Go.Proofs.Yteeinckmmbdfoaa
