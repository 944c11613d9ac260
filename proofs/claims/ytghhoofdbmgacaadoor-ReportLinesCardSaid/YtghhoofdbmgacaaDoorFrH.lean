/- The contracts of layer 13 (frame): Parse. -/
import Derived.Test.YtghhoofdbmgacaaDoorFrG
import Derived.Test.YtghhoofdbmgacaaDoorFrP
namespace Go.Proofs.YtghhoofdbmgacaaDoor
set_option linter.unusedSimpArgs false
set_option linter.unusedVariables false
open Go.ChangeShapes Go.WideShapes Go.ChangeAt Go.RowKit
theorem results_cell2 {P : Program} {fn : Func} {p u1 u2 : Tmp} {ty : TypeId} (h : fn.results = #[.cell p ty, .tmp u1, .tmp u2]) (tmps : Array Value) (w : World) (g : Nat) (t : TypeId) (cs : Array Value) (fr : Nat × Nat) (d : TypeDesc)
    (hp : tmps.getD p undef = .pointer (some ⟨g, 0, none⟩)) (hg : w.heap[g]? = some (.cells cs t fr))
    (hu : P.underlying ty = some d) (hd : (match d with | .struct _ | .array _ _ => true | _ => false) = true) (hi : (P.info? ty).map (·.size) = some cs.size) :
    (results fn tmps).run P w = .ok (.tuple #[.agg cs, tmps.getD u1 undef, tmps.getD u2 undef]) w := by
  have hp' : tmps[p]?.getD undef = .pointer (some ⟨g, 0, none⟩) := by simpa using hp
  simp [results, h, hp', asAddr, run_loadVar_row w g t ty cs fr d hg hu hd hi]
theorem clean_step {z : List Int} {rules : Int} {i : Nat} (h : cleanZ z rules i) (hf : fltZ z rules i = 0) (hw : ¬ wholeAt z i) : cleanZ z rules (i + 1) := fun t ht => by
  rcases Nat.lt_succ_iff_lt_or_eq.1 ht with g | rfl
  · exact h t g
  · exact ⟨hf, hw⟩
def parsedV (r : Req × Int × Int) : Value := .tuple #[reqOf r.1, .int .i64 r.2.1, .int .i64 r.2.2]
theorem parsed_mk {q : Req} {m e : Int} {r : Req × Int × Int} (h : r = (q, m, e)) : parsedV r = .tuple #[reqOf q, .int .i64 m, .int .i64 e] := by rw [h]; rfl
end Go.Proofs.YtghhoofdbmgacaaDoor
