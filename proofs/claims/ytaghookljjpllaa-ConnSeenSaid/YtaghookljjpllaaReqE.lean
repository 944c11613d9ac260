/- Equality of two requests, as the program asks it. -/
import Derived.Test.YtaghookljjpllaaNum
import Derived.Laws.StructEq
import Derived.WalkKit
namespace Go.Proofs.Ytaghookljjpllaa
set_option linter.unusedSimpArgs false
set_option linter.unusedVariables false
open Go.ChangeShapes Go.WideShapes Go.ChangeAt Go.RowKit
theorem req_equal (o r c k o' r' c' k' : Int) (s s' : ByteArray) (w : World) :
    (Op.equalIn 10000 41 (.agg #[.int .i64 o, .int .i64 r, .int .u32 c, .string s, .int .i64 k]) (.agg #[.int .i64 o', .int .i64 r', .int .u32 c', .string s', .int .i64 k'])).run Try.prog w = .ok (decide (o = o' ∧ r = r' ∧ c = c' ∧ s = s' ∧ k = k')) w := by
  have hS : Try.prog.underlying 41 = some (.struct (Try.prog.fieldsOf 41)) := by kernel_rfl
  have hp : Try.prog.stoodInHeld 41 = false := by kernel_rfl
  have hb : (s.toList == s'.toList) = decide (s = s') := by
    by_cases h : s = s'
    · subst h; simp
    · rw [decide_eq_false h]
      refine beq_eq_false_iff_ne.2 (fun e => h ?_)
      rw [ByteArray.toList_eq, ByteArray.toList_eq] at e
      exact ByteArray.ext (Array.ext' e)
  rw [show (10000 : Nat) = 9999 + 1 from rfl, run_equalIn_agg w 9999 41 _ _ hS hp]
  simp only [Program.fieldsOf, Try.underlying41]
  go_simp
  by_cases h1 : o = o' <;> by_cases h2 : r = r' <;> by_cases h3 : c = c' <;> by_cases h4 : s = s' <;> by_cases h5 : k = k' <;> simp [h1, h2, h3, h4, h5, hb]
end Go.Proofs.Ytaghookljjpllaa
