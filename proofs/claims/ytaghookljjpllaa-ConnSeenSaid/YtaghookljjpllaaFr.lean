/- The contracts of layer 13 (frame): what may be a request. -/
import Derived.Test.YtaghookljjpllaaFrN
namespace Go.Proofs.Ytaghookljjpllaa
set_option linter.unusedSimpArgs false
set_option linter.unusedVariables false
open Go.ChangeShapes Go.WideShapes Go.ChangeAt Go.RowKit
abbrev reqC (op rule cost : Int) (s : ByteArray) (k : Int) : Array Value := #[.int .i64 op, .int .i64 rule, .int .u32 cost, .string s, .int .i64 k]
abbrev reqV (op rule cost : Int) (s : ByteArray) (k : Int) : Value := .agg (reqC op rule cost s k)
def mkR (op rule cost : Int) (s : ByteArray) (k : Int) : Req := ⟨op, rule, cost, nums s, k⟩
theorem str_ne {s : ByteArray} (h : s.size ≠ 0) : s.toList.isEmpty = false ∧ (!s.toList.isEmpty) = true := by
  have : s.toList ≠ [] := by
    rw [ByteArray.toList_eq]
    intro e
    exact h (by rw [← nums_length]; unfold nums; rw [e]; rfl)
  constructor <;> simp [this]
theorem nums_e : nums ⟨#[]⟩ = [] := rfl
end Go.Proofs.Ytaghookljjpllaa
