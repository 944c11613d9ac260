/- The laws of layer 14 (decode), walked: the example, ends. -/
import Derived.Test.YtaghookljjpllaaDcB
import Derived.Test.YtaghookljjpllaaReqE
namespace Go.Proofs.Ytaghookljjpllaa
set_option linter.unusedSimpArgs false
set_option linter.unusedVariables false
open Go.ChangeShapes Go.WideShapes Go.ChangeAt Go.RowKit
theorem zero_in (rules : Int) : DecIn zero75 [] rules := ⟨zero75_len, fun z hz => by have := List.eq_of_mem_replicate hz; omega, rfl, clean_nil rules⟩
theorem dec_new {w : World} {b : Nat} {rules : Int} (h : Blk w b 48 (decC zero75 0 rules 0)) : DecAt w b [] rules 0 := ⟨zero75, zero_in rules, h⟩
theorem parse_first : parseZ ([] ++ [0]) 1 = (req0, 0, 5) := by rfl
end Go.Proofs.Ytaghookljjpllaa
