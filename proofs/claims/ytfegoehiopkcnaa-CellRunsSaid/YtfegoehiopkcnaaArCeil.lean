/- The contract of arith.Ceil: the quotient to the next whole number up. -/
import Derived.Test.YtfegoehiopkcnaaArSum
namespace Go.Proofs.Ytfegoehiopkcnaa
set_option linter.unusedSimpArgs false
set_option linter.unusedVariables false
set_option maxRecDepth 100000
open Go.ChangeShapes Go.WideShapes Go.ChangeAt Go.RowKit
open Ar (inR)
theorem ceil_any (a b : Int) (ha : inR a) (hb : inR b) (w : World) :
    Calls Try.prog 25 #[.int .i64 a, .int .i64 b] w fun e w' => e = .returned (.int .i64 (if a < 0 ∨ b < 1 then 0 else if a % b = 0 then a / b else a / b + 1)) ∧ w = w' := by
  unfold inR at ha hb
  by_cases h1 : a < 0 ∨ b < 1
  · rw [if_pos h1]
    have H1 := Lib.hid h1
    go_enter Try.func25, Try.ntmps25
    go_wp2
    all_goals go_ret
    all_goals exact ⟨rfl, rfl⟩
  · rw [if_neg h1]
    have h0 : 0 ≤ a := by omega
    have h2 : 1 ≤ b := by omega
    have e3 := Int.ediv_le_self b h0
    have e4 := Int.ediv_nonneg h0 (by omega : 0 ≤ b)
    clear h1
    by_cases hm : a % b = 0
    · rw [if_pos hm]
      have t : (a % b != 0) = false := by rw [bne_eq_false_iff_eq]; exact hm
      clear hm
      go_enter Try.func25, Try.ntmps25
      go_wp2
      go_ret
      exact ⟨rfl, rfl⟩
    · rw [if_neg hm]
      have t : (a % b != 0) = true := by rw [bne_iff_ne]; exact hm
      have e5 : a / b < 9223372036854775807 := by
        apply Classical.byContradiction
        intro g9
        have g : a / b = 9223372036854775807 := by omega
        have hb1 : b ≠ 1 := by intro g2; subst g2; exact hm (Int.emod_one a)
        have := Int.mul_ediv_add_emod a b
        rw [g] at this
        have g3 := Int.emod_nonneg a (by omega : b ≠ 0)
        omega
      clear hm
      go_enter Try.func25, Try.ntmps25
      go_wp2
      go_ret
      exact ⟨rfl, rfl⟩
end Go.Proofs.Ytfegoehiopkcnaa
