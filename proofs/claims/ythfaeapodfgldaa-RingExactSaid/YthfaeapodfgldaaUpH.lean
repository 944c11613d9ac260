/- The contract of arith.Up, for seats that lack the rest of layer 1. -/
import Derived.Test.YthfaeapodfgldaaDownH
namespace Go.Proofs.Ythfaeapodfgldaa
set_option linter.unusedSimpArgs false
set_option linter.unusedVariables false
open Go.ChangeShapes Go.WideShapes Go.ChangeAt Go.RowKit
/-- what Up answers: the next whole number up, where it fits. -/
def upQ (q r : Nat) : Nat := if r = 0 then q else q + 1
theorem up_fit (a b c q r : Nat) (ha : a < 18446744073709551616) (hb : b < 18446744073709551616) (hc : c < 18446744073709551616) (h : Quo a b c q r) (hq : q < 18446744073709551615) (w : World) :
    Calls Try.prog 40 #[.int .u64 a, .int .u64 b, .int .u64 c] w fun e w' => e = .returned (.tuple #[.int .u64 (upQ q r : Nat), .bool true]) ∧ ∃ n, w' = w.drewN n := by
  have H := Lib.hid h
  clear h
  by_cases h0 : r = 0
  · subst h0
    have e1 : upQ q 0 = q := rfl
    rw [e1]
    clear e1
    go_enter Try.func40, Try.ntmps40
    go_wp2_with (first | (go_at_call 44; refine (divided_yes a b c q 0 ha hb hc H.out _).mono ?_; rintro e w' ⟨rfl, n, rfl⟩))
    go_ret2
    exact ⟨rfl, n, rfl⟩
  · have t0 : ((r : Int) == 0) = false := by rw [beq_eq_false_iff_ne]; omega
    have e1 : upQ q r = q + 1 := by unfold upQ; rw [if_neg h0]
    rw [e1]
    clear e1
    have t1 : ((q : Int) == 18446744073709551615) = false := by rw [beq_eq_false_iff_ne]; omega
    clear h0
    go_enter Try.func40, Try.ntmps40
    go_wp2_with (first | (go_at_call 44; refine (divided_yes a b c q r ha hb hc H.out _).mono ?_; rintro e w' ⟨rfl, n, rfl⟩))
    go_ret2
    refine ⟨?_, n, rfl⟩
    have : ((q + 1 : Nat) : Int) = (q : Int) + 1 := by omega
    rw [this]; rfl
end Go.Proofs.Ythfaeapodfgldaa
