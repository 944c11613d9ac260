/- The contract of arith.Sum: the nearest sum. -/
import Derived.Test.YtmdkokehomboaaaRows
import Derived.Test.YtmdkokehomboaaaArMath
import Derived.WalkKit
import Derived.ProofKit
import Derived.OpenShut
import Derived.Lib.Hide
namespace Go.Proofs.Ytmdkokehomboaaa
set_option linter.unusedSimpArgs false
set_option linter.unusedVariables false
set_option maxRecDepth 100000
open Go.ChangeShapes Go.WideShapes Go.ChangeAt Go.RowKit
open Ar (inR)
theorem ret_i {k : IntKind} {a b : Int} (h : a = b) : Ending.returned (.int k a) = .returned (.int k b) := by rw [h]
theorem ret_b {a b : Bool} (h : a = b) : Ending.returned (.bool a) = .returned (.bool b) := by rw [h]
theorem ret_ib {k : IntKind} {a b : Int} {c d : Bool} (h : a = b) (g : c = d) : Ending.returned (.tuple #[.int k a, .bool c]) = .returned (.tuple #[.int k b, .bool d]) := by rw [h, g]

theorem beq_dec {P Q R : Prop} [Decidable P] [Decidable Q] [Decidable R] (h : (P ↔ Q) ↔ R) : (decide P == decide Q) = decide R := by
  by_cases hp : P <;> by_cases hq : Q <;> by_cases hr : R <;> simp_all
theorem add_iff {a b : Int} (ha : inR a) (hb : inR b) : (a ≤ wrap64 (a + b) ↔ 0 ≤ b) ↔ inR (a + b) := by
  unfold inR wrap64 at *
  by_cases h : 0 ≤ b
  · simp only [h, iff_true]; omega
  · simp only [h, iff_false]; omega
theorem add_any (a b : Int) (ha : inR a) (hb : inR b) (w : World) :
    Calls Try.prog 35 #[.int .i64 a, .int .i64 b] w fun e w' => e = .returned (.tuple #[.int .i64 (wrap64 (a + b)), .bool (decide (inR (a + b)))]) ∧ w = w' := by
  unfold inR at *
  go_enter Try.func35, Try.ntmps35
  go_wp2
  go_ret2
  exact ⟨ret_ib rfl (beq_dec (add_iff ha hb)), rfl⟩
def clamp (n : Int) : Int := if n < -9223372036854775808 then -9223372036854775808 else if 9223372036854775807 < n then 9223372036854775807 else n
theorem edge_any (b : Bool) (w : World) :
    Calls Try.prog 36 #[.bool b] w fun e w' => e = .returned (.int .i64 (if b then -9223372036854775808 else 9223372036854775807)) ∧ w = w' := by
  cases b
  all_goals
    go_enter Try.func36, Try.ntmps36
    go_wp2
    go_ret
    exact ⟨rfl, rfl⟩
theorem sum_any (a b : Int) (ha : inR a) (hb : inR b) (w : World) :
    Calls Try.prog 28 #[.int .i64 a, .int .i64 b] w fun e w' => e = .returned (.int .i64 (clamp (a + b))) ∧ w = w' := by
  by_cases h : inR (a + b)
  · have hd : decide (inR (a + b)) = true := by rw [decide_eq_true_eq]; exact h
    have HA := Lib.hid ha
    have HB := Lib.hid hb
    have HH := Lib.hid h
    clear h ha hb
    go_enter Try.func28, Try.ntmps28
    go_wp2_with (go_at_call 35; refine (add_any _ _ HA.out HB.out _).mono ?_; rintro e w' ⟨rfl, rfl⟩)
    go_ret
    have h := HH.out
    exact ⟨ret_i (by rw [Ar.wrap_eq h]; unfold clamp; unfold inR at h; rw [if_neg (by omega), if_neg (by omega)]), rfl⟩
  · have hd : decide (inR (a + b)) = false := by rw [decide_eq_false_iff_not]; exact h
    have HA := Lib.hid ha
    have HB := Lib.hid hb
    have HH := Lib.hid h
    clear h ha hb
    go_enter Try.func28, Try.ntmps28
    go_wp2_with (first | (go_at_call 35; refine (add_any _ _ HA.out HB.out _).mono ?_; rintro e w' ⟨rfl, rfl⟩) | (go_at_call 36; refine (edge_any _ _).mono ?_; rintro e w' ⟨rfl, rfl⟩))
    all_goals
      go_ret
      have h := HH.out
      have ha := HA.out
      have hb := HB.out
      unfold inR at h ha hb
      refine ⟨ret_i ?_, rfl⟩
      unfold clamp
      first | rw [if_pos (by omega)] | rw [if_neg (by omega), if_pos (by omega)]
end Go.Proofs.Ytmdkokehomboaaa
