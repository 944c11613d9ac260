/- The contract of arith.Down. -/
import Derived.Test.YtmdkokehomboaaaFieldH
namespace Go.Proofs.Ytmdkokehomboaaa
set_option linter.unusedSimpArgs false
set_option linter.unusedVariables false
set_option maxRecDepth 100000
open Go.ChangeShapes Go.WideShapes Go.ChangeAt Go.RowKit
theorem ret_iib {k : IntKind} {a a' b b' : Int} {c d : Bool} (h : a = a') (h' : b = b') (g : c = d) : Ending.returned (.tuple #[.int k a, .int k b, .bool c]) = .returned (.tuple #[.int k a', .int k b', .bool d]) := by rw [h, h', g]

/-- What a quotient of a product is. -/
structure Quo (a b c q r : Nat) : Prop where
  lt : a * b / 18446744073709551616 < c
  dq : q = a * b / c
  dr : r = a * b % c
  qb : q < 18446744073709551616
  rb : r < c
theorem Quo.of {a b c : Nat} (h : a * b / 18446744073709551616 < c) : Quo a b c (a * b / c) (a * b % c) :=
  ⟨h, rfl, rfl, by
    rw [Nat.div_lt_iff_lt_mul (by omega)]
    have : a * b < c * 18446744073709551616 := by omega
    rw [Nat.mul_comm 18446744073709551616]; exact this, Nat.mod_lt _ (by omega)⟩

theorem divided_yes (a b c q r : Nat) (ha : a < 18446744073709551616) (hb : b < 18446744073709551616) (hc : c < 18446744073709551616) (h : Quo a b c q r) (w : World) :
    Calls Try.prog 44 #[.int .u64 a, .int .u64 b, .int .u64 c] w fun e w' => e = .returned (.tuple #[.int .u64 q, .int .u64 r, .bool true]) ∧ ∃ n, w' = w.drewN n := by
  have h1 := h.lt
  obtain ⟨hi, hhi⟩ : ∃ x, x = a * b / 18446744073709551616 := ⟨_, rfl⟩
  obtain ⟨lo, hlo⟩ : ∃ x, x = a * b % 18446744073709551616 := ⟨_, rfl⟩
  have cm := fun w => mul64_any a b ha hb w
  rw [← hhi, ← hlo] at cm
  have hl : lo < 18446744073709551616 := by omega
  rw [← hhi] at h1
  have cd := fun w => div64_any hi lo c hc hl h1 w
  have e : hi * 18446744073709551616 + lo = a * b := by omega
  rw [e, ← h.dq, ← h.dr] at cd
  have hq := h.qb
  have hr := h.rb
  have CM := Lib.hid cm
  have CD := Lib.hid cd
  clear cm cd e hhi hlo h
  have t1 : decide (c ≤ hi) = false := by rw [decide_eq_false_iff_not]; omega
  go_enter Try.func44, Try.ntmps44
  go_wp2_with (first | (go_at_call 45; refine (CM.out _).mono ?_; rintro e w' ⟨rfl, rfl⟩) | (go_at_call 47; refine (CD.out _).mono ?_; rintro e w' ⟨rfl, n, rfl⟩))
  go_ret3
  exact ⟨rfl, n, rfl⟩
theorem divided_no (a b c : Nat) (ha : a < 18446744073709551616) (hb : b < 18446744073709551616) (hc : c < 18446744073709551616) (h : c ≤ a * b / 18446744073709551616) (w : World) :
    Calls Try.prog 44 #[.int .u64 a, .int .u64 b, .int .u64 c] w fun e w' => e = .returned (.tuple #[.int .u64 0, .int .u64 0, .bool false]) ∧ w = w' := by
  obtain ⟨hi, hhi⟩ : ∃ x, x = a * b / 18446744073709551616 := ⟨_, rfl⟩
  obtain ⟨lo, hlo⟩ : ∃ x, x = a * b % 18446744073709551616 := ⟨_, rfl⟩
  have cm := fun w => mul64_any a b ha hb w
  rw [← hhi, ← hlo] at cm
  rw [← hhi] at h
  have CM := Lib.hid cm
  clear cm hhi hlo
  have t1 : decide (c ≤ hi) = true := by rw [decide_eq_true_eq]; omega
  go_enter Try.func44, Try.ntmps44
  go_wp2_with (first | (go_at_call 45; refine (CM.out _).mono ?_; rintro e w' ⟨rfl, rfl⟩))
  go_ret3
  exact ⟨rfl, rfl⟩
theorem down_yes (a b c q r : Nat) (ha : a < 18446744073709551616) (hb : b < 18446744073709551616) (hc : c < 18446744073709551616) (h : Quo a b c q r) (w : World) :
    Calls Try.prog 38 #[.int .u64 a, .int .u64 b, .int .u64 c] w fun e w' => e = .returned (.tuple #[.int .u64 q, .bool true]) ∧ ∃ n, w' = w.drewN n := by
  have H := Lib.hid h
  clear h
  go_enter Try.func38, Try.ntmps38
  go_wp2_with (first | (go_at_call 44; refine (divided_yes a b c q r ha hb hc H.out _).mono ?_; rintro e w' ⟨rfl, n, rfl⟩))
  go_ret2
  exact ⟨rfl, n, rfl⟩
theorem down_no (a b c : Nat) (ha : a < 18446744073709551616) (hb : b < 18446744073709551616) (hc : c < 18446744073709551616) (h : c ≤ a * b / 18446744073709551616) (w : World) :
    Calls Try.prog 38 #[.int .u64 a, .int .u64 b, .int .u64 c] w fun e w' => e = .returned (.tuple #[.int .u64 0, .bool false]) ∧ w = w' := by
  have H := Lib.hid h
  clear h
  go_enter Try.func38, Try.ntmps38
  go_wp2_with (first | (go_at_call 44; refine (divided_no a b c ha hb hc H.out _).mono ?_; rintro e w' ⟨rfl, rfl⟩))
  go_ret2
  exact ⟨rfl, rfl⟩
end Go.Proofs.Ytmdkokehomboaaa
