/- The contracts of field.Of, Add and Mul. -/
import Derived.Test.YtmdkokehomboaaaRows
import Derived.Test.YtmdkokehomboaaaDiv
import Derived.Test.YtmdkokehomboaaaFpMath
import Derived.Test.YtmdkokehomboaaaArMath
import Derived.Deep.LoopGhost
namespace Go.Proofs.Ytmdkokehomboaaa
set_option linter.unusedSimpArgs false
set_option linter.unusedVariables false
set_option maxRecDepth 100000
open Go.ChangeShapes Go.WideShapes Go.ChangeAt Go.RowKit

theorem ret_i {k : IntKind} {a b : Int} (h : a = b) : Ending.returned (.int k a) = .returned (.int k b) := by rw [h]
theorem ret_b {a b : Bool} (h : a = b) : Ending.returned (.bool a) = .returned (.bool b) := by rw [h]
theorem mul64_any (x y : Nat) (hx : x < 18446744073709551616) (hy : y < 18446744073709551616) (w : World) :
    Calls Try.prog 45 #[.int .u64 x, .int .u64 y] w fun e w' => e = .returned (.tuple #[.int .u64 ((x * y / 18446744073709551616 : Nat) : Int), .int .u64 ((x * y % 18446744073709551616 : Nat) : Int)]) ∧ w = w' :=
  (Try.bits_Mul64 x y hx hy w).mono fun _ _ ⟨h, g⟩ => ⟨h, g.symm⟩
theorem rem64_any (hi lo y : Nat) (hhi : hi < 18446744073709551616) (hlo : lo < 18446744073709551616) (hy : y < 18446744073709551616) (h0 : 0 < y) (w : World) :
    Calls Try.prog 46 #[.int .u64 hi, .int .u64 lo, .int .u64 y] w fun e w' => e = .returned (.int .u64 ((hi * 18446744073709551616 + lo) % y : Nat)) ∧ ∃ n, w' = w.drewN n := by
  obtain ⟨h, hh⟩ : ∃ h, h = hi % y := ⟨_, rfl⟩
  have hl : h < y := by rw [hh]; exact Nat.mod_lt _ h0
  have cd := fun w => div64_any h lo y hy hlo hl w
  have e : (h * 18446744073709551616 + lo) % y = (hi * 18446744073709551616 + lo) % y := by rw [hh]; exact Fp.rem_two hi lo y
  rw [e] at cd
  have CD := Lib.hid cd
  have e1 : (hi : Int) % (y : Int) = (h : Int) := by rw [hh, Int.natCast_emod]
  have t0 : ((y : Int) == 0) = false := by rw [beq_eq_false_iff_ne]; omega
  have t1 : ¬ (y = 0) := by omega
  clear cd e hh
  go_enter Try.func46, Try.ntmps46
  go_wp2_with (first | (go_at_call 47; refine (CD.out _).mono ?_; rintro e w' ⟨rfl, n, rfl⟩))
  go_ret
  exact ⟨rfl, n, rfl⟩
theorem fof_any (x : Nat) (hx : x < 18446744073709551616) (w : World) :
    Calls Try.prog 24 #[.int .u64 x] w fun e w' => e = .returned (.int .u64 (x % 2305843009213693951 : Nat)) ∧ w = w' := by
  obtain ⟨r, hr⟩ : ∃ r, r = x % 2305843009213693951 := ⟨_, rfl⟩
  have e1 : (x : Int) % 2305843009213693951 = (r : Int) := by omega
  rw [← hr]
  have hb : r < 2305843009213693951 := by omega
  clear hr
  go_enter Try.func24, Try.ntmps24
  go_wp2
  go_ret
  exact ⟨ret_i (by first | exact e1 | rfl), rfl⟩
theorem fadd_any (a b : Nat) (h : a + b < 18446744073709551616) (w : World) :
    Calls Try.prog 39 #[.int .u64 a, .int .u64 b] w fun e w' => e = .returned (.int .u64 ((a + b) % 2305843009213693951 : Nat)) ∧ w = w' := by
  obtain ⟨s, hs⟩ : ∃ r, r = a + b := ⟨_, rfl⟩
  have c := fun w => fof_any s (by omega) w
  rw [← hs]
  have e1 : (a : Int) + (b : Int) = (s : Int) := by omega
  have C := Lib.hid c
  clear c hs
  go_enter Try.func39, Try.ntmps39
  go_wp2_with (first | (go_at_call 24; refine (C.out _).mono ?_; rintro e w' ⟨rfl, rfl⟩))
  go_ret
  exact ⟨rfl, rfl⟩
theorem fmul_any (a b : Nat) (ha : a < 18446744073709551616) (hb : b < 18446744073709551616) (w : World) :
    Calls Try.prog 40 #[.int .u64 a, .int .u64 b] w fun e w' => e = .returned (.int .u64 (a * b % 2305843009213693951 : Nat)) ∧ ∃ n, w' = w.drewN n := by
  obtain ⟨hi, hhi⟩ : ∃ x, x = a * b / 18446744073709551616 := ⟨_, rfl⟩
  obtain ⟨lo, hlo⟩ : ∃ x, x = a * b % 18446744073709551616 := ⟨_, rfl⟩
  have cm := fun w => mul64_any a b ha hb w
  rw [← hhi, ← hlo] at cm
  have hl : lo < 18446744073709551616 := by omega
  have hh : hi < 18446744073709551616 := by
    have : a * b ≤ 18446744073709551616 * 18446744073709551616 := Nat.mul_le_mul (by omega) (by omega)
    have : a * b < 18446744073709551616 * 18446744073709551616 := by
      rcases Nat.eq_zero_or_pos b with g | g
      · rw [g]; omega
      · exact Nat.lt_of_lt_of_le (Nat.mul_lt_mul_of_pos_right ha g) (Nat.mul_le_mul_left _ (by omega))
    rw [hhi, Nat.div_lt_iff_lt_mul (by omega)]; exact this
  have cr := fun w => rem64_any hi lo 2305843009213693951 hh hl (by omega) (by omega) w
  have e : hi * 18446744073709551616 + lo = a * b := by omega
  rw [e] at cr
  obtain ⟨r, hr⟩ : ∃ r, r = a * b % 2305843009213693951 := ⟨_, rfl⟩
  rw [← hr] at cr ⊢
  have CM := Lib.hid cm
  have CR := Lib.hid cr
  clear cm cr e hhi hlo hr
  go_enter Try.func40, Try.ntmps40
  go_wp2_with (first | (go_at_call 45; refine (CM.out _).mono ?_; rintro e w' ⟨rfl, rfl⟩) | (go_at_call 46; refine (CR.out _).mono ?_; rintro e w' ⟨rfl, n, rfl⟩))
  go_ret
  exact ⟨rfl, n, rfl⟩
end Go.Proofs.Ytmdkokehomboaaa
