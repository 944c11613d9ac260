/- The laws FieldOf and FieldDoubles of layer 2 (field), walked. -/
import Derived.Test.YtobkbifacdngjaaFieldL
namespace Go.Proofs.Ytobkbifacdngjaa
open Go.ChangeShapes Go.WideShapes Go.ChangeAt Go.RowKit

theorem of_law (x y : Nat) (hx : x < 18446744073709551616) (hy : y < 18446744073709551616) (w : World) :
    Calls Try.prog 6 #[.int .u64 x, .int .u64 y] w fun e w' => e = .returned (.bool true) ∧ ∃ n, w' = w.drewN n := by
  obtain ⟨a, ha⟩ : ∃ a, a = x % 2305843009213693951 := ⟨_, rfl⟩
  obtain ⟨b, hb⟩ : ∃ a, a = y % 2305843009213693951 := ⟨_, rfl⟩
  have e1 : (x : Int) % 2305843009213693951 = (a : Int) := by omega
  have e2 : (y : Int) % 2305843009213693951 = (b : Int) := by omega
  have hal : a < 2305843009213693951 := by omega
  have hbl : b < 2305843009213693951 := by omega
  clear ha hb
  go_enter Try.func6, Try.ntmps6
  go_wp2_with (first
      | (go_at_call 9; refine (fit_any _).mono ?_; rintro e w' ⟨rfl, n0, rfl⟩))
  simp only [e1]
  clear e1
  go_loopg [12] 8 (fun k sk wr => ∃ (i n : Nat), i ≤ 8 ∧ k = 8 - i ∧ sk = .int .u64 (i : Int) ∧ wr = w.drewN n)
  case atStart => exact ⟨0, n0, by omega, by omega, rfl, rfl⟩
  case round =>
    obtain ⟨i, n, hi, hk, rfl, rfl⟩ := hrel
    have HK := Lib.hid hk
    clear hk
    by_cases hi8 : i < 8
    · obtain ⟨s, hs⟩ : ∃ s, s = a + i * 2305843009213693951 := ⟨_, rfl⟩
      have es : (a : Int) + (i : Int) * 2305843009213693951 = (s : Int) := by omega
      have hsl : s < 18446744073709551616 := by omega
      have c1 := fun w => of_any s hsl w
      rw [show s % 2305843009213693951 = a by rw [hs, Nat.add_mul_mod_self_right, Nat.mod_eq_of_lt hal]] at c1
      have C1 := Lib.hid c1
      clear c1 hs
      go_wp2_with (first
        | (go_at_call 10; (with_reducible refine (C1.out _).mono ?_); rintro e w' ⟨rfl, rfl⟩))
      go_roundg (8 - (i + 1))
      case measure => have := HK.out; omega
      case rel => exact ⟨i + 1, n, by omega, by omega, by go_num, rfl⟩
    · have h8 : i = 8 := by omega
      clear hi8 hi
      subst h8
      obtain ⟨s, hs⟩ : ∃ zz, zz = (a + b) % 2305843009213693951 := ⟨_, rfl⟩
      obtain ⟨p, hp⟩ : ∃ zz, zz = a * b % 2305843009213693951 := ⟨_, rfl⟩
      obtain ⟨d, hd⟩ : ∃ zz, zz = (a + 2305843009213693951 - b) % 2305843009213693951 := ⟨_, rfl⟩
      have c1 := fun w => add_any a b (by omega) w
      have c2 := fun w => mul_any a b (by omega) (by omega) w
      have c3 := fun w => sub_any a b hal hbl w
      have c4 := fun w => sub_any a a hal hal w
      rw [show (a + 2305843009213693951 - a) % 2305843009213693951 = 0 by omega] at c4
      rw [← hs] at c1
      rw [← hp] at c2
      rw [← hd] at c3
      have hsl : s < 2305843009213693951 := by rw [hs]; exact Nat.mod_lt _ (by omega)
      have ts : decide ((s : Int) < 2305843009213693951) = true := by rw [decide_eq_true_eq]; omega
      have hpl : p < 2305843009213693951 := by rw [hp]; exact Nat.mod_lt _ (by omega)
      have tp : decide ((p : Int) < 2305843009213693951) = true := by rw [decide_eq_true_eq]; omega
      have hdl : d < 2305843009213693951 := by rw [hd]; exact Nat.mod_lt _ (by omega)
      have td : decide ((d : Int) < 2305843009213693951) = true := by rw [decide_eq_true_eq]; omega
      have C1 := Lib.hid c1
      have C2 := Lib.hid c2
      have C3 := Lib.hid c3
      have C4 := Lib.hid c4
      clear c1 c2 c3 c4 hs hp hd hsl hpl hdl
      go_wp2_with (first
        | (go_at_call 12; (with_reducible refine (C1.out _).mono ?_); rintro e w' ⟨rfl, rfl⟩)
        | (go_at_call 14; (with_reducible refine (C2.out _).mono ?_); rintro e w' ⟨rfl, n2, rfl⟩)
        | (go_at_call 13; first | ((with_reducible refine (C3.out _).mono ?_); rintro e w' ⟨rfl, rfl⟩) | ((with_reducible refine (C4.out _).mono ?_); rintro e w' ⟨rfl, rfl⟩)))
      all_goals (first | (go_ret; exact ⟨rfl, _, rfl⟩) | (exfalso; omega))
theorem pow_61 (a : Nat) (h : a < 2305843009213693951) : a * 2 ^ 61 % 2305843009213693951 = a := by
  have : (2 : Nat) ^ 61 = 2305843009213693951 + 1 := by decide
  rw [this, Nat.mul_add, Nat.mul_one, Nat.add_mod, Nat.mul_mod_left, Nat.zero_add, Nat.mod_mod, Nat.mod_eq_of_lt h]
theorem doubles_law (x : Nat) (hx : x < 18446744073709551616) (w : World) :
    Calls Try.prog 8 #[.int .u64 x] w fun e w' => e = .returned (.bool true) ∧ ∃ n, w' = w.drewN n := by
  obtain ⟨a, ha⟩ : ∃ a, a = x % 2305843009213693951 := ⟨_, rfl⟩
  have e1 : (x : Int) % 2305843009213693951 = (a : Int) := by omega
  have hal : a < 2305843009213693951 := by omega
  clear ha
  go_enter Try.func8, Try.ntmps8
  go_wp2_with (first
      | (go_at_call 9; refine (fit_any _).mono ?_; rintro e w' ⟨rfl, n0, rfl⟩))
  simp only [e1]
  clear e1
  go_loopg [4, 10] 61 (fun k sb sk wr => ∃ (i b n : Nat), i ≤ 61 ∧ k = 61 - i ∧ sk = .int .i64 (i : Int) ∧ sb = .int .u64 (b : Int) ∧ b < 2305843009213693951 ∧ Hid (b = a * 2 ^ i % 2305843009213693951) ∧ wr = w.drewN n)
  case atStart => exact ⟨0, a, n0, by omega, by omega, rfl, rfl, hal, Lib.hid (by rw [Nat.pow_zero, Nat.mul_one, Nat.mod_eq_of_lt hal]), rfl⟩
  case round =>
    obtain ⟨i, b, n, hi, hk, rfl, rfl, hbl, HJ, rfl⟩ := hrel
    have HK := Lib.hid hk
    clear hk
    by_cases hi8 : i < 61
    · obtain ⟨s, hs⟩ : ∃ s, s = (b + b) % 2305843009213693951 := ⟨_, rfl⟩
      have c1 := fun w => add_any b b (by omega) w
      have c2 : ∀ w, Calls Try.prog 14 #[.int .u64 b, .int .u64 2] w fun e w' => e = .returned (.int .u64 (b * 2 % 2305843009213693951 : Nat)) ∧ ∃ n, w' = w.drewN n := fun w => mul_any b 2 (by omega) (by omega) w
      rw [← hs] at c1
      rw [Nat.mul_two, ← hs] at c2
      have hsl : s < 2305843009213693951 := by omega
      have hj : s = a * 2 ^ (i + 1) % 2305843009213693951 := by
        rw [hs, ← Nat.mul_two, HJ.out, Nat.mod_mul_mod, Nat.mul_assoc, ← Nat.pow_succ]
      have HJ2 := Lib.hid hj
      have C1 := Lib.hid c1
      have C2 := Lib.hid c2
      clear c1 c2 hs hj
      go_wp2_with (first
        | (go_at_call 12; (with_reducible refine (C1.out _).mono ?_); rintro e w' ⟨rfl, rfl⟩)
        | (go_at_call 14; (with_reducible refine (C2.out _).mono ?_); rintro e w' ⟨rfl, n2, rfl⟩))
      go_roundg (61 - (i + 1))
      case measure => have := HK.out; omega
      case rel => exact ⟨i + 1, s, _, by omega, by omega, by go_num, rfl, hsl, HJ2, rfl⟩
    · have h8 : i = 61 := by omega
      clear hi8 hi
      subst h8
      have hba : b = a := by rw [HJ.out]; exact pow_61 a hal
      subst hba
      have c1 : ∀ w, Calls Try.prog 16 #[.int .u64 2, .int .u64 61] w fun e w' => e = .returned (.int .u64 1) ∧ ∃ n, w' = w.drewN n := fun w => power_any 2 61 (by omega) (by omega) w
      have c2 : ∀ w, Calls Try.prog 14 #[.int .u64 b, .int .u64 1] w fun e w' => e = .returned (.int .u64 (b * 1 % 2305843009213693951 : Nat)) ∧ ∃ n, w' = w.drewN n := fun w => mul_any b 1 (by omega) (by omega) w
      rw [Nat.mul_one, Nat.mod_eq_of_lt hbl] at c2
      have C1 := Lib.hid c1
      have C2 := Lib.hid c2
      clear c1 c2 HJ
      go_wp2_with (first
        | (go_at_call 16; (with_reducible refine (C1.out _).mono ?_); rintro e w' ⟨rfl, n1, rfl⟩)
        | (go_at_call 14; (with_reducible refine (C2.out _).mono ?_); rintro e w' ⟨rfl, n2, rfl⟩))
      all_goals (first | (go_ret; exact ⟨rfl, _, rfl⟩))
end Go.Proofs.Ytobkbifacdngjaa
