/- The laws of layer 2 (field) that need no prime, walked. -/
import Derived.Test.YtobkbifacdngjaaFieldR
namespace Go.Proofs.Ytobkbifacdngjaa
open Go.ChangeShapes Go.WideShapes Go.ChangeAt Go.RowKit

theorem fit_any (w : World) : Calls Try.prog 9 #[] w fun e w' => e = .returned (.bool true) ∧ ∃ n, w' = w.drewN n := by
  have c1 : ∀ w, Calls Try.prog 14 #[.int .u64 1152921504606846976, .int .u64 2] w fun e w' => e = .returned (.int .u64 1) ∧ ∃ n, w' = w.drewN n :=
    fun w => mul_any 1152921504606846976 2 (by omega) (by omega) w
  have c2 : ∀ w, Calls Try.prog 10 #[.int .u64 2305843009213693951] w fun e w' => e = .returned (.int .u64 0) ∧ w = w' :=
    fun w => of_any 2305843009213693951 (by omega) w
  have C1 := Lib.hid c1
  have C2 := Lib.hid c2
  clear c1 c2
  go_enter Try.func9, Try.ntmps9
  go_wp2_with (first | (go_at_call 14; (with_reducible refine (C1.out _).mono ?_); rintro e w' ⟨rfl, n, rfl⟩) | (go_at_call 10; (with_reducible refine (C2.out _).mono ?_); rintro e w' ⟨rfl, rfl⟩))
  go_ret
  exact ⟨rfl, n, rfl⟩
theorem reckons_law (x y n : Nat) (hx : x < 18446744073709551616) (hy : y < 18446744073709551616) (hn : n < 18446744073709551616) (w : World) :
    Calls Try.prog 3 #[.int .u64 x, .int .u64 y, .int .u64 n] w fun e w' => e = .returned (.bool true) ∧ ∃ n, w' = w.drewN n := by
  obtain ⟨a, ha⟩ : ∃ a, a = x % 2305843009213693951 := ⟨_, rfl⟩
  obtain ⟨b, hb⟩ : ∃ a, a = y % 2305843009213693951 := ⟨_, rfl⟩
  obtain ⟨m, hm⟩ : ∃ a, a = n % 1000 := ⟨_, rfl⟩
  have e1 : (x : Int) % 2305843009213693951 = (a : Int) := by omega
  have e2 : (y : Int) % 2305843009213693951 = (b : Int) := by omega
  have e3 : (n : Int) % 1000 = (m : Int) := by omega
  have hal : a < 2305843009213693951 := by omega
  have hbl : b < 2305843009213693951 := by omega
  have hml : m < 1000 := by omega
  have c1 := fun w => of_any x hx w
  have c2 := fun w => rof_any x hx w
  have c3 := fun w => add_any a b (by omega) w
  have c4 := fun w => sub_any a b hal hbl w
  have c5 := fun w => mul_any a b (by omega) (by omega) w
  have c6 := fun w => rmul_any a b hal (by omega) w
  have c7 := fun w => power_any a m hal (by omega) w
  have c8 := fun w => rpower_any a m hal (by omega) w
  obtain ⟨s, hs⟩ : ∃ s, s = (a + b) % 2305843009213693951 := ⟨_, rfl⟩
  obtain ⟨d, hd⟩ : ∃ s, s = (a + 2305843009213693951 - b) % 2305843009213693951 := ⟨_, rfl⟩
  have e4 : ((a : Int) + (b : Int)) % 2305843009213693951 = (s : Int) := by omega
  have e5 : ((a : Int) + 2305843009213693951 - (b : Int)) % 2305843009213693951 = (d : Int) := by omega
  rw [← ha] at c1 c2
  rw [← hs] at c3
  rw [← hd] at c4
  generalize a * b % 2305843009213693951 = p at c5 c6
  generalize a ^ m % 2305843009213693951 = q at c7 c8
  have C1 := Lib.hid c1
  have C2 := Lib.hid c2
  have C3 := Lib.hid c3
  have C4 := Lib.hid c4
  have C5 := Lib.hid c5
  have C6 := Lib.hid c6
  have C7 := Lib.hid c7
  have C8 := Lib.hid c8
  clear c1 c2 c3 c4 c5 c6 c7 c8 ha hb hm hs hd
  go_enter Try.func3, Try.ntmps3
  go_wp2_with (first
    | (go_at_call 9; refine (fit_any _).mono ?_; rintro e w' ⟨rfl, n0, rfl⟩)
    | (go_at_call 10; (with_reducible refine (C1.out _).mono ?_); rintro e w' ⟨rfl, rfl⟩)
    | (go_at_call 11; (with_reducible refine (C2.out _).mono ?_); rintro e w' ⟨rfl, rfl⟩)
    | (go_at_call 12; (with_reducible refine (C3.out _).mono ?_); rintro e w' ⟨rfl, rfl⟩)
    | (go_at_call 13; (with_reducible refine (C4.out _).mono ?_); rintro e w' ⟨rfl, rfl⟩)
    | (go_at_call 14; (with_reducible refine (C5.out _).mono ?_); rintro e w' ⟨rfl, n1, rfl⟩)
    | (go_at_call 15; (with_reducible refine (C6.out _).mono ?_); rintro e w' ⟨rfl, rfl⟩)
    | (go_at_call 16; (with_reducible refine (C7.out _).mono ?_); rintro e w' ⟨rfl, n2, rfl⟩)
    | (go_at_call 17; (with_reducible refine (C8.out _).mono ?_); rintro e w' ⟨rfl, rfl⟩))
  all_goals (first | (go_ret; exact ⟨rfl, _, rfl⟩))
end Go.Proofs.Ytobkbifacdngjaa
