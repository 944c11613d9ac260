/- The laws of layer 3 (hash), walked: places. -/
import Derived.Test.YthhhmaibgaammaaHashR
import Derived.Test.YthhhmaibgaammaaBits
namespace Go.Proofs.Ythhhmaibgaammaa
open Go.ChangeShapes Go.WideShapes Go.ChangeAt Go.RowKit

theorem hof_a : Ha.hof 1 1 0 [97] = 99 := by
  unfold Ha.hof
  rw [Ha.poly_cons (by simp)]
  rw [show ([97] : List UInt8).drop 7 = [] from rfl, Ha.poly_nil]
  rfl
theorem rdI_nil (w : World) (k : IntKind) : RdI w k none 0 0 [] := ⟨rfl, Nat.le_refl _, Nat.zero_le _, fun h => absurd h (by omega), fun z hz => by simp at hz⟩
theorem fit_any (w : World) : Calls Try.prog 7 #[] w fun e w' => e = .returned (.bool true) ∧ Below w.heap.size w w' := by
  have c1 : ∀ w, Calls Try.prog 9 #[.slice none 0 0, .int .i64 1] w fun e w' => e = .returned (.slice (some ⟨w.heap.size, 0, none⟩) 1 1) ∧ RowsAt w' w.heap.size 1 (rX []) (rA []) (rB []) ∧ Below w.heap.size w w' :=
    fun w => rows_any w none 0 0 [] (rdI_nil w _) 1 (by omega)
  have c2 : ∀ w, Calls Try.prog 10 #[.agg #[.int .u64 1, .int .u64 1, .int .u64 0], .string ⟨#[97]⟩] w fun e w' => e = .returned (.int .u64 99) ∧ Below w.heap.size w w' := by
    intro w
    have := rowof_any 1 1 0 (by omega) (by omega) (by omega) ⟨#[97]⟩ (by decide) w
    rw [show (⟨#[97]⟩ : ByteArray).data.toList = [97] from rfl, hof_a] at this
    exact this
  have C1 := Lib.hid c1
  have C2 := Lib.hid c2
  clear c1 c2
  go_enter Try.func7, Try.ntmps7
  go_wp2_with (first
    | (go_at_call 9; ((with_reducible refine (C1.out _).mono ?_); rintro e w1 ⟨rfl, hR, b1⟩; obtain ⟨C, q1, q2, q3⟩ := hR.blk; have k0 : w1.cell? ⟨w.heap.size, 0, none⟩ = some (.int .u64 1) := (cell_at q1).trans (q3 0 (by omega)).1; have k1 : w1.cell? ⟨w.heap.size, 1, none⟩ = some (.int .u64 1) := (cell_at q1).trans (q3 0 (by omega)).2.1; have k2 : w1.cell? ⟨w.heap.size, 2, none⟩ = some (.int .u64 0) := (cell_at q1).trans (q3 0 (by omega)).2.2; have B1 := Lib.hid b1; clear b1 hR q1 q2 q3))
    | (go_at_call 10; ((with_reducible refine (C2.out _).mono ?_); rintro e w2 ⟨rfl, b2⟩; have B2 := Lib.hid b2; clear b2)))
  go_ret
  exact ⟨rfl, B1.out.trans (B2.out.mono B1.out.size)⟩
theorem plc_nat {h n : Nat} (hh : h < 2305843009213693951) (hn : 1 ≤ n) : plc h (n : Int) = h * n / 2305843009213693951 := by
  unfold plc; rw [if_neg (by omega), Int.toNat_natCast, Nat.mod_eq_of_lt hh]
theorem places_law (w : World) (x y : Nat) (n : Int) (hx : x < 18446744073709551616) (hy : y < 18446744073709551616) (hn : -9223372036854775808 ≤ n ∧ n ≤ 9223372036854775807) :
    Calls Try.prog 3 #[.int .u64 x, .int .u64 y, .int .i64 n] w fun e w' => e = .returned (.bool true) ∧ Below w.heap.size w w' := by
  obtain ⟨a, ha⟩ : ∃ a, a = x % 2305843009213693951 := ⟨_, rfl⟩
  obtain ⟨b, hb⟩ : ∃ a, a = y % 2305843009213693951 := ⟨_, rfl⟩
  have e1 : (x : Int) % 2305843009213693951 = (a : Int) := by omega
  have e2 : (y : Int) % 2305843009213693951 = (b : Int) := by omega
  have hal : a < 2305843009213693951 := by omega
  have hbl : b < 2305843009213693951 := by omega
  obtain ⟨m0, hm0⟩ : ∃ z : Nat, (z : Int) = n % 65536 := ⟨(n % 65536).toNat, by omega⟩
  have e3 : bits .and .i64 n 65535 = (m0 : Int) := by rw [hm0]; exact i64_mask16 n
  have hm0l : m0 < 65536 := by omega
  obtain ⟨m, hm⟩ : ∃ z, z = m0 + 1 := ⟨_, rfl⟩
  have e4 : (m0 : Int) + 1 = (m : Int) := by omega
  have hm1 : 1 ≤ m ∧ m ≤ 65536 := by omega
  clear ha hb hm0 hm
  obtain ⟨p, hp⟩ : ∃ z, z = a * m / 2305843009213693951 := ⟨_, rfl⟩
  obtain ⟨q, hq⟩ : ∃ z, z = b * m / 2305843009213693951 := ⟨_, rfl⟩
  have hpm : p < m := by
    rw [hp, Nat.div_lt_iff_lt_mul (by omega), Nat.mul_comm]; exact Nat.mul_lt_mul_of_pos_left hal (by omega)
  have hqm : q < m := by
    rw [hq, Nat.div_lt_iff_lt_mul (by omega), Nat.mul_comm]; exact Nat.mul_lt_mul_of_pos_left hbl (by omega)
  have hmono : a ≤ b → p ≤ q := by intro g; rw [hp, hq]; exact Nat.div_le_div_right (Nat.mul_le_mul_right _ g)
  have c1 := fun w => place_any a (m : Int) (by omega) (by omega) w
  have c2 := fun w => place_any b (m : Int) (by omega) (by omega) w
  have c3 : ∀ w, Calls Try.prog 8 #[.int .u64 a, .int .i64 0] w fun e w' => e = .returned (.int .i64 0) ∧ ∃ d, w' = w.drewN d := fun w => place_any a 0 (by omega) (by omega) w
  have c4 := fun w => place_any a (-(m : Int)) (by omega) (by omega) w
  have c5 : ∀ w, Calls Try.prog 8 #[.int .u64 0, .int .i64 m] w fun e w' => e = .returned (.int .i64 (plc 0 m : Nat)) ∧ ∃ d, w' = w.drewN d := fun w => place_any 0 (m : Int) (by omega) (by omega) w
  have c6 : ∀ w, Calls Try.prog 8 #[.int .u64 2305843009213693950, .int .i64 m] w fun e w' => e = .returned (.int .i64 (plc 2305843009213693950 m : Nat)) ∧ ∃ d, w' = w.drewN d := fun w => place_any 2305843009213693950 (m : Int) (by omega) (by omega) w
  rw [plc_nat hal hm1.1, ← hp] at c1
  rw [plc_nat hbl hm1.1, ← hq] at c2
  rw [show plc a (-(m : Int)) = 0 by unfold plc; rw [if_pos (by omega)]] at c4
  rw [plc_nat (by omega) hm1.1, Nat.zero_mul, Nat.zero_div] at c5
  rw [plc_nat (by omega) hm1.1, show 2305843009213693950 * m / 2305843009213693951 = m - 1 by omega] at c6
  obtain ⟨m2, hm2⟩ : ∃ z, z = m - 1 := ⟨_, rfl⟩
  have e5 : (m : Int) - 1 = (m2 : Int) := by omega
  rw [← hm2] at c6
  have T : Hid (a > b ∧ decide ((b : Int) < (a : Int)) = true ∧ decide (b < a) = true ∨ p ≤ q ∧ decide (b < a) = false) := by
    by_cases g : b < a
    · exact Lib.hid (Or.inl ⟨g, by rw [decide_eq_true_eq]; omega, by rw [decide_eq_true_eq]; exact g⟩)
    · exact Lib.hid (Or.inr ⟨hmono (by omega), by rw [decide_eq_false_iff_not]; exact g⟩)
  have C1 := Lib.hid c1
  have C2 := Lib.hid c2
  have C3 := Lib.hid c3
  have C4 := Lib.hid c4
  have C5 := Lib.hid c5
  have C6 := Lib.hid c6
  clear c1 c2 c3 c4 c5 c6 hp hq hmono hm2
  rcases T.out with ⟨g0, g1, g2⟩ | ⟨g1, g2⟩
  all_goals
    clear T
    try clear g0
    go_enter Try.func3, Try.ntmps3
    go_wp2_with (first
      | (go_at_call 7; refine (fit_any _).mono ?_; rintro e w1 ⟨rfl, b1⟩; have B1 := Lib.hid b1; clear b1)
      | (go_at_call 8; first | ((with_reducible refine (C1.out _).mono ?_); rintro e w' ⟨rfl, d1, rfl⟩) | ((with_reducible refine (C2.out _).mono ?_); rintro e w' ⟨rfl, d2, rfl⟩) | ((with_reducible refine (C3.out _).mono ?_); rintro e w' ⟨rfl, d3, rfl⟩) | ((with_reducible refine (C4.out _).mono ?_); rintro e w' ⟨rfl, d4, rfl⟩) | ((with_reducible refine (C5.out _).mono ?_); rintro e w' ⟨rfl, d5, rfl⟩) | ((with_reducible refine (C6.out _).mono ?_); rintro e w' ⟨rfl, d6, rfl⟩)))
  all_goals (go_ret; exact ⟨rfl, below_draws B1.out _⟩)
end Go.Proofs.Ythhhmaibgaammaa
