/- The laws of layer 1 (arith), walked: the rest. -/
import Derived.Test.YtbgdciofomlcdaaArithC
import Derived.RegionTactic
namespace Go.Proofs.Ytbgdciofomlcdaa
open Go.ChangeShapes Go.WideShapes Go.ChangeAt Go.RowKit
open Ar (inR)

theorem clamp_in (n : Int) : inR (clamp n) := by unfold inR clamp; split <;> (try split) <;> omega
theorem clamp_mono {a b : Int} (h : a ≤ b) : clamp a ≤ clamp b := by unfold clamp; split <;> split <;> (try split) <;> (try split) <;> omega
theorem clamp_eq {a : Int} (h : inR a) : clamp a = a := by unfold inR at h; unfold clamp; rw [if_neg (by omega), if_neg (by omega)]

theorem order_law (a b c : Int) (ha : inR a) (hb : inR b) (hc : inR c) (w : World) :
    Calls Try.prog 7 #[.int .i64 a, .int .i64 b, .int .i64 c] w fun e w' => e = .returned (.bool true) ∧ ∃ n, w' = w.drewN n := by
  obtain ⟨lo, hlo⟩ : ∃ x, x = min a b := ⟨_, rfl⟩
  obtain ⟨hi, hhi⟩ : ∃ x, x = max a b := ⟨_, rfl⟩
  have hl : inR lo := by unfold inR at *; omega
  have hh : inR hi := by unfold inR at *; omega
  have hlh : lo ≤ hi := by omega
  have i0 : inR 0 := by unfold inR; omega
  have i1 : inR 1 := by unfold inR; omega
  have c1 := fun w => add_any lo c hl hc w
  have c2 := fun w => sum_any lo c hl hc w
  have c3 := fun w => sum_any hi c hh hc w
  have c4 := fun w => sum_any c lo hc hl w
  have c5 := fun w => sum_any lo 0 hl i0 w
  have c6 := fun w => product_any lo 1 hl i1 w
  have c7 := fun w => product_any lo 0 hl i0 w
  have hm := clamp_mono (show lo + c ≤ hi + c by omega)
  obtain ⟨s1, hs1⟩ : ∃ x, x = clamp (lo + c) := ⟨_, rfl⟩
  obtain ⟨s2, hs2⟩ : ∃ x, x = clamp (hi + c) := ⟨_, rfl⟩
  obtain ⟨ok, hok⟩ : ∃ x, x = decide (inR (lo + c)) := ⟨_, rfl⟩
  obtain ⟨x, hx⟩ : ∃ x, x = wrap64 (lo + c) := ⟨_, rfl⟩
  have hxs : ok = true → s1 = x := by intro g; rw [hok, decide_eq_true_eq] at g; rw [hs1, hx, clamp_eq g, Ar.wrap_eq g]
  rw [Int.add_comm c lo] at c4
  rw [Int.add_zero, clamp_eq hl] at c5
  rw [Int.mul_one, clamp_eq hl] at c6
  rw [Int.mul_zero, clamp_eq i0] at c7
  rw [← hx, ← hok] at c1
  rw [← hs1] at c2 c4 hm
  rw [← hs2] at c3 hm
  have t1 : decide (s1 ≤ s2) = true := by rw [decide_eq_true_eq]; exact hm
  have C1 := Lib.hid c1
  have C2 := Lib.hid c2
  have C3 := Lib.hid c3
  have C4 := Lib.hid c4
  have C5 := Lib.hid c5
  have C6 := Lib.hid c6
  have C7 := Lib.hid c7
  clear c1 c2 c3 c4 c5 c6 c7 hx hok hs1 hs2 hm ha hb hc hh hl i0 i1 hlh
  by_cases h : b < a
  · have e1 : lo = b := by omega
    have e2 : hi = a := by omega
    clear hlo hhi
    subst e1 e2
    cases ok with
    | false =>
      clear hxs
      go_enter Try.func7, Try.ntmps7
      go_wp2_with (first
        | (go_at_call 11; refine (fit_any _).mono ?_; rintro e w' ⟨rfl, n, rfl⟩)
        | (go_at_call 12; (with_reducible refine (C1.out _).mono ?_); rintro e w' ⟨rfl, rfl⟩)
        | (go_at_call 15; first | ((with_reducible refine (C2.out _).mono ?_); rintro e w' ⟨rfl, rfl⟩) | ((with_reducible refine (C3.out _).mono ?_); rintro e w' ⟨rfl, rfl⟩) | ((with_reducible refine (C4.out _).mono ?_); rintro e w' ⟨rfl, rfl⟩) | ((with_reducible refine (C5.out _).mono ?_); rintro e w' ⟨rfl, rfl⟩))
        | (go_at_call 19; first | ((with_reducible refine (C6.out _).mono ?_); rintro e w' ⟨rfl, rfl⟩) | ((with_reducible refine (C7.out _).mono ?_); rintro e w' ⟨rfl, rfl⟩)))
      all_goals go_ret
      all_goals exact ⟨rfl, _, rfl⟩
    | true =>
      have hx1 := hxs rfl
      clear hxs
      subst hx1
      go_enter Try.func7, Try.ntmps7
      go_wp2_with (first
        | (go_at_call 11; refine (fit_any _).mono ?_; rintro e w' ⟨rfl, n, rfl⟩)
        | (go_at_call 12; (with_reducible refine (C1.out _).mono ?_); rintro e w' ⟨rfl, rfl⟩)
        | (go_at_call 15; first | ((with_reducible refine (C2.out _).mono ?_); rintro e w' ⟨rfl, rfl⟩) | ((with_reducible refine (C3.out _).mono ?_); rintro e w' ⟨rfl, rfl⟩) | ((with_reducible refine (C4.out _).mono ?_); rintro e w' ⟨rfl, rfl⟩) | ((with_reducible refine (C5.out _).mono ?_); rintro e w' ⟨rfl, rfl⟩))
        | (go_at_call 19; first | ((with_reducible refine (C6.out _).mono ?_); rintro e w' ⟨rfl, rfl⟩) | ((with_reducible refine (C7.out _).mono ?_); rintro e w' ⟨rfl, rfl⟩)))
      all_goals go_ret
      all_goals exact ⟨rfl, _, rfl⟩
  · have e1 : lo = a := by omega
    have e2 : hi = b := by omega
    clear hlo hhi
    subst e1 e2
    cases ok with
    | false =>
      clear hxs
      go_enter Try.func7, Try.ntmps7
      go_wp2_with (first
        | (go_at_call 11; refine (fit_any _).mono ?_; rintro e w' ⟨rfl, n, rfl⟩)
        | (go_at_call 12; (with_reducible refine (C1.out _).mono ?_); rintro e w' ⟨rfl, rfl⟩)
        | (go_at_call 15; first | ((with_reducible refine (C2.out _).mono ?_); rintro e w' ⟨rfl, rfl⟩) | ((with_reducible refine (C3.out _).mono ?_); rintro e w' ⟨rfl, rfl⟩) | ((with_reducible refine (C4.out _).mono ?_); rintro e w' ⟨rfl, rfl⟩) | ((with_reducible refine (C5.out _).mono ?_); rintro e w' ⟨rfl, rfl⟩))
        | (go_at_call 19; first | ((with_reducible refine (C6.out _).mono ?_); rintro e w' ⟨rfl, rfl⟩) | ((with_reducible refine (C7.out _).mono ?_); rintro e w' ⟨rfl, rfl⟩)))
      all_goals go_ret
      all_goals exact ⟨rfl, _, rfl⟩
    | true =>
      have hx1 := hxs rfl
      clear hxs
      subst hx1
      go_enter Try.func7, Try.ntmps7
      go_wp2_with (first
        | (go_at_call 11; refine (fit_any _).mono ?_; rintro e w' ⟨rfl, n, rfl⟩)
        | (go_at_call 12; (with_reducible refine (C1.out _).mono ?_); rintro e w' ⟨rfl, rfl⟩)
        | (go_at_call 15; first | ((with_reducible refine (C2.out _).mono ?_); rintro e w' ⟨rfl, rfl⟩) | ((with_reducible refine (C3.out _).mono ?_); rintro e w' ⟨rfl, rfl⟩) | ((with_reducible refine (C4.out _).mono ?_); rintro e w' ⟨rfl, rfl⟩) | ((with_reducible refine (C5.out _).mono ?_); rintro e w' ⟨rfl, rfl⟩))
        | (go_at_call 19; first | ((with_reducible refine (C6.out _).mono ?_); rintro e w' ⟨rfl, rfl⟩) | ((with_reducible refine (C7.out _).mono ?_); rintro e w' ⟨rfl, rfl⟩)))
      all_goals go_ret
      all_goals exact ⟨rfl, _, rfl⟩
theorem back_law (a b : Int) (ha : inR a) (hb : inR b) (w : World) :
    Calls Try.prog 8 #[.int .i64 a, .int .i64 b] w fun e w' => e = .returned (.bool true) ∧ ∃ n, w' = w.drewN n := by
  have c1 := fun w => add_any a b ha hb w
  have c3 := fun w => mul_any a b ha hb w
  obtain ⟨s, hs⟩ : ∃ x, x = wrap64 (a + b) := ⟨_, rfl⟩
  obtain ⟨ok1, hok1⟩ : ∃ x, x = decide (inR (a + b)) := ⟨_, rfl⟩
  obtain ⟨p, hp⟩ : ∃ x, x = wrap64 (a * b) := ⟨_, rfl⟩
  obtain ⟨ok2, hok2⟩ : ∃ x, x = decide (inR (a * b)) := ⟨_, rfl⟩
  have hsR : inR s := by rw [hs]; exact Ar.wrap_in _
  have c2 := fun w => sub_any s b hsR hb w
  obtain ⟨u, hu⟩ : ∃ x, x = wrap64 (s - b) := ⟨_, rfl⟩
  obtain ⟨v, hv⟩ : ∃ x, x = decide (inR (s - b)) := ⟨_, rfl⟩
  rw [← hu, ← hv] at c2
  rw [← hs, ← hok1] at c1
  rw [← hp, ← hok2] at c3
  have h1 : ok1 = true → u = a ∧ v = true := by
    intro g; rw [hok1, decide_eq_true_eq] at g
    rw [hu, hv, hs, Ar.wrap_eq g]
    have e : a + b - b = a := by omega
    rw [e]
    exact ⟨Ar.wrap_eq ha, by rw [decide_eq_true_eq]; exact ha⟩
  have h2 : ok2 = true → b ≠ 0 → p.tdiv b = a ∧ p.tmod b = 0 := by
    intro g g0; rw [hok2, decide_eq_true_eq] at g
    rw [hp, Ar.wrap_eq g]
    exact ⟨Int.mul_tdiv_cancel a g0, Int.mul_tmod_left a b⟩
  have HA := Lib.hid ha
  have HB := Lib.hid hb
  have HPI : inR p := by rw [hp]; exact Ar.wrap_in _
  unfold inR at ha hb HPI
  have C1 := Lib.hid c1
  have C2 := Lib.hid c2
  have C3 := Lib.hid c3
  clear c1 c2 c3 hs hok1 hp hok2 hsR hu hv
  have T1 : Hid (ok1 = false ∨ ok1 = true ∧ u = a ∧ v = true) := by
    cases ok1
    · exact Lib.hid (Or.inl rfl)
    · exact Lib.hid (Or.inr ⟨rfl, h1 rfl⟩)
  have T2 : Hid (ok2 = false ∨ ok2 = true ∧ b = 0 ∨ ok2 = true ∧ (¬ b = 0) ∧ p.tdiv b = a ∧ p.tmod b = 0) := by
    cases ok2
    · exact Lib.hid (Or.inl rfl)
    · by_cases g : b = 0
      · exact Lib.hid (Or.inr (Or.inl ⟨rfl, g⟩))
      · exact Lib.hid (Or.inr (Or.inr ⟨rfl, g, h2 rfl g⟩))
  clear h1 h2
  rcases T1.out with g1 | ⟨g1, g2, g3⟩ <;> rcases T2.out with k1 | ⟨k1, k2⟩ | ⟨k1, k2, k3, k4⟩
  all_goals
    subst g1 k1
    clear T1 T2
    try subst k2
    try subst g2
    try subst g3
    try (have k5 : (b == 0) = false := by rw [beq_eq_false_iff_ne]; exact k2)
    go_enter Try.func8, Try.ntmps8
    go_wp2_with (first
      | (go_at_call 11; refine (fit_any _).mono ?_; rintro e w' ⟨rfl, n, rfl⟩)
      | (go_at_call 12; (with_reducible refine (C1.out _).mono ?_); rintro e w' ⟨rfl, rfl⟩)
      | (go_at_call 14; (with_reducible refine (C2.out _).mono ?_); rintro e w' ⟨rfl, rfl⟩)
      | (go_at_call 17; (with_reducible refine (C3.out _).mono ?_); rintro e w' ⟨rfl, rfl⟩))
  all_goals (go_ret; exact ⟨rfl, _, rfl⟩)
theorem parts_law (a b c : Nat) (ha : a < 18446744073709551616) (hb : b < 18446744073709551616) (hc : c < 4294967296) (w : World) :
    Calls Try.prog 9 #[.int .u64 a, .int .u64 b, .int .u32 c] w fun e w' => e = .returned (.bool true) ∧ ∃ n, w' = w.drewN n := by
  obtain ⟨x, hx⟩ : ∃ x, x = a / 4294967296 := ⟨_, rfl⟩
  obtain ⟨y, hy⟩ : ∃ x, x = b / 4294967296 := ⟨_, rfl⟩
  have ex : (a : Int) / 4294967296 = (x : Int) := by omega
  have ey : (b : Int) / 4294967296 = (y : Int) := by omega
  have hxb : x < 4294967296 := by omega
  have hyb : y < 4294967296 := by omega
  obtain ⟨d, hd⟩ : ∃ d, d = c + 1 := ⟨_, rfl⟩
  have ed : (c : Int) + 1 = (d : Int) := by omega
  obtain ⟨m, hm⟩ : ∃ m, m = max y 1 := ⟨_, rfl⟩
  have hP : x * y < 18446744073709551616 := Kn.half_lt hxb hyb
  obtain ⟨P, hPe⟩ : ∃ P, P = x * y := ⟨_, rfl⟩
  have hlt : x * y / 18446744073709551616 = 0 := Nat.div_eq_of_lt hP
  have Q1 := Quo.of (a := x) (b := y) (c := d) (by omega)
  have Q2 := Quo.of (a := x) (b := y) (c := m) (by omega)
  obtain ⟨q, hq⟩ : ∃ q, q = x * y / d := ⟨_, rfl⟩
  obtain ⟨r, hr⟩ : ∃ q, q = x * y % d := ⟨_, rfl⟩
  obtain ⟨z, hz⟩ : ∃ q, q = x * y / m := ⟨_, rfl⟩
  rw [← hq, ← hr] at Q1
  rw [← hz] at Q2
  have e1 := Nat.div_add_mod' (x * y) d
  rw [← hq, ← hr, ← hPe] at e1
  have hr2 := Q1.rb
  have hqb : q ≤ P := by rw [hq, hPe]; exact Nat.div_le_self _ _
  have hz1 : y = 0 ∨ z = x := by
    by_cases g : y = 0
    · exact Or.inl g
    · right; rw [hz, hm, Nat.max_eq_left (by omega), Nat.mul_div_cancel _ (by omega)]
  have c1 := fun w => down_yes x y d q r (by omega) (by omega) (by omega) Q1 w
  have c2 := fun w => up_yes x y d q r (by omega) (by omega) (by omega) Q1 w
  have c3 := fun w => down_yes x y m z _ (by omega) (by omega) (by omega) Q2 w
  have hq64 : r = 0 ∨ q ≠ 18446744073709551615 := by
    by_cases g : r = 0
    · exact Or.inl g
    · right
      have : 1 * q ≤ q * d := by rw [Nat.mul_comm]; exact Nat.mul_le_mul_left _ (by omega)
      omega
  have hub : upB q r = true := by unfold upB; rw [decide_eq_true_eq]; exact hq64
  obtain ⟨p, hp⟩ : ∃ p, p = upQ q r := ⟨_, rfl⟩
  rw [hub, ← hp] at c2
  obtain ⟨T, hT⟩ : ∃ T, T = q * d := ⟨_, rfl⟩
  rw [← hT] at e1
  have f1 : IntKind.u64.wrap ((q : Int) * (d : Int)) = (T : Int) := by rw [← Int.natCast_mul, ← hT]; exact Kn.wrapN _ (by omega)
  have f2 : IntKind.u64.wrap ((x : Int) * (y : Int)) = (P : Int) := by rw [← Int.natCast_mul, ← hPe]; exact Kn.wrapN _ (by omega)
  have f3 : decide (T ≤ P) = true := by rw [decide_eq_true_eq]; omega
  have f4 : (P : Int) - (T : Int) = (r : Int) := by omega
  have f5 : decide (r < d) = true := by rw [decide_eq_true_eq]; exact hr2
  have f6 : ((p : Int) == (q : Int)) = ((T : Int) == (P : Int)) := by
    rw [Bool.eq_iff_iff, beq_iff_eq, beq_iff_eq, hp]
    unfold upQ
    rcases hq64 with g | g
    · rw [if_pos g]; constructor <;> intro <;> omega
    · by_cases g0 : r = 0
      · rw [if_pos g0]; constructor <;> intro <;> omega
      · rw [if_neg g0, if_neg g]; constructor <;> intro <;> omega
  have f7 : max (y : Int) 1 = (m : Int) := by omega
  have hTP : T ≤ P := by omega
  have C1 := Lib.hid c1
  have C2 := Lib.hid c2
  have C3 := Lib.hid c3
  have hcb : (c : Int) + 1 ≤ 4294967296 := by omega
  have hPb : P < 18446744073709551616 := by omega
  obtain ⟨t, ht⟩ : ∃ t, t = ((p : Int) == (q : Int)) := ⟨_, rfl⟩
  rw [← ht] at f6
  have f8 := ht.symm
  have f9 := f6.symm
  clear c1 c2 c3 hx hy hd hm hP hPe hlt Q1 Q2 hq hr hz e1 hqb hq64 hub hp hT ht f6
  have Z : Hid (((y : Int) == 0) = true ∨ ((y : Int) == 0) = false ∧ ((z : Int) == (x : Int)) = true) := by
    by_cases g : y = 0
    · exact Lib.hid (Or.inl (by rw [beq_iff_eq]; omega))
    · refine Lib.hid (Or.inr ⟨by rw [beq_eq_false_iff_ne]; omega, by rw [beq_iff_eq]; rcases hz1 with h | h; exact absurd h g; omega⟩)
  clear hz1
  rcases Z.out with g | ⟨g, g'⟩
  all_goals
    clear Z
    go_enter Try.func9, Try.ntmps9
    go_wp2_with (first
      | (go_at_call 11; refine (fit_any _).mono ?_; rintro e w' ⟨rfl, n, rfl⟩)
      | (go_at_call 21; first | ((with_reducible refine (C1.out _).mono ?_); rintro e w' ⟨rfl, n1, rfl⟩) | ((with_reducible refine (C3.out _).mono ?_); rintro e w' ⟨rfl, n3, rfl⟩))
      | (go_at_call 23; (with_reducible refine (C2.out _).mono ?_); rintro e w' ⟨rfl, n2, rfl⟩))
  all_goals go_ret
  all_goals exact ⟨rfl, _, rfl⟩
theorem shifts_law (a k m : Nat) (ha : a < 4294967296) (hk : k < 18446744073709551616) (hm : m < 18446744073709551616) (w : World) :
    Calls Try.prog 10 #[.int .u32 a, .int .u64 k, .int .u64 m] w fun e w' => e = .returned (.bool true) ∧ ∃ n, w' = w.drewN n := by
  obtain ⟨i, hi⟩ : ∃ i, i = k % 32 := ⟨_, rfl⟩
  obtain ⟨j, hj⟩ : ∃ i, i = m % 32 := ⟨_, rfl⟩
  have e1 : bits .and .u64 (k : Int) 31 = (i : Int) := by
    have h := bits_and_u64_nat k 31 hk (by omega)
    rw [Nat.and_two_pow_sub_one_eq_mod k 5] at h
    rw [hi]; exact h
  have e2 : bits .and .u64 (m : Int) 31 = (j : Int) := by
    have h := bits_and_u64_nat m 31 hm (by omega)
    rw [Nat.and_two_pow_sub_one_eq_mod m 5] at h
    rw [hj]; exact h
  have hi2 : i < 32 := by omega
  have hj2 : j < 32 := by omega
  obtain ⟨x, hx⟩ : ∃ x, x = 2 ^ i := ⟨_, rfl⟩
  obtain ⟨y, hy⟩ : ∃ x, x = 2 ^ j := ⟨_, rfl⟩
  have hxb : x ≤ 2147483648 := by rw [hx]; exact Nat.pow_le_pow_right (by decide) (by omega : i ≤ 31)
  have hyb : y ≤ 2147483648 := by rw [hy]; exact Nat.pow_le_pow_right (by decide) (by omega : j ≤ 31)
  have hy0 : 0 < y := by rw [hy]; exact Nat.two_pow_pos j
  have e3 : IntKind.u64.wrap (2 ^ i) = (x : Int) := by
    have : (2 : Int) ^ i = ((2 ^ i : Nat) : Int) := by rw [Int.natCast_pow]; rfl
    rw [this, ← hx]; exact Kn.wrapN _ (by omega)
  have e4 : IntKind.u64.wrap (2 ^ j) = (y : Int) := by
    have : (2 : Int) ^ j = ((2 ^ j : Nat) : Int) := by rw [Int.natCast_pow]; rfl
    rw [this, ← hy]; exact Kn.wrapN _ (by omega)
  have hP : a * x < 18446744073709551616 := Kn.half_lt ha (by omega)
  have Q1 := Quo.of (a := a) (b := x) (c := y) (by rw [Nat.div_eq_of_lt hP]; exact hy0)
  obtain ⟨q, hq⟩ : ∃ q, q = a * x / y := ⟨_, rfl⟩
  obtain ⟨r, hr⟩ : ∃ q, q = a * x % y := ⟨_, rfl⟩
  obtain ⟨P, hPe⟩ : ∃ P, P = a * x := ⟨_, rfl⟩
  rw [← hq, ← hr] at Q1
  have c1 := fun w => down_yes a x y q r (by omega) (by omega) (by omega) Q1 w
  have c2 := fun w => up_yes a x y q r (by omega) (by omega) (by omega) Q1 w
  have hPb : P < 9223372036854775808 := by
    have : a * x ≤ 4294967295 * 2147483648 := Nat.mul_le_mul (by omega) hxb
    omega
  have hqb : q ≤ P := by rw [hq, hPe]; exact Nat.div_le_self _ _
  have hub : upB q r = true := by unfold upB; rw [decide_eq_true_eq]; right; omega
  have hu : upQ q r = if r = 0 then q else q + 1 := by
    unfold upQ
    by_cases g : r = 0
    · rw [if_pos g, if_pos g]
    · rw [if_neg g, if_neg g, if_neg (by omega)]
  rw [hub, hu] at c2
  have f1 : IntKind.u64.wrap ((a : Int) * 2 ^ i) = (P : Int) := by rw [Kn.pow_cast, ← hx, ← hPe]; exact Kn.wrapN _ (by omega)
  have f2 : (P : Int) / 2 ^ j = (q : Int) := by rw [Kn.div_cast, ← hy, hPe, ← hq]
  obtain ⟨T, hT⟩ : ∃ T, T = q * y := ⟨_, rfl⟩
  have e5 := Nat.div_add_mod' (a * x) y
  rw [← hq, ← hr, ← hPe, ← hT] at e5
  have f3 : IntKind.u64.wrap ((q : Int) * 2 ^ j) = (T : Int) := by rw [Kn.pow_cast, ← hy, ← hT]; exact Kn.wrapN _ (by omega)
  have C1 := Lib.hid c1
  clear c1 hi hj hx hy hxb hyb hy0 hP Q1 hq hr hPe hub hu hT
  by_cases g : r = 0
  · rw [if_pos g] at c2
    have C2 := Lib.hid c2
    have f4 : ((T : Int) != (P : Int)) = false := by rw [bne_eq_false_iff_eq]; omega
    clear c2 g e5
    go_enter Try.func10, Try.ntmps10
    go_wp2_with (first
      | (go_at_call 11; refine (fit_any _).mono ?_; rintro e w' ⟨rfl, n, rfl⟩)
      | (go_at_call 21; ((with_reducible refine (C1.out _).mono ?_); rintro e w' ⟨rfl, n1, rfl⟩))
      | (go_at_call 23; (with_reducible refine (C2.out _).mono ?_); rintro e w' ⟨rfl, n2, rfl⟩))
    all_goals (go_ret; exact ⟨rfl, _, rfl⟩)
  · rw [if_neg g] at c2
    obtain ⟨q1, hq1⟩ : ∃ z, z = q + 1 := ⟨_, rfl⟩
    rw [← hq1] at c2
    have C2 := Lib.hid c2
    have f4 : ((T : Int) != (P : Int)) = true := by rw [bne_iff_ne]; omega
    have f5 : (q : Int) + 1 = (q1 : Int) := by omega
    have f6 : q < 9223372036854775808 := by omega
    clear c2 g e5 hq1
    go_enter Try.func10, Try.ntmps10
    go_wp2_with (first
      | (go_at_call 11; refine (fit_any _).mono ?_; rintro e w' ⟨rfl, n, rfl⟩)
      | (go_at_call 21; ((with_reducible refine (C1.out _).mono ?_); rintro e w' ⟨rfl, n1, rfl⟩))
      | (go_at_call 23; (with_reducible refine (C2.out _).mono ?_); rintro e w' ⟨rfl, n2, rfl⟩))
    all_goals (go_ret; exact ⟨rfl, _, rfl⟩)
end Go.Proofs.Ytbgdciofomlcdaa
