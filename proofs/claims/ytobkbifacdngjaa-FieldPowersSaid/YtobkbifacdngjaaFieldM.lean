/- The laws of layer 2 (field), walked. -/
import Derived.Test.YtobkbifacdngjaaFieldL
import Derived.Test.YtobkbifacdngjaaFermat
namespace Go.Proofs.Ytobkbifacdngjaa
open Go.ChangeShapes Go.WideShapes Go.ChangeAt Go.RowKit

theorem laws_law (x y z : Nat) (hx : x < 18446744073709551616) (hy : y < 18446744073709551616) (hz : z < 18446744073709551616) (w : World) :
    Calls Try.prog 4 #[.int .u64 x, .int .u64 y, .int .u64 z] w fun e w' => e = .returned (.bool true) ∧ ∃ n, w' = w.drewN n := by
  obtain ⟨a, ha⟩ : ∃ a, a = x % 2305843009213693951 := ⟨_, rfl⟩
  obtain ⟨b, hb⟩ : ∃ a, a = y % 2305843009213693951 := ⟨_, rfl⟩
  obtain ⟨c, hc⟩ : ∃ a, a = z % 2305843009213693951 := ⟨_, rfl⟩
  have e1 : (x : Int) % 2305843009213693951 = (a : Int) := by omega
  have e2 : (y : Int) % 2305843009213693951 = (b : Int) := by omega
  have e3 : (z : Int) % 2305843009213693951 = (c : Int) := by omega
  have hal : a < 2305843009213693951 := by omega
  have hbl : b < 2305843009213693951 := by omega
  have hcl : c < 2305843009213693951 := by omega
  clear ha hb hc
  obtain ⟨s, hs⟩ : ∃ zz, zz = (b + c) % 2305843009213693951 := ⟨_, rfl⟩
  obtain ⟨u, hu⟩ : ∃ zz, zz = a * s % 2305843009213693951 := ⟨_, rfl⟩
  obtain ⟨ab, hab⟩ : ∃ zz, zz = a * b % 2305843009213693951 := ⟨_, rfl⟩
  obtain ⟨ac, hac⟩ : ∃ zz, zz = a * c % 2305843009213693951 := ⟨_, rfl⟩
  obtain ⟨bc, hbc⟩ : ∃ zz, zz = b * c % 2305843009213693951 := ⟨_, rfl⟩
  obtain ⟨v, hv⟩ : ∃ zz, zz = a * bc % 2305843009213693951 := ⟨_, rfl⟩
  obtain ⟨t, ht⟩ : ∃ zz, zz = (a + b) % 2305843009213693951 := ⟨_, rfl⟩
  obtain ⟨M, hM⟩ : ∃ M, M = 2305843009213693949 := ⟨_, rfl⟩
  have hM1 : M + 1 = Fm.N := by rw [hM]; rfl
  obtain ⟨i, hi⟩ : ∃ zz, zz = a ^ M % 2305843009213693951 := ⟨_, rfl⟩
  obtain ⟨q, hq⟩ : ∃ zz, zz = a * i % 2305843009213693951 := ⟨_, rfl⟩
  have hsl : s < 2305843009213693951 := by rw [hs]; exact Nat.mod_lt _ (by omega)
  have habl : ab < 2305843009213693951 := by rw [hab]; exact Nat.mod_lt _ (by omega)
  have hacl : ac < 2305843009213693951 := by rw [hac]; exact Nat.mod_lt _ (by omega)
  have hbcl : bc < 2305843009213693951 := by rw [hbc]; exact Nat.mod_lt _ (by omega)
  have htl : t < 2305843009213693951 := by rw [ht]; exact Nat.mod_lt _ (by omega)
  have hil : i < 2305843009213693951 := by rw [hi]; exact Nat.mod_lt _ (by omega)
  have m1 : (ab + ac) % 2305843009213693951 = u := by rw [hu, hs, hab, hac, Nat.mul_mod_mod, Nat.mul_add, ← Nat.add_mod]
  have m2 : ab * c % 2305843009213693951 = v := by rw [hv, hbc, hab, Nat.mul_mod_mod, Nat.mod_mul_mod, Nat.mul_assoc]
  have m3 : b * a % 2305843009213693951 = ab := by rw [hab, Nat.mul_comm]
  have m4 : (t + 2305843009213693951 - b) % 2305843009213693951 = a := by omega
  have m5 : a = 0 → i = 0 := by intro g; rw [hi, g]; exact Fm.inv_zero M hM1
  have m6 : a ≠ 0 → q = 1 := by intro g; rw [hq, hi]; exact Fm.inv_mul a M hM1 (by omega) hal
  have c1 := fun w => add_any b c (by omega) w
  have c2 := fun w => mul_any a s (by omega) (by omega) w
  have c3 := fun w => mul_any a b (by omega) (by omega) w
  have c4 := fun w => mul_any a c (by omega) (by omega) w
  have c5 := fun w => add_any ab ac (by omega) w
  have c6 := fun w => mul_any b c (by omega) (by omega) w
  have c7 := fun w => mul_any a bc (by omega) (by omega) w
  have c8 := fun w => mul_any ab c (by omega) (by omega) w
  have c9 := fun w => mul_any b a (by omega) (by omega) w
  have c10 := fun w => add_any a b (by omega) w
  have c11 := fun w => sub_any t b htl hbl w
  have c12 := fun w => inverse_any a M hM hal w
  have c13 := fun w => mul_any a i (by omega) (by omega) w
  rw [← hs] at c1
  rw [← hu] at c2
  rw [← hab] at c3
  rw [← hac] at c4
  rw [m1] at c5
  rw [← hbc] at c6
  rw [← hv] at c7
  rw [m2] at c8
  rw [m3] at c9
  rw [← ht] at c10
  rw [m4] at c11
  rw [← hi] at c12
  rw [← hq] at c13
  have C1 := Lib.hid c1
  have C2 := Lib.hid c2
  have C3 := Lib.hid c3
  have C4 := Lib.hid c4
  have C5 := Lib.hid c5
  have C6 := Lib.hid c6
  have C7 := Lib.hid c7
  have C8 := Lib.hid c8
  have C9 := Lib.hid c9
  have C10 := Lib.hid c10
  have C11 := Lib.hid c11
  have C12 := Lib.hid c12
  have C13 := Lib.hid c13
  clear c1 c2 c3 c4 c5 c6 c7 c8 c9 c10 c11 c12 c13
  clear hs hu hab hac hbc hv ht hi hq m1 m2 m3 m4 hM hM1
  have ti : decide (i < 2305843009213693951) = true := by rw [decide_eq_true_eq]; exact hil
  have ti2 : decide ((i : Int) < 2305843009213693951) = true := by rw [decide_eq_true_eq]; omega
  by_cases ha0 : a = 0
  · have m7 := m5 ha0
    have t0 : ((a : Int) == 0) = true := by rw [beq_iff_eq]; omega
    have t1 : ((a : Int) != 0) = false := by rw [bne_eq_false_iff_eq]; omega
    have t2 : ((i : Int) == 0) = true := by rw [beq_iff_eq]; omega
    clear m5 m6 m7 ha0
    go_enter Try.func4, Try.ntmps4
    go_wp2_with (first
        | (go_at_call 9; refine (fit_any _).mono ?_; rintro e w' ⟨rfl, n0, rfl⟩)
        | (go_at_call 12; first | ((with_reducible refine (C1.out _).mono ?_); rintro e w' ⟨rfl, rfl⟩) | ((with_reducible refine (C5.out _).mono ?_); rintro e w' ⟨rfl, rfl⟩) | ((with_reducible refine (C10.out _).mono ?_); rintro e w' ⟨rfl, rfl⟩))
        | (go_at_call 14; first | ((with_reducible refine (C2.out _).mono ?_); rintro e w' ⟨rfl, nC2, rfl⟩) | ((with_reducible refine (C3.out _).mono ?_); rintro e w' ⟨rfl, nC3, rfl⟩) | ((with_reducible refine (C4.out _).mono ?_); rintro e w' ⟨rfl, nC4, rfl⟩) | ((with_reducible refine (C6.out _).mono ?_); rintro e w' ⟨rfl, nC6, rfl⟩) | ((with_reducible refine (C7.out _).mono ?_); rintro e w' ⟨rfl, nC7, rfl⟩) | ((with_reducible refine (C8.out _).mono ?_); rintro e w' ⟨rfl, nC8, rfl⟩) | ((with_reducible refine (C9.out _).mono ?_); rintro e w' ⟨rfl, nC9, rfl⟩) | ((with_reducible refine (C13.out _).mono ?_); rintro e w' ⟨rfl, nC13, rfl⟩))
        | (go_at_call 13; first | ((with_reducible refine (C11.out _).mono ?_); rintro e w' ⟨rfl, rfl⟩))
        | (go_at_call 18; first | ((with_reducible refine (C12.out _).mono ?_); rintro e w' ⟨rfl, nC12, rfl⟩)))
    all_goals (first | (go_ret; exact ⟨rfl, _, rfl⟩))
  · have m7 := m6 ha0
    subst m7
    have t0 : ((a : Int) == 0) = false := by rw [beq_eq_false_iff_ne]; omega
    have t1 : ((a : Int) != 0) = true := by rw [bne_iff_ne]; omega
    clear m5 m6 ha0
    go_enter Try.func4, Try.ntmps4
    go_wp2_with (first
        | (go_at_call 9; refine (fit_any _).mono ?_; rintro e w' ⟨rfl, n0, rfl⟩)
        | (go_at_call 12; first | ((with_reducible refine (C1.out _).mono ?_); rintro e w' ⟨rfl, rfl⟩) | ((with_reducible refine (C5.out _).mono ?_); rintro e w' ⟨rfl, rfl⟩) | ((with_reducible refine (C10.out _).mono ?_); rintro e w' ⟨rfl, rfl⟩))
        | (go_at_call 14; first | ((with_reducible refine (C2.out _).mono ?_); rintro e w' ⟨rfl, nC2, rfl⟩) | ((with_reducible refine (C3.out _).mono ?_); rintro e w' ⟨rfl, nC3, rfl⟩) | ((with_reducible refine (C4.out _).mono ?_); rintro e w' ⟨rfl, nC4, rfl⟩) | ((with_reducible refine (C6.out _).mono ?_); rintro e w' ⟨rfl, nC6, rfl⟩) | ((with_reducible refine (C7.out _).mono ?_); rintro e w' ⟨rfl, nC7, rfl⟩) | ((with_reducible refine (C8.out _).mono ?_); rintro e w' ⟨rfl, nC8, rfl⟩) | ((with_reducible refine (C9.out _).mono ?_); rintro e w' ⟨rfl, nC9, rfl⟩) | ((with_reducible refine (C13.out _).mono ?_); rintro e w' ⟨rfl, nC13, rfl⟩))
        | (go_at_call 13; first | ((with_reducible refine (C11.out _).mono ?_); rintro e w' ⟨rfl, rfl⟩))
        | (go_at_call 18; first | ((with_reducible refine (C12.out _).mono ?_); rintro e w' ⟨rfl, nC12, rfl⟩)))
    all_goals (first | (go_ret; exact ⟨rfl, _, rfl⟩))
theorem powers_law (x n m : Nat) (hx : x < 18446744073709551616) (hn : n < 18446744073709551616) (hm : m < 18446744073709551616) (w : World) :
    Calls Try.prog 5 #[.int .u64 x, .int .u64 n, .int .u64 m] w fun e w' => e = .returned (.bool true) ∧ ∃ n, w' = w.drewN n := by
  obtain ⟨a, ha⟩ : ∃ a, a = x % 2305843009213693951 := ⟨_, rfl⟩
  obtain ⟨k, hk⟩ : ∃ a, a = n / 4 := ⟨_, rfl⟩
  obtain ⟨l, hl⟩ : ∃ a, a = m / 4 := ⟨_, rfl⟩
  have e1 : (x : Int) % 2305843009213693951 = (a : Int) := by omega
  have e2 : (n : Int) / 4 = (k : Int) := by omega
  have e3 : (m : Int) / 4 = (l : Int) := by omega
  have hal : a < 2305843009213693951 := by omega
  have hkl : k < 4611686018427387904 := by omega
  have hll : l < 4611686018427387904 := by omega
  clear ha hk hl
  obtain ⟨kl, hkl2⟩ : ∃ z, z = k + l := ⟨_, rfl⟩
  have e4 : (k : Int) + (l : Int) = (kl : Int) := by omega
  have c1 := fun w => power_any a k hal (by omega) w
  have c2 := fun w => power_any a l hal (by omega) w
  have c3 := fun w => power_any a kl hal (by omega) w
  obtain ⟨M, hM⟩ : ∃ M, M = 2305843009213693950 := ⟨_, rfl⟩
  have hM1 : M = Fm.N := by rw [hM]; rfl
  have c4 := fun w => power_any a M hal (by omega) w
  have c5 := fun w => power_any a 0 hal (by omega) w
  have c6 := fun w => power_any a 1 hal (by omega) w
  rw [Nat.pow_zero] at c5
  rw [Nat.pow_one, Nat.mod_eq_of_lt hal] at c6
  have m4 : a = 0 ∨ a ≠ 0 ∧ a ^ M % 2305843009213693951 = 1 := by
    rcases Nat.eq_zero_or_pos a with g | g
    · exact Or.inl g
    · rw [hM1]; exact Or.inr ⟨by omega, Fm.fermat a g hal⟩
  obtain ⟨u, hu⟩ : ∃ z, z = a ^ k % 2305843009213693951 := ⟨_, rfl⟩
  obtain ⟨v, hv⟩ : ∃ z, z = a ^ l % 2305843009213693951 := ⟨_, rfl⟩
  obtain ⟨q, hq⟩ : ∃ z, z = a ^ kl % 2305843009213693951 := ⟨_, rfl⟩
  generalize a ^ M % 2305843009213693951 = f at *
  have hM' : (M : Int) = 2305843009213693950 := by omega
  rw [hM'] at c4
  clear hM hM1 hM'
  have hul : u < 2305843009213693951 := by rw [hu]; exact Nat.mod_lt _ (by omega)
  have hvl : v < 2305843009213693951 := by rw [hv]; exact Nat.mod_lt _ (by omega)
  have m1 : u * v % 2305843009213693951 = q := by rw [hu, hv, hq, hkl2, Nat.pow_add, ← Nat.mul_mod]
  have c7 := fun w => mul_any u v (by omega) (by omega) w
  rw [m1] at c7
  rw [← hu] at c1
  rw [← hv] at c2
  rw [← hq] at c3
  have d5 : ∀ w, Calls Try.prog 16 #[.int .u64 a, .int .u64 0] w fun e w' => e = .returned (.int .u64 1) ∧ ∃ n, w' = w.drewN n := c5
  have d6 : ∀ w, Calls Try.prog 16 #[.int .u64 a, .int .u64 1] w fun e w' => e = .returned (.int .u64 a) ∧ ∃ n, w' = w.drewN n := c6
  have d4 : ∀ w, Calls Try.prog 16 #[.int .u64 a, .int .u64 2305843009213693950] w fun e w' => e = .returned (.int .u64 f) ∧ ∃ n, w' = w.drewN n := c4
  have C1 := Lib.hid c1
  have C2 := Lib.hid c2
  have C3 := Lib.hid c3
  have D4 := Lib.hid d4
  have D5 := Lib.hid d5
  have D6 := Lib.hid d6
  have C7 := Lib.hid c7
  clear c1 c2 c3 d4 d5 d6 c7
  clear c4 c5 c6 hu hv hq m1 hkl2
  rcases m4 with g | ⟨g0, g⟩
  · have t0 : ((a : Int) == 0) = true := by rw [beq_iff_eq]; omega
    clear g
    go_enter Try.func5, Try.ntmps5
    go_wp2_with (first
        | (go_at_call 9; refine (fit_any _).mono ?_; rintro e w' ⟨rfl, n0, rfl⟩)
        | (go_at_call 16; first | ((with_reducible refine (C1.out _).mono ?_); rintro e w' ⟨rfl, nC1, rfl⟩) | ((with_reducible refine (C2.out _).mono ?_); rintro e w' ⟨rfl, nC2, rfl⟩) | ((with_reducible refine (C3.out _).mono ?_); rintro e w' ⟨rfl, nC3, rfl⟩) | ((with_reducible refine (D4.out _).mono ?_); rintro e w' ⟨rfl, nD4, rfl⟩) | ((with_reducible refine (D5.out _).mono ?_); rintro e w' ⟨rfl, nD5, rfl⟩) | ((with_reducible refine (D6.out _).mono ?_); rintro e w' ⟨rfl, nD6, rfl⟩))
        | (go_at_call 14; first | ((with_reducible refine (C7.out _).mono ?_); rintro e w' ⟨rfl, nC7, rfl⟩)))
    all_goals (first | (go_ret; exact ⟨rfl, _, rfl⟩))
  · subst g
    have t0 : ((a : Int) == 0) = false := by rw [beq_eq_false_iff_ne]; omega
    clear g0
    go_enter Try.func5, Try.ntmps5
    go_wp2_with (first
        | (go_at_call 9; refine (fit_any _).mono ?_; rintro e w' ⟨rfl, n0, rfl⟩)
        | (go_at_call 16; first | ((with_reducible refine (C1.out _).mono ?_); rintro e w' ⟨rfl, nC1, rfl⟩) | ((with_reducible refine (C2.out _).mono ?_); rintro e w' ⟨rfl, nC2, rfl⟩) | ((with_reducible refine (C3.out _).mono ?_); rintro e w' ⟨rfl, nC3, rfl⟩) | ((with_reducible refine (D4.out _).mono ?_); rintro e w' ⟨rfl, nD4, rfl⟩) | ((with_reducible refine (D5.out _).mono ?_); rintro e w' ⟨rfl, nD5, rfl⟩) | ((with_reducible refine (D6.out _).mono ?_); rintro e w' ⟨rfl, nD6, rfl⟩))
        | (go_at_call 14; first | ((with_reducible refine (C7.out _).mono ?_); rintro e w' ⟨rfl, nC7, rfl⟩)))
    all_goals (first | (go_ret; exact ⟨rfl, _, rfl⟩))
theorem inverse_law (x y : Nat) (hx : x < 18446744073709551616) (hy : y < 18446744073709551616) (w : World) :
    Calls Try.prog 7 #[.int .u64 x, .int .u64 y] w fun e w' => e = .returned (.bool true) ∧ ∃ n, w' = w.drewN n := by
  obtain ⟨a, ha⟩ : ∃ a, a = x % 2305843009213693951 := ⟨_, rfl⟩
  obtain ⟨b, hb⟩ : ∃ a, a = y % 2305843009213693951 := ⟨_, rfl⟩
  have e1 : (x : Int) % 2305843009213693951 = (a : Int) := by omega
  have e2 : (y : Int) % 2305843009213693951 = (b : Int) := by omega
  have hal : a < 2305843009213693951 := by omega
  have hbl : b < 2305843009213693951 := by omega
  clear ha hb
  obtain ⟨M, hM⟩ : ∃ M, M = 2305843009213693949 := ⟨_, rfl⟩
  have hM1 : M + 1 = Fm.N := by rw [hM]; rfl
  have m1 : (a * b % 2305843009213693951) ^ M % 2305843009213693951 = (a ^ M % 2305843009213693951) * (b ^ M % 2305843009213693951) % 2305843009213693951 := Fm.inv_prod a b M
  have m2 : (a ^ M % 2305843009213693951) ^ M % 2305843009213693951 = a := Fm.inv_inv a M hM1 hal
  obtain ⟨p, hp⟩ : ∃ z, z = a * b % 2305843009213693951 := ⟨_, rfl⟩
  obtain ⟨ia, hia⟩ : ∃ z, z = a ^ M % 2305843009213693951 := ⟨_, rfl⟩
  obtain ⟨ib, hib⟩ : ∃ z, z = b ^ M % 2305843009213693951 := ⟨_, rfl⟩
  obtain ⟨ip, hip⟩ : ∃ z, z = ia * ib % 2305843009213693951 := ⟨_, rfl⟩
  rw [← hp, ← hia, ← hib, ← hip] at m1
  rw [← hia] at m2
  have hpl : p < 2305843009213693951 := by rw [hp]; exact Nat.mod_lt _ (by omega)
  have hial : ia < 2305843009213693951 := by rw [hia]; exact Nat.mod_lt _ (by omega)
  have hibl : ib < 2305843009213693951 := by rw [hib]; exact Nat.mod_lt _ (by omega)
  have c1 := fun w => mul_any a b (by omega) (by omega) w
  have c2 := fun w => inverse_any p M hM hpl w
  have c3 := fun w => inverse_any a M hM hal w
  have c4 := fun w => inverse_any b M hM hbl w
  have c5 := fun w => mul_any ia ib (by omega) (by omega) w
  have c6 := fun w => inverse_any ia M hM hial w
  have c7 := fun w => inverse_any 1 M hM (by omega) w
  rw [← hp] at c1
  rw [m1] at c2
  rw [← hia] at c3
  rw [← hib] at c4
  rw [← hip] at c5
  rw [m2] at c6
  rw [Nat.one_pow] at c7
  have d7 : ∀ w, Calls Try.prog 18 #[.int .u64 1] w fun e w' => e = .returned (.int .u64 1) ∧ ∃ n, w' = w.drewN n := c7
  have C1 := Lib.hid c1
  have C2 := Lib.hid c2
  have C3 := Lib.hid c3
  have C4 := Lib.hid c4
  have C5 := Lib.hid c5
  have C6 := Lib.hid c6
  have D7 := Lib.hid d7
  clear c1 c2 c3 c4 c5 c6 d7
  clear c7 m1 m2 hp hia hib hip hM hM1
  go_enter Try.func7, Try.ntmps7
  go_wp2_with (first
        | (go_at_call 9; refine (fit_any _).mono ?_; rintro e w' ⟨rfl, n0, rfl⟩)
        | (go_at_call 18; first | ((with_reducible refine (C2.out _).mono ?_); rintro e w' ⟨rfl, nC2, rfl⟩) | ((with_reducible refine (C3.out _).mono ?_); rintro e w' ⟨rfl, nC3, rfl⟩) | ((with_reducible refine (C4.out _).mono ?_); rintro e w' ⟨rfl, nC4, rfl⟩) | ((with_reducible refine (C6.out _).mono ?_); rintro e w' ⟨rfl, nC6, rfl⟩) | ((with_reducible refine (D7.out _).mono ?_); rintro e w' ⟨rfl, nD7, rfl⟩))
        | (go_at_call 14; first | ((with_reducible refine (C1.out _).mono ?_); rintro e w' ⟨rfl, nC1, rfl⟩) | ((with_reducible refine (C5.out _).mono ?_); rintro e w' ⟨rfl, nC5, rfl⟩)))
  all_goals (first | (go_ret; exact ⟨rfl, _, rfl⟩))
end Go.Proofs.Ytobkbifacdngjaa
