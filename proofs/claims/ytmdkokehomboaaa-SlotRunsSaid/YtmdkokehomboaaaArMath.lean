/- Whole numbers of 64 bits: products that run over, quotients bit by bit. -/
import Derived.WalkKit
import Derived.Lib.Mul64
namespace Go.Proofs.Ytmdkokehomboaaa.Ar
set_option linter.unusedSimpArgs false
set_option linter.unusedVariables false
set_option maxRecDepth 100000
open Go Go.RowKit
def inR (n : Int) : Prop := -9223372036854775808 ≤ n ∧ n ≤ 9223372036854775807
instance (n : Int) : Decidable (inR n) := by unfold inR; infer_instance

theorem tm_lt (p b : Int) (hb : b ≠ 0) (hb2 : inR b) : -9223372036854775808 < p.tmod b ∧ p.tmod b < 9223372036854775808 := by
  have h := Int.natAbs_tmod p b
  have h2 := Nat.mod_lt p.natAbs (show 0 < b.natAbs by omega)
  unfold inR at hb2
  omega
theorem td_le (p b : Int) (hp : inR p) : -9223372036854775808 ≤ p.tdiv b ∧ p.tdiv b ≤ 9223372036854775808 ∧ (p.tdiv b = 9223372036854775808 → p = -9223372036854775808 ∧ b = -1) := by
  have h : (p.tdiv b).natAbs = p.natAbs / b.natAbs := Int.natAbs_tdiv p b
  have h2 := Nat.div_le_self p.natAbs b.natAbs
  unfold inR at hp
  refine ⟨by omega, by omega, fun he => ?_⟩
  have h3 : p = -9223372036854775808 := by omega
  refine ⟨h3, ?_⟩
  subst h3
  have hb : b.natAbs = 1 := by
    have e : (-9223372036854775808 : Int).natAbs = 9223372036854775808 := rfl
    have e2 : (9223372036854775808 : Int).natAbs = 9223372036854775808 := rfl
    replace h : 9223372036854775808 = 9223372036854775808 / b.natAbs := by rw [← e, ← h, he, e2, e]
    clear e e2 h2 he
    rcases Nat.eq_zero_or_pos b.natAbs with h0 | h0
    · rw [h0, Nat.div_zero] at h; omega
    · by_cases h1 : b.natAbs = 1
      · exact h1
      · have := Nat.div_lt_self (n := 9223372036854775808) (by decide) (show 1 < b.natAbs by omega)
        omega
  have : b = 1 ∨ b = -1 := by omega
  rcases this with rfl | rfl
  · rw [Int.tdiv_one] at he; omega
  · rfl
theorem wrap_sub (a : Int) : ∃ k : Int, wrap64 a = a + 18446744073709551616 * k := ⟨-((a + 9223372036854775808) / 18446744073709551616), by unfold wrap64; omega⟩
theorem wrap_in (a : Int) : inR (wrap64 a) := by unfold inR wrap64; omega
theorem wrap_eq {a : Int} (h : inR a) : wrap64 a = a := by unfold inR at h; unfold wrap64; omega
theorem sgn (a b : Int) (ha : a ≠ 0) (hb : b ≠ 0) : (a * b < 0) ↔ ¬ ((a < 0) ↔ (b < 0)) := by
  rcases Int.lt_or_gt_of_ne ha with h | h <;> rcases Int.lt_or_gt_of_ne hb with g | g
  · have := Int.mul_pos_of_neg_of_neg h g; constructor <;> intro <;> omega
  · have := Int.mul_neg_of_neg_of_pos h g; constructor <;> intro <;> omega
  · have := Int.mul_neg_of_pos_of_neg h g; constructor <;> intro <;> omega
  · have := Int.mul_pos h g; constructor <;> intro <;> omega
theorem sgn2 (a b : Int) : (a < 0 → b < 0 → 0 ≤ a * b) ∧ (a < 0 → 0 ≤ b → a * b ≤ 0) ∧ (0 ≤ a → b < 0 → a * b ≤ 0) ∧ (0 ≤ a → 0 ≤ b → 0 ≤ a * b) :=
  ⟨fun h g => Int.le_of_lt (Int.mul_pos_of_neg_of_neg h g), fun h g => Int.mul_nonpos_of_nonpos_of_nonneg (Int.le_of_lt h) g,
   fun h g => Int.mul_nonpos_of_nonneg_of_nonpos h (Int.le_of_lt g), Int.mul_nonneg⟩
theorem mul_ok (a b : Int) (ha : inR a) (hb : inR b) (ha0 : a ≠ 0) (hb0 : b ≠ 0) :
    (wrap64 ((wrap64 (a * b)).tdiv b) = a ∧ (wrap64 (a * b) < 0 ↔ ¬ (a < 0 ↔ b < 0))) ↔ inR (a * b) := by
  have hs := sgn a b ha0 hb0
  constructor
  · rintro ⟨h1, h2⟩
    obtain ⟨t1, t2, t3⟩ := td_le (wrap64 (a * b)) b (wrap_in _)
    have tm := tm_lt (wrap64 (a * b)) b hb0 hb
    have e := Int.mul_tdiv_add_tmod (wrap64 (a * b)) b
    obtain ⟨k, hk⟩ := wrap_sub (a * b)
    have hw := wrap_in (a * b)
    by_cases hq : (wrap64 (a * b)).tdiv b = 9223372036854775808
    · obtain ⟨p1, p2⟩ := t3 hq
      rw [hq] at h1
      have : a = -9223372036854775808 := by rw [← h1]; unfold wrap64; omega
      rw [p1] at h2
      subst p2; subst this
      have := h2.1 (by omega); omega
    · have hq2 : (wrap64 (a * b)).tdiv b = a := (wrap_eq ⟨t1, by omega⟩).symm.trans h1
      rw [hq2, Int.mul_comm b a] at e
      generalize a * b = z at *
      generalize (wrap64 z).tmod b = y at *
      unfold inR at *
      have hk0 : k = 0 := by omega
      subst hk0
      omega
  · intro h
    rw [wrap_eq h, Int.mul_tdiv_cancel a hb0, wrap_eq ha]
    exact ⟨rfl, hs⟩
/-- the bit-by-bit quotient. -/
theorem bit_step {M c k q r : Nat} (hc : 0 < c) (hq : q = M / 2 ^ (k + 1) / c) (hr : r = M / 2 ^ (k + 1) % c) :
    (2 * r + M / 2 ^ k % 2 < c → 2 * q = M / 2 ^ k / c ∧ 2 * r + M / 2 ^ k % 2 = M / 2 ^ k % c) ∧
    (c ≤ 2 * r + M / 2 ^ k % 2 → 2 * q + 1 = M / 2 ^ k / c ∧ 2 * r + M / 2 ^ k % 2 - c = M / 2 ^ k % c ∧ 2 * r + M / 2 ^ k % 2 - c < c) := by
  have hp : M / 2 ^ (k + 1) = M / 2 ^ k / 2 := by rw [Nat.pow_succ, Nat.div_div_eq_div_mul]
  rw [hp] at hq hr
  generalize M / 2 ^ k = m at *
  have e := Nat.div_add_mod' (m / 2) c
  rw [← hq, ← hr] at e
  have hrc : r < c := by rw [hr]; exact Nat.mod_lt _ hc
  constructor
  · intro h
    have : m = (2 * r + m % 2) + 2 * q * c := by rw [Nat.mul_assoc]; generalize q * c = z at *; omega
    have h1 : m / c = 2 * q := by
      conv => lhs; rw [this]
      rw [Nat.add_mul_div_right _ _ hc, Nat.div_eq_of_lt h, Nat.zero_add]
    have h2 : m % c = 2 * r + m % 2 := by
      conv => lhs; rw [this]
      rw [Nat.add_mul_mod_self_right, Nat.mod_eq_of_lt h]
    exact ⟨h1.symm, h2.symm⟩
  · intro h
    have h3 : 2 * r + m % 2 - c < c := by omega
    have : m = (2 * r + m % 2 - c) + (2 * q + 1) * c := by rw [Nat.add_mul, Nat.mul_assoc, Nat.one_mul]; generalize q * c = z at *; omega
    have h1 : m / c = 2 * q + 1 := by
      conv => lhs; rw [this]
      rw [Nat.add_mul_div_right _ _ hc, Nat.div_eq_of_lt h3, Nat.zero_add]
    have h2 : m % c = 2 * r + m % 2 - c := by
      conv => lhs; rw [this]
      rw [Nat.add_mul_mod_self_right, Nat.mod_eq_of_lt h3]
    exact ⟨h1.symm, h2.symm, h3⟩
theorem lo_aux (a b c d : Nat) : (a * (4294967296 * 4294967296) + (b + c) * 4294967296 + d) % 18446744073709551616 = 4294967296 * (((b + d / 4294967296) % 4294967296 + c) % 4294967296) + d % 4294967296 := by omega
theorem wide_lo (x y : Nat) : x * y % 18446744073709551616 =
    ((((x / 4294967296) * (y % 4294967296) + (x % 4294967296) * (y % 4294967296) / 4294967296) % 4294967296 + (x % 4294967296) * (y / 4294967296)) * 4294967296 % 18446744073709551616) ||| ((x % 4294967296) * (y % 4294967296) % 4294967296) := by
  have e : x * y = (x / 4294967296) * (y / 4294967296) * (4294967296 * 4294967296) + ((x / 4294967296) * (y % 4294967296) + (x % 4294967296) * (y / 4294967296)) * 4294967296 + (x % 4294967296) * (y % 4294967296) := by
    rw [← Lib.split_mul, Nat.div_add_mod' x 4294967296, Nat.div_add_mod' y 4294967296]
  rw [e]
  generalize (x / 4294967296) * (y / 4294967296) = a
  generalize (x / 4294967296) * (y % 4294967296) = b
  generalize (x % 4294967296) * (y / 4294967296) = c
  generalize (x % 4294967296) * (y % 4294967296) = d
  have h : ((b + d / 4294967296) % 4294967296 + c) * 4294967296 % 18446744073709551616 = 4294967296 * (((b + d / 4294967296) % 4294967296 + c) % 4294967296) := by omega
  have hd : d % 4294967296 < 2 ^ 32 := Nat.mod_lt _ (by decide)
  rw [h]
  have := Nat.two_pow_add_eq_or_of_lt hd (((b + d / 4294967296) % 4294967296 + c) % 4294967296)
  rw [show (2 : Nat) ^ 32 = 4294967296 from rfl] at this
  rw [← this]
  exact lo_aux a b c d
theorem bit_of {M hi lo k : Nat} (h1 : hi = M / 18446744073709551616) (h2 : lo = M % 18446744073709551616) (hk : k < 64) : lo / 2 ^ k % 2 = M / 2 ^ k % 2 := by
  have e : M = lo + 2 ^ k * (2 ^ (63 - k) * 2 * hi) := by
    have : 2 ^ k * (2 ^ (63 - k) * 2 * hi) = 2 ^ 64 * hi := by
      rw [← Nat.mul_assoc, ← Nat.mul_assoc, ← Nat.pow_add, ← Nat.pow_succ]
      have : (k + (63 - k)).succ = 64 := by omega
      rw [this]
    rw [this, h1, h2]
    omega
  conv => rhs; rw [e]
  rw [Nat.add_mul_div_left _ _ (Nat.two_pow_pos k), Nat.mul_assoc, Nat.mul_left_comm]
  omega
theorem and_one (a : Nat) (ha : a < 18446744073709551616) : bits .and .u64 (a : Int) 1 = ((a % 2 : Nat) : Int) := by
  have h := bits_and_u64_nat a 1 ha (by omega)
  rw [Nat.and_one_is_mod] at h
  exact h
theorem or_bit (a d : Nat) (hd : d < 2) (ha : 2 * a < 18446744073709551616) : bits .or .u64 ((2 * a : Nat) : Int) (d : Int) = ((2 * a + d : Nat) : Int) := by
  rw [bits_or_u64_nat _ _ ha (by omega)]
  have := Nat.two_pow_add_eq_or_of_lt (i := 1) (b := d) hd a
  rw [show (2 : Nat) ^ 1 = 2 from rfl] at this
  rw [this]
end Go.Proofs.Ytmdkokehomboaaa.Ar
