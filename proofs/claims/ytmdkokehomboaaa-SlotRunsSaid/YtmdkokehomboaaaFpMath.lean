/- Numbers modulo a number, by bits. -/
namespace Go.Proofs.Ytmdkokehomboaaa.Fp
set_option linter.unusedSimpArgs false
set_option linter.unusedVariables false
set_option maxRecDepth 100000

theorem pow_mod_base (b m p : Nat) : (b % p) ^ m % p = b ^ m % p := (Nat.pow_mod b m p).symm
/-- by squaring: what the loop keeps. -/
theorem sq_even {acc b m p : Nat} (hm : m % 2 = 0) : acc * (b * b % p) ^ (m / 2) % p = acc * b ^ m % p := by
  have e : b ^ m = (b * b) ^ (m / 2) := by
    rw [← Nat.pow_two, ← Nat.pow_mul]
    have : 2 * (m / 2) = m := by omega
    rw [this]
  rw [e, Nat.mul_mod, pow_mod_base, ← Nat.mul_mod]
theorem sq_odd {acc b m p : Nat} (hm : m % 2 = 1) : (acc * b % p) * (b * b % p) ^ (m / 2) % p = acc * b ^ m % p := by
  have e : b ^ m = b * (b * b) ^ (m / 2) := by
    rw [← Nat.pow_two, ← Nat.pow_mul, Nat.mul_comm, ← Nat.pow_succ]
    have : (2 * (m / 2)).succ = m := by omega
    rw [this]
  rw [e, ← Nat.mul_assoc, Nat.mul_mod, pow_mod_base, Nat.mod_mod, ← Nat.mul_mod]
/-- by adding, from the highest bit. -/
theorem half (B k : Nat) : B / 2 ^ k = 2 * (B / 2 ^ (k + 1)) + B / 2 ^ k % 2 := by
  have : B / 2 ^ (k + 1) = B / 2 ^ k / 2 := by rw [Nat.pow_succ, Nat.div_div_eq_div_mul]
  omega
theorem add_even {a B k p : Nat} (h : B / 2 ^ k % 2 = 0) : a * (B / 2 ^ (k + 1)) % p * 2 % p = a * (B / 2 ^ k) % p := by
  have e := half B k
  rw [h, Nat.add_zero] at e
  rw [e, Nat.mod_mul_mod, Nat.mul_comm 2, Nat.mul_assoc]
theorem add_odd {a B k p : Nat} (h : B / 2 ^ k % 2 = 1) : (a * (B / 2 ^ (k + 1)) % p * 2 % p + a) % p = a * (B / 2 ^ k) % p := by
  have e := half B k
  rw [h] at e
  rw [e, Nat.mod_mul_mod, Nat.mul_add, Nat.mul_one, Nat.mul_comm 2, ← Nat.mul_assoc, Nat.mod_add_mod]
theorem exp_even {a B k p : Nat} (h : B / 2 ^ k % 2 = 0) : (a ^ (B / 2 ^ (k + 1)) % p) * (a ^ (B / 2 ^ (k + 1)) % p) % p = a ^ (B / 2 ^ k) % p := by
  have e := half B k
  rw [h, Nat.add_zero] at e
  rw [e, ← Nat.mul_mod, ← Nat.pow_add, Nat.two_mul]
theorem exp_odd {a B k p : Nat} (h : B / 2 ^ k % 2 = 1) : ((a ^ (B / 2 ^ (k + 1)) % p) * (a ^ (B / 2 ^ (k + 1)) % p) % p) * a % p = a ^ (B / 2 ^ k) % p := by
  have e := half B k
  rw [h] at e
  rw [e, ← Nat.mul_mod, ← Nat.pow_add, Nat.mod_mul_mod, ← Nat.pow_succ, Nat.two_mul]
theorem rem_two (hi lo y : Nat) : (hi % y * 18446744073709551616 + lo) % y = (hi * 18446744073709551616 + lo) % y := by
  rw [Nat.add_mod, Nat.mod_mul_mod, ← Nat.add_mod]
end Go.Proofs.Ytmdkokehomboaaa.Fp
