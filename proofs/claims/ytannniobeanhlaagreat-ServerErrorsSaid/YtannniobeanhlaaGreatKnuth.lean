import Derived.WalkKit
import Derived.Lib.BitFns
/- Knuth: two digits of a quotient of 128 bits by 64, each by a guess that is corrected. -/
namespace Go.Proofs.YtannniobeanhlaaGreat.Kn
set_option linter.unusedSimpArgs false
set_option linter.unusedVariables false
set_option maxRecDepth 100000
open Go Go.RowKit
/-- one digit: what the correction loop keeps. -/
structure Inv (U V1 V0 D q r : Nat) : Prop where
  eq : q * V1 + r = U
  ge : (U * 4294967296 + D) / (V1 * 4294967296 + V0) ≤ q
  le : q ≤ 4294967297

theorem dig_lt {U V1 V0 D : Nat} (hU : U < V1 * 4294967296 + V0) (hD : D < 4294967296) : (U * 4294967296 + D) / (V1 * 4294967296 + V0) < 4294967296 := by
  rw [Nat.div_lt_iff_lt_mul (by omega)]
  have : U * 4294967296 + 4294967296 ≤ (V1 * 4294967296 + V0) * 4294967296 := by
    have : (U + 1) * 4294967296 ≤ (V1 * 4294967296 + V0) * 4294967296 := Nat.mul_le_mul_right _ hU
    omega
  rw [Nat.mul_comm 4294967296]; omega

theorem start {U V1 V0 D : Nat} (h1 : 2147483648 ≤ V1) (h0 : V0 < 4294967296) (hU : U < V1 * 4294967296 + V0) (hD : D < 4294967296) :
    Inv U V1 V0 D (U / V1) (U % V1) := by
  have e := Nat.div_add_mod' U V1
  refine ⟨e, ?_, ?_⟩
  · have : (U * 4294967296 + D) / (V1 * 4294967296 + V0) ≤ (U * 4294967296 + D) / (V1 * 4294967296) := Nat.div_le_div_left (by omega) (by omega)
    refine Nat.le_trans this ?_
    rw [Nat.mul_comm V1, ← Nat.div_div_eq_div_mul]
    have : (U * 4294967296 + D) / 4294967296 = U := by omega
    rw [this]; exact Nat.le_refl _
  · have : U / V1 < 4294967298 := by
      rw [Nat.div_lt_iff_lt_mul (by omega)]
      omega
    omega

theorem step {U V1 V0 D q r : Nat} (I : Inv U V1 V0 D q r) (hU : U < V1 * 4294967296 + V0) (hD : D < 4294967296) (_hr : r < 4294967296)
    (h : 4294967296 ≤ q ∨ 4294967296 * r + D < q * V0) : 1 ≤ q ∧ Inv U V1 V0 D (q - 1) (r + V1) := by
  have hd := dig_lt (D := D) hU hD
  have I1 := I.eq; have I2 := I.ge; have I3 := I.le
  have hq : (U * 4294967296 + D) / (V1 * 4294967296 + V0) < q := by
    rcases h with h | h
    · omega
    · rw [Nat.div_lt_iff_lt_mul (by omega), Nat.mul_add, ← Nat.mul_assoc]
      rw [← I1, Nat.add_mul]
      omega
  have h1 : 1 ≤ q := Nat.lt_of_le_of_lt (Nat.zero_le _) hq
  refine ⟨h1, ?_, by omega, by omega⟩
  obtain ⟨p, rfl⟩ : ∃ p, q = p + 1 := ⟨q - 1, by omega⟩
  simp only [Nat.add_sub_cancel]
  rw [Nat.add_mul, Nat.one_mul] at I1
  omega

structure Prep (hi lo y s Y V1 V0 U L D1 D0 Q P R : Nat) : Prop where
  fs : s < 64
  fY : y * 2 ^ s = Y
  fYb : Y < 18446744073709551616
  fV : Y = V1 * 4294967296 + V0
  fV1 : 2147483648 ≤ V1 ∧ V1 < 4294967296
  fV0 : V0 < 4294967296
  fU : U < Y
  fN : (hi * 18446744073709551616 + lo) * 2 ^ s = U * 18446744073709551616 + L
  fL : L = D1 * 4294967296 + D0
  fD1 : D1 < 4294967296
  fD0 : D0 < 4294967296
  fQ : U / V1 = Q
  fP : Q * V1 = P
  fR : P + R = U
  fRb : R < V1
  fhU : hi * 2 ^ s + lo / 2 ^ (64 - s) = U
  fhL : lo * 2 ^ s % 18446744073709551616 = L

end Go.Proofs.YtannniobeanhlaaGreat.Kn
