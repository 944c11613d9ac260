/- The contracts of layer 1 (arith), and of the document's answers for it. -/
import Derived.Test.YtbgdciofomlcdaaRows
import Derived.Test.YtbgdciofomlcdaaDiv
import Derived.Test.YtbgdciofomlcdaaArMath
import Derived.WalkKit
import Derived.ProofKit
import Derived.OpenShut
import Derived.Outline
import Derived.Lib.Hide
import Derived.Lib.Mul64
namespace Go.Proofs.Ytbgdciofomlcdaa
open Go.ChangeShapes Go.WideShapes Go.ChangeAt Go.RowKit
open Ar (inR)

theorem ret_i {k : IntKind} {a b : Int} (h : a = b) : Ending.returned (.int k a) = .returned (.int k b) := by rw [h]
theorem ret_b {a b : Bool} (h : a = b) : Ending.returned (.bool a) = .returned (.bool b) := by rw [h]
theorem ret_ib {k : IntKind} {a b : Int} {c d : Bool} (h : a = b) (g : c = d) : Ending.returned (.tuple #[.int k a, .bool c]) = .returned (.tuple #[.int k b, .bool d]) := by rw [h, g]

theorem beq_dec {P Q R : Prop} [Decidable P] [Decidable Q] [Decidable R] (h : (P ↔ Q) ↔ R) : (decide P == decide Q) = decide R := by
  by_cases hp : P <;> by_cases hq : Q <;> by_cases hr : R <;> simp_all
theorem add_iff {a b : Int} (ha : inR a) (hb : inR b) : (a ≤ wrap64 (a + b) ↔ 0 ≤ b) ↔ inR (a + b) := by
  unfold inR wrap64 at *
  by_cases h : 0 ≤ b
  · simp only [h, iff_true]; omega
  · simp only [h, iff_false]; omega
theorem sub_iff {a b : Int} (ha : inR a) (hb : inR b) : (wrap64 (a - b) ≤ a ↔ 0 ≤ b) ↔ inR (a - b) := by
  unfold inR wrap64 at *
  by_cases h : 0 ≤ b
  · simp only [h, iff_true]; omega
  · simp only [h, iff_false]; omega
theorem add_any (a b : Int) (ha : inR a) (hb : inR b) (w : World) :
    Calls Try.prog 12 #[.int .i64 a, .int .i64 b] w fun e w' => e = .returned (.tuple #[.int .i64 (wrap64 (a + b)), .bool (decide (inR (a + b)))]) ∧ w = w' := by
  unfold inR at *
  go_enter Try.func12, Try.ntmps12
  go_wp2
  go_ret2
  exact ⟨ret_ib rfl (beq_dec (add_iff ha hb)), rfl⟩
theorem sub_any (a b : Int) (ha : inR a) (hb : inR b) (w : World) :
    Calls Try.prog 14 #[.int .i64 a, .int .i64 b] w fun e w' => e = .returned (.tuple #[.int .i64 (wrap64 (a - b)), .bool (decide (inR (a - b)))]) ∧ w = w' := by
  unfold inR at *
  go_enter Try.func14, Try.ntmps14
  go_wp2
  go_ret2
  exact ⟨ret_ib rfl (beq_dec (sub_iff ha hb)), rfl⟩
def clamp (n : Int) : Int := if n < -9223372036854775808 then -9223372036854775808 else if 9223372036854775807 < n then 9223372036854775807 else n
theorem edge_any (b : Bool) (w : World) :
    Calls Try.prog 28 #[.bool b] w fun e w' => e = .returned (.int .i64 (if b then -9223372036854775808 else 9223372036854775807)) ∧ w = w' := by
  cases b
  all_goals
    go_enter Try.func28, Try.ntmps28
    go_wp2
    go_ret
    exact ⟨rfl, rfl⟩
theorem sum_any (a b : Int) (ha : inR a) (hb : inR b) (w : World) :
    Calls Try.prog 15 #[.int .i64 a, .int .i64 b] w fun e w' => e = .returned (.int .i64 (clamp (a + b))) ∧ w = w' := by
  by_cases h : inR (a + b)
  · have hd : decide (inR (a + b)) = true := by rw [decide_eq_true_eq]; exact h
    have HA := Lib.hid ha
    have HB := Lib.hid hb
    have HH := Lib.hid h
    clear h ha hb
    go_enter Try.func15, Try.ntmps15
    go_wp2_with (go_at_call 12; refine (add_any _ _ HA.out HB.out _).mono ?_; rintro e w' ⟨rfl, rfl⟩)
    go_ret
    have h := HH.out
    exact ⟨ret_i (by rw [Ar.wrap_eq h]; unfold clamp; unfold inR at h; rw [if_neg (by omega), if_neg (by omega)]), rfl⟩
  · have hd : decide (inR (a + b)) = false := by rw [decide_eq_false_iff_not]; exact h
    have HA := Lib.hid ha
    have HB := Lib.hid hb
    have HH := Lib.hid h
    clear h ha hb
    go_enter Try.func15, Try.ntmps15
    go_wp2_with (first | (go_at_call 12; refine (add_any _ _ HA.out HB.out _).mono ?_; rintro e w' ⟨rfl, rfl⟩) | (go_at_call 28; refine (edge_any _ _).mono ?_; rintro e w' ⟨rfl, rfl⟩))
    all_goals
      go_ret
      have h := HH.out
      have ha := HA.out
      have hb := HB.out
      unfold inR at h ha hb
      refine ⟨ret_i ?_, rfl⟩
      unfold clamp
      first | rw [if_pos (by omega)] | rw [if_neg (by omega), if_pos (by omega)]
theorem sgn_b (p a b : Int) : (decide (p < 0) == !(decide (a < 0) == decide (b < 0))) = true ↔ (p < 0 ↔ ¬(a < 0 ↔ b < 0)) := by
  by_cases hp : p < 0 <;> by_cases ha : a < 0 <;> by_cases hb : b < 0 <;> simp [hp, ha, hb]
theorem mul_any (a b : Int) (ha : inR a) (hb : inR b) (w : World) :
    Calls Try.prog 17 #[.int .i64 a, .int .i64 b] w fun e w' => e = .returned (.tuple #[.int .i64 (wrap64 (a * b)), .bool (decide (inR (a * b)))]) ∧ w = w' := by
  by_cases ha0 : a = 0
  · subst ha0
    go_enter Try.func17, Try.ntmps17
    go_wp2
    go_ret2
    exact ⟨ret_ib (by rw [Int.zero_mul, Ar.wrap_eq (by unfold inR; omega)]) (by rw [Int.zero_mul]; rfl), rfl⟩
  by_cases hb0 : b = 0
  · subst hb0
    have e : (a == 0) = false := by simpa using ha0
    go_enter Try.func17, Try.ntmps17
    go_wp2
    go_ret2
    exact ⟨ret_ib (by rw [Int.mul_zero, Ar.wrap_eq (by unfold inR; omega)]) (by rw [Int.mul_zero]; rfl), rfl⟩
  have hm := Ar.mul_ok a b ha hb ha0 hb0
  obtain ⟨p, hp⟩ : ∃ p, p = wrap64 (a * b) := ⟨_, rfl⟩
  obtain ⟨t, ht⟩ : ∃ t, t = wrap64 (p.tdiv b) := ⟨_, rfl⟩
  rw [← hp, ← ht] at hm
  have HM := Lib.hid hm
  have hpi : inR p := by rw [hp]; exact Ar.wrap_in _
  unfold inR at ha hb hpi
  have e1 : (a == 0) = false := by simpa using ha0
  have e2 : (b == 0) = false := by simpa using hb0
  have e3 : wrap64 (a * b) = p := hp.symm
  have e4 : wrap64 (p.tdiv b) = t := ht.symm
  rw [← hp]
  clear hm hp ht
  have HB := Lib.hid hb0
  clear ha0 hb0
  by_cases hta : t = a
  · have e5 : (t == a) = true := by simpa using hta
    have HT := Lib.hid hta
    clear hta
    go_enter Try.func17, Try.ntmps17
    go_wp2
    go_ret2
    refine ⟨ret_ib rfl ?_, rfl⟩
    have hm := HM.out
    have ht := HT.out
    rw [Bool.eq_iff_iff, decide_eq_true_eq, ← hm]
    simp only [ht, true_and]
    exact sgn_b p a b
  · have e5 : (t == a) = false := by simpa using hta
    have HT := Lib.hid hta
    clear hta
    go_enter Try.func17, Try.ntmps17
    go_wp2
    go_ret2
    refine ⟨ret_ib rfl ?_, rfl⟩
    have hm := HM.out
    have ht := HT.out
    symm
    rw [decide_eq_false_iff_not, ← hm]
    exact fun h => ht h.1
theorem product_any (a b : Int) (ha : inR a) (hb : inR b) (w : World) :
    Calls Try.prog 19 #[.int .i64 a, .int .i64 b] w fun e w' => e = .returned (.int .i64 (clamp (a * b))) ∧ w = w' := by
  by_cases h : inR (a * b)
  · have hd : decide (inR (a * b)) = true := by rw [decide_eq_true_eq]; exact h
    have HA := Lib.hid ha
    have HB := Lib.hid hb
    have HH := Lib.hid h
    clear h ha hb
    go_enter Try.func19, Try.ntmps19
    go_wp2_with (go_at_call 17; refine (mul_any _ _ HA.out HB.out _).mono ?_; rintro e w' ⟨rfl, rfl⟩)
    go_ret
    have h := HH.out
    exact ⟨ret_i (by rw [Ar.wrap_eq h]; unfold clamp; unfold inR at h; rw [if_neg (by omega), if_neg (by omega)]), rfl⟩
  · have hd : decide (inR (a * b)) = false := by rw [decide_eq_false_iff_not]; exact h
    have h0 : a ≠ 0 ∧ b ≠ 0 := by
      constructor
      · intro g; subst g; apply h; rw [Int.zero_mul]; unfold inR; omega
      · intro g; subst g; apply h; rw [Int.mul_zero]; unfold inR; omega
    have hs := Ar.sgn a b h0.1 h0.2
    clear h0
    by_cases ga : a < 0 <;> by_cases gb : b < 0 <;> simp [ga, gb] at hs
    all_goals
      have HS := Lib.hid hs
      have HA := Lib.hid ha
      have HB := Lib.hid hb
      have HH := Lib.hid h
      clear h ha hb hs
      go_enter Try.func19, Try.ntmps19
      go_wp2_with (first | (go_at_call 17; refine (mul_any _ _ HA.out HB.out _).mono ?_; rintro e w' ⟨rfl, rfl⟩) | (go_at_call 28; refine (edge_any _ _).mono ?_; rintro e w' ⟨rfl, rfl⟩))
    all_goals
      go_ret
      have h := HH.out
      have hs := HS.out
      unfold inR at h
      refine ⟨ret_i ?_, rfl⟩
      unfold clamp
      first | rw [if_pos (by omega)] | rw [if_neg (by omega), if_pos (by omega)]

/-! the document's own -/
theorem abs_any (a : Int) (ha : inR a) (w : World) :
    Calls Try.prog 26 #[.int .i64 a] w fun e w' => e = .returned (.tuple #[.int .u64 (a.natAbs : Int), .bool (decide (a < 0))]) ∧ w = w' := by
  unfold inR at ha
  by_cases h : a < 0
  · go_enter Try.func26, Try.ntmps26
    go_wp2
    go_ret2
    exact ⟨ret_ib (by simp only [IntKind.wrap_u64]; omega) (by simpa using h), rfl⟩
  · go_enter Try.func26, Try.ntmps26
    go_wp2
    go_ret2
    exact ⟨ret_ib (by first | omega | (simp only [IntKind.wrap_u64]; omega)) (by simpa using h), rfl⟩
theorem abs_b (a : Int) (m : Bool) (ha : inR a) (hm : m = decide (a < 0)) (w : World) :
    Calls Try.prog 26 #[.int .i64 a] w fun e w' => e = .returned (.tuple #[.int .u64 (a.natAbs : Int), .bool m]) ∧ w = w' := by
  subst hm; exact abs_any a ha w
theorem made_any (n : Nat) (m : Bool) (hn : n < 18446744073709551616) (w : World) :
    Calls Try.prog 27 #[.int .u64 n, .bool m] w fun e w' => e = .returned (.bool (decide (n ≤ 9223372036854775807 + m.toNat))) ∧ w = w' := by
  cases m
  all_goals
    go_enter Try.func27, Try.ntmps27
    go_wp2
    go_ret
    refine ⟨ret_b ?_, rfl⟩
    apply decide_eq_decide.2
    simp only [Bool.toNat_true, Bool.toNat_false]
    omega
theorem wide_any (x y : Nat) (hx : x < 18446744073709551616) (hy : y < 18446744073709551616) (w : World) :
    Calls Try.prog 29 #[.int .u64 x, .int .u64 y] w fun e w' => e = .returned (.tuple #[.int .u64 ((x * y / 18446744073709551616 : Nat) : Int), .int .u64 ((x * y % 18446744073709551616 : Nat) : Int)]) ∧ w = w' := by
  obtain ⟨bd, bt, bw, hhi⟩ := Lib.mul64_hi x y hx hy
  have ba := Lib.half_mul_le (a := x / 4294967296) (b := y / 4294967296) (by omega) (by omega)
  have bb := Lib.half_mul_le (a := x / 4294967296) (b := y % 4294967296) (by omega) (by omega)
  have bc := Lib.half_mul_le (a := x % 4294967296) (b := y / 4294967296) (by omega) (by omega)
  have be := Lib.half_mul_le (a := x % 4294967296) (b := y % 4294967296) (by omega) (by omega)
  have hlo := Ar.wide_lo x y
  have F1 := Kn.maskN x hx
  have F2 := Kn.maskN y hy
  have F3 : (x : Int) / 4294967296 = ((x / 4294967296 : Nat) : Int) := by omega
  have F4 : (y : Int) / 4294967296 = ((y / 4294967296 : Nat) : Int) := by omega
  have x0b : x % 4294967296 < 4294967296 := by omega
  have y0b : y % 4294967296 < 4294967296 := by omega
  have x1b : x / 4294967296 < 4294967296 := by omega
  have y1b : y / 4294967296 < 4294967296 := by omega
  generalize x * y / 18446744073709551616 = hi at *
  generalize x * y % 18446744073709551616 = lo at *
  generalize x % 4294967296 = x0 at *
  generalize y % 4294967296 = y0 at *
  generalize x / 4294967296 = x1 at *
  generalize y / 4294967296 = y1 at *
  obtain ⟨A, hA⟩ : ∃ A, A = x0 * y0 := ⟨_, rfl⟩
  obtain ⟨B, hB⟩ : ∃ B, B = x1 * y0 := ⟨_, rfl⟩
  obtain ⟨C, hC⟩ : ∃ C, C = x0 * y1 := ⟨_, rfl⟩
  obtain ⟨D, hD⟩ : ∃ D, D = x1 * y1 := ⟨_, rfl⟩
  have G1 : IntKind.u64.wrap ((x0 : Int) * (y0 : Int)) = (A : Int) := by rw [← Int.natCast_mul, ← hA]; exact Kn.wrapN _ (by omega)
  have G2 : IntKind.u64.wrap ((x1 : Int) * (y0 : Int)) = (B : Int) := by rw [← Int.natCast_mul, ← hB]; exact Kn.wrapN _ (by omega)
  have G3 : IntKind.u64.wrap ((x0 : Int) * (y1 : Int)) = (C : Int) := by rw [← Int.natCast_mul, ← hC]; exact Kn.wrapN _ (by omega)
  have G4 : IntKind.u64.wrap ((x1 : Int) * (y1 : Int)) = (D : Int) := by rw [← Int.natCast_mul, ← hD]; exact Kn.wrapN _ (by omega)
  rw [← hA, ← hB, ← hC, ← hD] at hhi
  rw [← hA, ← hB, ← hC] at hlo
  rw [← hA] at bd be
  rw [← hA, ← hB] at bt
  rw [← hA, ← hB, ← hC] at bw
  rw [← hB] at bb
  rw [← hC] at bc
  rw [← hD] at ba
  clear hA hB hC hD
  obtain ⟨Y, hY⟩ : ∃ Y, Y = B + A / 4294967296 := ⟨_, rfl⟩
  have G5 : (B : Int) + (A : Int) / 4294967296 = (Y : Int) := by omega
  obtain ⟨Y0, hY0⟩ : ∃ Y0, Y0 = Y % 4294967296 := ⟨_, rfl⟩
  have G6 : bits .and .u64 (Y : Int) 4294967295 = (Y0 : Int) := by rw [Kn.maskN _ (by omega), hY0]
  obtain ⟨Z, hZ⟩ : ∃ Z, Z = Y0 + C := ⟨_, rfl⟩
  rw [← hY, ← hY0, ← hZ] at bw hhi hlo
  have G7 : (C : Int) + (Y0 : Int) = (Z : Int) := by omega
  obtain ⟨ZL, hZL⟩ : ∃ ZL, ZL = Z * 4294967296 % 18446744073709551616 := ⟨_, rfl⟩
  have G8 : IntKind.u64.wrap ((Z : Int) * 4294967296) = (ZL : Int) := by rw [IntKind.wrap_u64]; omega
  have G9 : bits .and .u64 (A : Int) 4294967295 = ((A % 4294967296 : Nat) : Int) := Kn.maskN _ (by omega)
  obtain ⟨A0, hA0⟩ : ∃ A0, A0 = A % 4294967296 := ⟨_, rfl⟩
  rw [← hA0] at G9 hlo
  have G10 : bits .or .u64 (ZL : Int) (A0 : Int) = (lo : Int) := by
    rw [bits_or_u64_nat _ _ (by omega) (by omega), hlo, hZL]
  have G11 : (D : Int) + (Y : Int) / 4294967296 + (Z : Int) / 4294967296 = (hi : Int) := by omega
  have G12 : (D : Int) + (Y : Int) / 4294967296 ≤ 18446744073709551615 := by omega
  have G13 : (D : Int) + (Y : Int) / 4294967296 + (Z : Int) / 4294967296 ≤ 18446744073709551615 := by omega
  have G14 : Z < 18446744073709551616 := by omega
  clear hhi hlo hY hY0 hZ hZL hA0 bt bw
  go_enter Try.func29, Try.ntmps29
  go_wp2
  go_ret2
  exact ⟨rfl, rfl⟩
theorem radd_any (a b : Int) (ha : inR a) (hb : inR b) (w : World) :
    Calls Try.prog 13 #[.int .i64 a, .int .i64 b] w fun e w' => e = .returned (.tuple #[.int .i64 (wrap64 (a + b)), .bool (decide (inR (a + b)))]) ∧ w = w' := by
  have HA := Lib.hid ha
  have HB := Lib.hid hb
  unfold inR at ha hb
  obtain ⟨x, hx⟩ : ∃ x, x = a.natAbs := ⟨_, rfl⟩
  obtain ⟨y, hy⟩ : ∃ y, y = b.natAbs := ⟨_, rfl⟩
  obtain ⟨S, hS⟩ : ∃ S, S = (x + y) % 18446744073709551616 := ⟨_, rfl⟩
  have e1 : a.natAbs = x := hx.symm
  have e2 : b.natAbs = y := hy.symm
  have e3 : IntKind.u64.wrap ((x : Int) + (y : Int)) = (S : Int) := by rw [IntKind.wrap_u64]; omega
  have b1 : x ≤ 9223372036854775808 := by omega
  have b2 : y ≤ 9223372036854775808 := by omega
  have b3 : S < 18446744073709551616 := by omega
  have HX := Lib.hid (And.intro hx (And.intro hy hS))
  clear hx hy hS
  obtain ⟨ma, hma⟩ : ∃ m, m = decide (a < 0) := ⟨_, rfl⟩
  obtain ⟨mb, hmb⟩ : ∃ m, m = decide (b < 0) := ⟨_, rfl⟩
  obtain ⟨tt, htt⟩ : ∃ t, t = decide (x ≤ S) := ⟨_, rfl⟩
  cases tt <;> cases ma <;> cases mb
  all_goals
    have tx := htt.symm
    have HMA := Lib.hid hma
    have HMB := Lib.hid hmb
    have HT := Lib.hid htt
    clear hma hmb htt
    go_enter Try.func13, Try.ntmps13
    go_wp2_with (first | (go_at_call 26; refine (abs_b _ _ (by first | exact HA.out | exact HB.out) (by first | exact HMA.out | exact HMB.out) _).mono ?_; rintro e w' ⟨rfl, rfl⟩) | (go_at_call 27; refine (made_any S _ (by omega) _).mono ?_; rintro e w' ⟨rfl, rfl⟩))
    go_ret2
    obtain ⟨hx, hy, hS⟩ := HX.out
    have hma := HMA.out
    have hmb := HMB.out
    have htt := HT.out
    clear e1 e2 e3 tx
    simp only [true_eq_decide_iff, false_eq_decide_iff] at hma hmb htt
    refine ⟨ret_ib rfl ?_, rfl⟩
    have hx1 : (x : Int) = a ∧ 0 ≤ a ∨ (x : Int) = -a ∧ a < 0 := by omega
    have hy1 : (y : Int) = b ∧ 0 ≤ b ∨ (y : Int) = -b ∧ b < 0 := by omega
    have hS1 : (S : Int) = x + y ∧ (x : Int) + y < 18446744073709551616 ∨ x = 9223372036854775808 ∧ y = 9223372036854775808 ∧ S = 0 := by omega
    clear hx hy HX HMA HMB HT hS
    rw [Bool.eq_iff_iff]
    simp only [decide_eq_true_eq, Bool.toNat_true, Bool.toNat_false, true_iff, false_iff, reduceCtorEq]
    unfold inR
    first | omega | (constructor <;> intro h <;> omega)
theorem rmul_any (a b : Int) (ha : inR a) (hb : inR b) (w : World) :
    Calls Try.prog 18 #[.int .i64 a, .int .i64 b] w fun e w' => e = .returned (.tuple #[.int .i64 (wrap64 (a * b)), .bool (decide (inR (a * b)))]) ∧ w = w' := by
  have HA := Lib.hid ha
  have HB := Lib.hid hb
  have hn := Int.natAbs_mul a b
  have hsg := Ar.sgn2 a b
  have HN := Lib.hid (And.intro hn hsg)
  clear hn hsg
  obtain ⟨x, hx⟩ : ∃ x, x = a.natAbs := ⟨_, rfl⟩
  obtain ⟨y, hy⟩ : ∃ y, y = b.natAbs := ⟨_, rfl⟩
  obtain ⟨hi, hhi⟩ : ∃ h, h = x * y / 18446744073709551616 := ⟨_, rfl⟩
  obtain ⟨lo, hlo⟩ : ∃ h, h = x * y % 18446744073709551616 := ⟨_, rfl⟩
  obtain ⟨p, hp⟩ : ∃ p, p = wrap64 (a * b) := ⟨_, rfl⟩
  unfold inR at ha hb
  have e1 : a.natAbs = x := hx.symm
  have e2 : b.natAbs = y := hy.symm
  have e3 : wrap64 (a * b) = p := hp.symm
  have b1 : x ≤ 9223372036854775808 := by omega
  have b2 : y ≤ 9223372036854775808 := by omega
  have b3 : lo < 18446744073709551616 := by omega
  have b4 : hi < 18446744073709551616 := by
    have : x * y ≤ 9223372036854775808 * 9223372036854775808 := Nat.mul_le_mul b1 b2
    omega
  have HL := Lib.hid (And.intro hhi hlo)
  have HX := Lib.hid (And.intro hx hy)
  have cw := fun w => wide_any x y (by omega) (by omega) w
  rw [← hhi, ← hlo] at cw
  have HC := Lib.hid cw
  rw [← hp]
  clear hx hy hhi hlo hp cw
  obtain ⟨ma, hma⟩ : ∃ m, m = decide (a < 0) := ⟨_, rfl⟩
  obtain ⟨mb, hmb⟩ : ∃ m, m = decide (b < 0) := ⟨_, rfl⟩
  obtain ⟨tt, htt⟩ : ∃ t, t = ((hi : Int) == 0) := ⟨_, rfl⟩
  cases tt <;> cases ma <;> cases mb
  all_goals
    have tx := htt.symm
    have HMA := Lib.hid hma
    have HMB := Lib.hid hmb
    have HT := Lib.hid htt
    clear hma hmb htt
    go_enter Try.func18, Try.ntmps18
    go_wp2_with (first | (go_at_call 26; refine (abs_b _ _ (by first | exact HA.out | exact HB.out) (by first | exact HMA.out | exact HMB.out) _).mono ?_; rintro e w' ⟨rfl, rfl⟩) | (go_at_call 27; refine (made_any lo _ (by omega) _).mono ?_; rintro e w' ⟨rfl, rfl⟩) | (go_at_call 29; refine (HC.out _).mono ?_; rintro e w' ⟨rfl, rfl⟩))
    go_ret2
    obtain ⟨hn, hs1, hs2, hs3, hs4⟩ := HN.out
    obtain ⟨hhi, hlo⟩ := HL.out
    have hma := HMA.out
    have hmb := HMB.out
    have htt := HT.out
    obtain ⟨hx, hy⟩ := HX.out
    clear e1 e2 tx
    refine ⟨ret_ib (by first | rfl | assumption) ?_, rfl⟩
    rw [← hx, ← hy] at hn
    generalize x * y = t at *
    clear e3
    generalize a * b = z at *
    have hn1 : (t : Int) = z ∧ 0 ≤ z ∨ (t : Int) = -z ∧ z < 0 := by omega
    simp only [true_eq_decide_iff, false_eq_decide_iff] at hma hmb
    have hz : 0 ≤ z ∧ (a < 0 ∧ b < 0 ∨ 0 ≤ a ∧ 0 ≤ b) ∨ z ≤ 0 ∧ (a < 0 ∧ 0 ≤ b ∨ 0 ≤ a ∧ b < 0) := by
      first
        | exact Or.inl ⟨hs1 (by omega) (by omega), by omega⟩
        | exact Or.inr ⟨hs2 (by omega) (by omega), by omega⟩
        | exact Or.inr ⟨hs3 (by omega) (by omega), by omega⟩
        | exact Or.inl ⟨hs4 (by omega) (by omega), by omega⟩
    clear hs1 hs2 hs3 hs4 hn hx hy HX HMA HMB HT HN HL HC
    rw [Bool.eq_iff_iff]
    simp only [decide_eq_true_eq, Bool.toNat_true, Bool.toNat_false, true_iff, false_iff, reduceCtorEq]
    have h0 : hi = 0 ∧ true = ((hi : Int) == 0) ∨ hi ≠ 0 ∧ false = ((hi : Int) == 0) := by
      by_cases g : hi = 0
      · subst g; exact Or.inl ⟨rfl, rfl⟩
      · refine Or.inr ⟨g, ?_⟩
        symm; rw [beq_eq_false_iff_ne]; omega
    rw [← htt] at h0
    simp only [reduceCtorEq, and_false, and_true, or_false, false_or] at h0
    unfold inR
    first | omega | (constructor <;> intro h <;> omega)
end Go.Proofs.Ytbgdciofomlcdaa
