/- The contracts of the document's layer 1 that its layer 3 wants: wide, Divide, Down. -/
import Derived.Test.YtmdkokehomboaaaDownH
import Derived.Deep.LoopGhost
import Derived.BigGuardPart
namespace Go.Proofs.Ytmdkokehomboaaa.R3
set_option linter.unusedSimpArgs false
set_option linter.unusedVariables false
set_option maxRecDepth 100000
open Go Go.ChangeShapes Go.WideShapes Go.ChangeAt Go.RowKit
theorem wide_any (x y : Nat) (hx : x < 18446744073709551616) (hy : y < 18446744073709551616) (w : World) :
    Calls Try.prog 43 #[.int .u64 x, .int .u64 y] w fun e w' => e = .returned (.tuple #[.int .u64 ((x * y / 18446744073709551616 : Nat) : Int), .int .u64 ((x * y % 18446744073709551616 : Nat) : Int)]) ∧ w = w' := by
  obtain ⟨bd, bt, bw, hhi⟩ := Lib.mul64_hi x y hx hy
  have ba := Lib.half_mul_le (a := x / 4294967296) (b := y / 4294967296) (by omega) (by omega)
  have bb := Lib.half_mul_le (a := x / 4294967296) (b := y % 4294967296) (by omega) (by omega)
  have bc := Lib.half_mul_le (a := x % 4294967296) (b := y / 4294967296) (by omega) (by omega)
  have be := Lib.half_mul_le (a := x % 4294967296) (b := y % 4294967296) (by omega) (by omega)
  have hlo := Ar.wide_lo x y
  have F1 := Kn.maskN x hx
  have F2 := Kn.maskN y hy
  have F3 : (x : Int) / 4294967296 = ((x / 4294967296 : Nat) : Int) := by omega
  have F4 : (y : Int) / 4294967296 = ((y / 4294967296 : Nat) : Int) := by omega
  have x0b : x % 4294967296 < 4294967296 := by omega
  have y0b : y % 4294967296 < 4294967296 := by omega
  have x1b : x / 4294967296 < 4294967296 := by omega
  have y1b : y / 4294967296 < 4294967296 := by omega
  generalize x * y / 18446744073709551616 = hi at *
  generalize x * y % 18446744073709551616 = lo at *
  generalize x % 4294967296 = x0 at *
  generalize y % 4294967296 = y0 at *
  generalize x / 4294967296 = x1 at *
  generalize y / 4294967296 = y1 at *
  obtain ⟨A, hA⟩ : ∃ A, A = x0 * y0 := ⟨_, rfl⟩
  obtain ⟨B, hB⟩ : ∃ B, B = x1 * y0 := ⟨_, rfl⟩
  obtain ⟨C, hC⟩ : ∃ C, C = x0 * y1 := ⟨_, rfl⟩
  obtain ⟨D, hD⟩ : ∃ D, D = x1 * y1 := ⟨_, rfl⟩
  have G1 : IntKind.u64.wrap ((x0 : Int) * (y0 : Int)) = (A : Int) := by rw [← Int.natCast_mul, ← hA]; exact Kn.wrapN _ (by omega)
  have G2 : IntKind.u64.wrap ((x1 : Int) * (y0 : Int)) = (B : Int) := by rw [← Int.natCast_mul, ← hB]; exact Kn.wrapN _ (by omega)
  have G3 : IntKind.u64.wrap ((x0 : Int) * (y1 : Int)) = (C : Int) := by rw [← Int.natCast_mul, ← hC]; exact Kn.wrapN _ (by omega)
  have G4 : IntKind.u64.wrap ((x1 : Int) * (y1 : Int)) = (D : Int) := by rw [← Int.natCast_mul, ← hD]; exact Kn.wrapN _ (by omega)
  rw [← hA, ← hB, ← hC, ← hD] at hhi
  rw [← hA, ← hB, ← hC] at hlo
  rw [← hA] at bd be
  rw [← hA, ← hB] at bt
  rw [← hA, ← hB, ← hC] at bw
  rw [← hB] at bb
  rw [← hC] at bc
  rw [← hD] at ba
  clear hA hB hC hD
  obtain ⟨Y, hY⟩ : ∃ Y, Y = B + A / 4294967296 := ⟨_, rfl⟩
  have G5 : (B : Int) + (A : Int) / 4294967296 = (Y : Int) := by omega
  obtain ⟨Y0, hY0⟩ : ∃ Y0, Y0 = Y % 4294967296 := ⟨_, rfl⟩
  have G6 : bits .and .u64 (Y : Int) 4294967295 = (Y0 : Int) := by rw [Kn.maskN _ (by omega), hY0]
  obtain ⟨Z, hZ⟩ : ∃ Z, Z = Y0 + C := ⟨_, rfl⟩
  rw [← hY, ← hY0, ← hZ] at bw hhi hlo
  have G7 : (C : Int) + (Y0 : Int) = (Z : Int) := by omega
  obtain ⟨ZL, hZL⟩ : ∃ ZL, ZL = Z * 4294967296 % 18446744073709551616 := ⟨_, rfl⟩
  have G8 : IntKind.u64.wrap ((Z : Int) * 4294967296) = (ZL : Int) := by rw [IntKind.wrap_u64]; omega
  have G9 : bits .and .u64 (A : Int) 4294967295 = ((A % 4294967296 : Nat) : Int) := Kn.maskN _ (by omega)
  obtain ⟨A0, hA0⟩ : ∃ A0, A0 = A % 4294967296 := ⟨_, rfl⟩
  rw [← hA0] at G9 hlo
  have G10 : bits .or .u64 (ZL : Int) (A0 : Int) = (lo : Int) := by
    rw [bits_or_u64_nat _ _ (by omega) (by omega), hlo, hZL]
  have G11 : (D : Int) + (Y : Int) / 4294967296 + (Z : Int) / 4294967296 = (hi : Int) := by omega
  have G12 : (D : Int) + (Y : Int) / 4294967296 ≤ 18446744073709551615 := by omega
  have G13 : (D : Int) + (Y : Int) / 4294967296 + (Z : Int) / 4294967296 ≤ 18446744073709551615 := by omega
  have G14 : Z < 18446744073709551616 := by omega
  clear hhi hlo hY hY0 hZ hZL hA0 bt bw
  go_enter Try.func43, Try.ntmps43
  go_wp2
  go_ret2
  exact ⟨rfl, rfl⟩
theorem rdivide_yes (a b c q r : Nat) (ha : a < 18446744073709551616) (hb : b < 18446744073709551616) (hc : c < 18446744073709551616) (h : Quo a b c q r) (w : World) :
    Calls Try.prog 33 #[.int .u64 a, .int .u64 b, .int .u64 c] w fun e w' => e = .returned (.tuple #[.int .u64 q, .int .u64 r, .bool true]) ∧ w = w' := by
  have h1 := h.lt
  obtain ⟨M, hM⟩ : ∃ x, x = a * b := ⟨_, rfl⟩
  obtain ⟨hi, hhi⟩ : ∃ x, x = a * b / 18446744073709551616 := ⟨_, rfl⟩
  obtain ⟨lo, hlo⟩ : ∃ x, x = a * b % 18446744073709551616 := ⟨_, rfl⟩
  have cm := fun w => wide_any a b ha hb w
  rw [← hhi, ← hlo] at cm
  have hl : lo < 18446744073709551616 := by omega
  rw [← hhi] at h1
  have hq := h.dq
  have hr := h.dr
  rw [← hM] at hq hr hhi hlo
  have HF := Lib.hid (And.intro hq (And.intro hr (And.intro hhi hlo)))
  have hqb := h.qb
  have CM := Lib.hid cm
  clear cm hhi hlo h hq hr hM
  have t1 : decide (c ≤ hi) = false := by rw [decide_eq_false_iff_not]; omega
  go_enter Try.func33, Try.ntmps33
  go_wp2_with (first | (go_at_call 43; refine (CM.out _).mono ?_; rintro e w' ⟨rfl, rfl⟩))
  go_loopg [11, 12, 13, 14] 64 (fun k sq sr si so wr => ∃ q1 r1 : Nat, sq = .int .u64 q1 ∧ sr = .int .u64 r1 ∧ si = .int .i64 ((k : Int) - 1) ∧ k ≤ 64 ∧ r1 < c ∧ Hid (q1 = M / 2 ^ k / c ∧ r1 = M / 2 ^ k % c) ∧ wr = w)
  case atStart =>
    refine ⟨0, hi, rfl, rfl, rfl, by omega, h1, ?_, rfl⟩
    obtain ⟨_, _, g3, _⟩ := HF.out
    have e : M / 2 ^ 64 = hi := g3.symm
    rw [e]
    exact Lib.hid ⟨(Nat.div_eq_of_lt h1).symm, (Nat.mod_eq_of_lt h1).symm⟩
  case round =>
    obtain ⟨q1, r1, rfl, rfl, rfl, hk, hrc, HI, rfl⟩ := hrel
    cases gk with
    | zero =>
      go_wp2
      go_ret3
      obtain ⟨g1, g2, _, _⟩ := HF.out
      obtain ⟨i1, i2⟩ := HI.out
      rw [Nat.pow_zero, Nat.div_one] at i1 i2
      exact ⟨ret_iib (by rw [g1, i1]) (by rw [g2, i2]) rfl, rfl⟩
    | succ k =>
      rw [show ((k + 1 : Nat) : Int) - 1 = (k : Int) by omega]
      obtain ⟨g1, g2, g3, g4⟩ := HF.out
      obtain ⟨i1, i2⟩ := HI.out
      have hs := Ar.bit_step (by omega : 0 < c) i1 i2
      have hbit := Ar.bit_of (M := M) (k := k) g3 g4 (by omega)
      obtain ⟨d, hd⟩ : ∃ d, d = M / 2 ^ k % 2 := ⟨_, rfl⟩
      rw [← hd] at hs hbit
      have hd2 : d < 2 := by rw [hd]; exact Nat.mod_lt _ (by decide)
      have hq1 : M / 2 ^ k / c ≤ q := by
        rw [g1, Nat.div_div_eq_div_mul, Nat.mul_comm, ← Nat.div_div_eq_div_mul]; exact Nat.div_le_self _ _
      have hq2 : 2 * q1 ≤ q := by
        by_cases g : 2 * r1 + d < c
        · rw [(hs.1 g).1]; exact hq1
        · have := (hs.2 (by omega)).1; omega
      have E1 : bits .and .u64 ((lo : Int) / 2 ^ k) 1 = (d : Int) := by rw [Kn.div_cast, Ar.and_one _ (Nat.lt_of_le_of_lt (Nat.div_le_self _ _) hl), hbit]
      obtain ⟨Q2, hQ2⟩ : ∃ Q2, Q2 = 2 * q1 := ⟨_, rfl⟩
      have E2 : (q1 : Int) * 2 = (Q2 : Int) := by omega
      have E3 : bits .or .u64 (Q2 : Int) 1 = ((2 * q1 + 1 : Nat) : Int) := by rw [hQ2]; exact Ar.or_bit q1 1 (by omega) (by omega)
      obtain ⟨Q3, hQ3⟩ : ∃ Q3, Q3 = 2 * q1 + 1 := ⟨_, rfl⟩
      rw [← hQ3] at E3
      obtain ⟨R2, hR2⟩ : ∃ R2, R2 = 2 * r1 % 18446744073709551616 := ⟨_, rfl⟩
      obtain ⟨R3, hR3⟩ : ∃ R3, R3 = R2 + d := ⟨_, rfl⟩
      have b4 : R3 < 18446744073709551616 := by omega
      have E4 : bits .or .u64 (R2 : Int) (d : Int) = (R3 : Int) := by
        rw [hR3, hR2, show 2 * r1 % 18446744073709551616 = 2 * (r1 % 9223372036854775808) by omega]
        exact Ar.or_bit _ d hd2 (by omega)
      have b1 : Q2 < 18446744073709551616 := by omega
      have b2 : R2 < 18446744073709551616 := by omega
      by_cases hov : r1 < 9223372036854775808
      · have E5 : (r1 : Int) / 9223372036854775808 = 0 := by omega
        have E6 : (r1 : Int) * 2 = (R2 : Int) := by omega
        have HOV := Lib.hid hov
        clear hov
        by_cases hcc : R3 < c
        · have t2 : decide (c ≤ R3) = false := by rw [decide_eq_false_iff_not]; omega
          have HE := Lib.hid (And.intro hs (And.intro hQ2 (And.intro hR2 (And.intro hR3 hcc))))
          clear hs i1 i2 g1 g2 g3 g4 hbit hd hQ2 hQ3 hR2 hR3 hcc hq1 hq2 HI
          go_wp2
          go_roundg k
          case measure => omega
          case rel =>
            obtain ⟨f1, f2, f3, f4, f5⟩ := HE.out
            have := HOV.out
            have f6 := f1.1 (by omega)
            exact ⟨Q2, R3, rfl, rfl, rfl, by omega, by omega, Lib.hid ⟨by rw [f2]; exact f6.1, by rw [← f6.2]; omega⟩, rfl⟩
        · have t2 : decide (c ≤ R3) = true := by rw [decide_eq_true_eq]; omega
          obtain ⟨R4, hR4⟩ : ∃ R4, R4 = R3 - c := ⟨_, rfl⟩
          have E7 : (R3 : Int) - (c : Int) = (R4 : Int) := by omega
          have b5 : c ≤ R3 := by omega
          have HE := Lib.hid (And.intro hs (And.intro hQ3 (And.intro hR2 (And.intro hR3 (And.intro hcc hR4)))))
          clear hs i1 i2 g1 g2 g3 g4 hbit hd hQ2 hQ3 hR2 hR3 hcc hq1 hq2 HI hR4
          go_wp2
          go_roundg k
          case measure => omega
          case rel =>
            obtain ⟨f1, f2, f3, f4, f5, f7⟩ := HE.out
            have := HOV.out
            have f6 := f1.2 (by omega)
            exact ⟨Q3, R4, rfl, rfl, rfl, by omega, by omega, Lib.hid ⟨by rw [f2]; exact f6.1, by rw [← f6.2.1]; omega⟩, rfl⟩
      · have E5 : (r1 : Int) / 9223372036854775808 = 1 := by omega
        have E6 : IntKind.u64.wrap ((r1 : Int) * 2) = (R2 : Int) := by rw [IntKind.wrap_u64]; omega
        obtain ⟨R4, hR4⟩ : ∃ R4, R4 = 2 * r1 + d - c := ⟨_, rfl⟩
        have f6 := hs.2 (by omega)
        have E7 : IntKind.u64.wrap ((R3 : Int) - (c : Int)) = (R4 : Int) := by rw [IntKind.wrap_u64]; omega
        have b6 : R3 < c := by omega
        have HE := Lib.hid (And.intro f6 (And.intro hQ3 hR4))
        clear hs i1 i2 g1 g2 g3 g4 hbit hd hQ2 hQ3 hR2 hR3 hq1 hq2 HI hR4 hov f6
        go_wp2
        go_roundg k
        case measure => omega
        case rel =>
          obtain ⟨f6, f2, f7⟩ := HE.out
          exact ⟨Q3, R4, rfl, rfl, rfl, by omega, by omega, Lib.hid ⟨by rw [f2]; exact f6.1, by rw [← f6.2.1]; omega⟩, rfl⟩
theorem rdown_yes (a b c q r : Nat) (ha : a < 18446744073709551616) (hb : b < 18446744073709551616) (hc : c < 18446744073709551616) (h : Quo a b c q r) (w : World) :
    Calls Try.prog 26 #[.int .u64 a, .int .u64 b, .int .u64 c] w fun e w' => e = .returned (.tuple #[.int .u64 q, .bool true]) ∧ w = w' := by
  have H := Lib.hid h
  clear h
  go_enter Try.func26, Try.ntmps26
  go_wp2_with (first | (go_at_call 33; refine (rdivide_yes a b c q r ha hb hc H.out _).mono ?_; rintro e w' ⟨rfl, rfl⟩))
  go_ret2
  exact ⟨rfl, rfl⟩
end Go.Proofs.Ytmdkokehomboaaa.R3
