/- The contracts of layer 2 (field). -/
import Derived.Test.YtobkbifacdngjaaRows
import Derived.Test.YtobkbifacdngjaaDiv
import Derived.Test.YtobkbifacdngjaaFpMath
import Derived.Test.YtobkbifacdngjaaArMath
import Derived.Deep.LoopGhost
namespace Go.Proofs.Ytobkbifacdngjaa
open Go.ChangeShapes Go.WideShapes Go.ChangeAt Go.RowKit

theorem ret_i {k : IntKind} {a b : Int} (h : a = b) : Ending.returned (.int k a) = .returned (.int k b) := by rw [h]
theorem ret_b {a b : Bool} (h : a = b) : Ending.returned (.bool a) = .returned (.bool b) := by rw [h]
theorem mul64_any (x y : Nat) (hx : x < 18446744073709551616) (hy : y < 18446744073709551616) (w : World) :
    Calls Try.prog 19 #[.int .u64 x, .int .u64 y] w fun e w' => e = .returned (.tuple #[.int .u64 ((x * y / 18446744073709551616 : Nat) : Int), .int .u64 ((x * y % 18446744073709551616 : Nat) : Int)]) ∧ w = w' :=
  (Try.bits_Mul64 x y hx hy w).mono fun _ _ ⟨h, g⟩ => ⟨h, g.symm⟩
theorem rem64_any (hi lo y : Nat) (hhi : hi < 18446744073709551616) (hlo : lo < 18446744073709551616) (hy : y < 18446744073709551616) (h0 : 0 < y) (w : World) :
    Calls Try.prog 20 #[.int .u64 hi, .int .u64 lo, .int .u64 y] w fun e w' => e = .returned (.int .u64 ((hi * 18446744073709551616 + lo) % y : Nat)) ∧ ∃ n, w' = w.drewN n := by
  obtain ⟨h, hh⟩ : ∃ h, h = hi % y := ⟨_, rfl⟩
  have hl : h < y := by rw [hh]; exact Nat.mod_lt _ h0
  have cd := fun w => div64_any h lo y hy hlo hl w
  have e : (h * 18446744073709551616 + lo) % y = (hi * 18446744073709551616 + lo) % y := by rw [hh]; exact Fp.rem_two hi lo y
  rw [e] at cd
  have CD := Lib.hid cd
  have e1 : (hi : Int) % (y : Int) = (h : Int) := by rw [hh, Int.natCast_emod]
  have t0 : ((y : Int) == 0) = false := by rw [beq_eq_false_iff_ne]; omega
  have t1 : ¬ (y = 0) := by omega
  clear cd e hh
  go_enter Try.func20, Try.ntmps20
  go_wp2_with (first | (go_at_call 21; refine (CD.out _).mono ?_; rintro e w' ⟨rfl, n, rfl⟩))
  go_ret
  exact ⟨rfl, n, rfl⟩
theorem of_any (x : Nat) (hx : x < 18446744073709551616) (w : World) :
    Calls Try.prog 10 #[.int .u64 x] w fun e w' => e = .returned (.int .u64 (x % 2305843009213693951 : Nat)) ∧ w = w' := by
  obtain ⟨r, hr⟩ : ∃ r, r = x % 2305843009213693951 := ⟨_, rfl⟩
  have e1 : (x : Int) % 2305843009213693951 = (r : Int) := by omega
  rw [← hr]
  have hb : r < 2305843009213693951 := by omega
  clear hr
  go_enter Try.func10, Try.ntmps10
  go_wp2
  go_ret
  exact ⟨ret_i (by first | exact e1 | rfl), rfl⟩
theorem add_any (a b : Nat) (h : a + b < 18446744073709551616) (w : World) :
    Calls Try.prog 12 #[.int .u64 a, .int .u64 b] w fun e w' => e = .returned (.int .u64 ((a + b) % 2305843009213693951 : Nat)) ∧ w = w' := by
  obtain ⟨s, hs⟩ : ∃ r, r = a + b := ⟨_, rfl⟩
  have c := fun w => of_any s (by omega) w
  rw [← hs]
  have e1 : (a : Int) + (b : Int) = (s : Int) := by omega
  have C := Lib.hid c
  clear c hs
  go_enter Try.func12, Try.ntmps12
  go_wp2_with (first | (go_at_call 10; refine (C.out _).mono ?_; rintro e w' ⟨rfl, rfl⟩))
  go_ret
  exact ⟨rfl, rfl⟩
theorem sub_any (a b : Nat) (ha : a < 2305843009213693951) (hb : b < 2305843009213693951) (w : World) :
    Calls Try.prog 13 #[.int .u64 a, .int .u64 b] w fun e w' => e = .returned (.int .u64 ((a + 2305843009213693951 - b) % 2305843009213693951 : Nat)) ∧ w = w' := by
  obtain ⟨s, hs⟩ : ∃ r, r = a + 2305843009213693951 - b := ⟨_, rfl⟩
  have c := fun w => of_any s (by omega) w
  rw [← hs]
  have e1 : (a : Int) + 2305843009213693951 - (b : Int) = (s : Int) := by omega
  have C := Lib.hid c
  clear c hs
  go_enter Try.func13, Try.ntmps13
  go_wp2_with (first | (go_at_call 10; refine (C.out _).mono ?_; rintro e w' ⟨rfl, rfl⟩))
  go_ret
  exact ⟨rfl, rfl⟩
theorem mul_any (a b : Nat) (ha : a < 18446744073709551616) (hb : b < 18446744073709551616) (w : World) :
    Calls Try.prog 14 #[.int .u64 a, .int .u64 b] w fun e w' => e = .returned (.int .u64 (a * b % 2305843009213693951 : Nat)) ∧ ∃ n, w' = w.drewN n := by
  obtain ⟨hi, hhi⟩ : ∃ x, x = a * b / 18446744073709551616 := ⟨_, rfl⟩
  obtain ⟨lo, hlo⟩ : ∃ x, x = a * b % 18446744073709551616 := ⟨_, rfl⟩
  have cm := fun w => mul64_any a b ha hb w
  rw [← hhi, ← hlo] at cm
  have hl : lo < 18446744073709551616 := by omega
  have hh : hi < 18446744073709551616 := by
    have : a * b ≤ 18446744073709551616 * 18446744073709551616 := Nat.mul_le_mul (by omega) (by omega)
    have : a * b < 18446744073709551616 * 18446744073709551616 := by
      rcases Nat.eq_zero_or_pos b with g | g
      · rw [g]; omega
      · exact Nat.lt_of_lt_of_le (Nat.mul_lt_mul_of_pos_right ha g) (Nat.mul_le_mul_left _ (by omega))
    rw [hhi, Nat.div_lt_iff_lt_mul (by omega)]; exact this
  have cr := fun w => rem64_any hi lo 2305843009213693951 hh hl (by omega) (by omega) w
  have e : hi * 18446744073709551616 + lo = a * b := by omega
  rw [e] at cr
  obtain ⟨r, hr⟩ : ∃ r, r = a * b % 2305843009213693951 := ⟨_, rfl⟩
  rw [← hr] at cr ⊢
  have CM := Lib.hid cm
  have CR := Lib.hid cr
  clear cm cr e hhi hlo hr
  go_enter Try.func14, Try.ntmps14
  go_wp2_with (first | (go_at_call 19; refine (CM.out _).mono ?_; rintro e w' ⟨rfl, rfl⟩) | (go_at_call 20; refine (CR.out _).mono ?_; rintro e w' ⟨rfl, n, rfl⟩))
  go_ret
  exact ⟨rfl, n, rfl⟩
theorem power_any (a n : Nat) (ha : a < 2305843009213693951) (hn : n < 18446744073709551616) (w : World) :
    Calls Try.prog 16 #[.int .u64 a, .int .u64 n] w fun e w' => e = .returned (.int .u64 (a ^ n % 2305843009213693951 : Nat)) ∧ ∃ n, w' = w.drewN n := by
  obtain ⟨T, hT⟩ : ∃ T, T = a ^ n % 2305843009213693951 := ⟨_, rfl⟩
  rw [← hT]
  have HT := Lib.hid hT
  clear hT
  go_enter Try.func16, Try.ntmps16
  go_wp2
  go_loopg [0, 1, 5] n (fun k sb sm sp wr => ∃ (b p n : Nat), sb = .int .u64 b ∧ sm = .int .u64 k ∧ sp = .int .u64 p ∧ k < 18446744073709551616 ∧ b < 2305843009213693951 ∧ p < 2305843009213693951 ∧ Hid (p * b ^ k % 2305843009213693951 = T) ∧ wr = w.drewN n)
  case atStart => exact ⟨a, 1, 0, rfl, rfl, rfl, hn, ha, by omega, Lib.hid (by rw [HT.out, Nat.one_mul]), rfl⟩
  case round =>
    obtain ⟨b, p, d, rfl, rfl, rfl, hk, hb, hp, HJ, rfl⟩ := hrel
    by_cases h0 : gk = 0
    · subst h0
      go_wp2
      go_ret
      have := HJ.out
      rw [Nat.pow_zero, Nat.mul_one, Nat.mod_eq_of_lt hp] at this
      exact ⟨ret_i (by rw [this]), d, rfl⟩
    · obtain ⟨k2, hk2⟩ : ∃ k, k = gk / 2 := ⟨_, rfl⟩
      have e1 : (gk : Int) / 2 = (k2 : Int) := by omega
      have e2 : bits .and .u64 (gk : Int) 1 = ((gk % 2 : Nat) : Int) := Ar.and_one gk hk
      have t0 : decide ((0 : Int) < (gk : Int)) = true := by rw [decide_eq_true_eq]; omega
      have t1 : decide (0 < gk) = true := by rw [decide_eq_true_eq]; omega
      obtain ⟨b2, hb2⟩ : ∃ x, x = b * b % 2305843009213693951 := ⟨_, rfl⟩
      obtain ⟨p2, hp2⟩ : ∃ x, x = p * b % 2305843009213693951 := ⟨_, rfl⟩
      have cb := fun w => mul_any b b (by omega) (by omega) w
      have cp := fun w => mul_any p b (by omega) (by omega) w
      rw [← hb2] at cb
      rw [← hp2] at cp
      have CB := Lib.hid cb
      have CP := Lib.hid cp
      have hb2l : b2 < 2305843009213693951 := by rw [hb2]; exact Nat.mod_lt _ (by omega)
      have hp2l : p2 < 2305843009213693951 := by rw [hp2]; exact Nat.mod_lt _ (by omega)
      have hkl : k2 < gk := by omega
      rcases Nat.mod_two_eq_zero_or_one gk with g | g
      · have hj := Fp.sq_even (acc := p) (b := b) (p := 2305843009213693951) g
        rw [← hb2, ← hk2, HJ.out] at hj
        have HJ2 := Lib.hid hj
        rw [g] at e2
        clear cb cp hj hb2 hp2 hk2 g h0
        go_wp2_with (first | (go_at_call 14; first | ((with_reducible refine (CB.out _).mono ?_); rintro e w' ⟨rfl, n1, rfl⟩) | ((with_reducible refine (CP.out _).mono ?_); rintro e w' ⟨rfl, n2, rfl⟩)))
        go_roundg k2
        case measure => exact hkl
        case rel => exact ⟨b2, p, _, rfl, rfl, rfl, by omega, hb2l, hp, HJ2, rfl⟩
      · have hj := Fp.sq_odd (acc := p) (b := b) (p := 2305843009213693951) g
        rw [← hb2, ← hp2, ← hk2, HJ.out] at hj
        have HJ2 := Lib.hid hj
        rw [g] at e2
        clear cb cp hj hb2 hp2 hk2 g h0
        go_wp2_with (first | (go_at_call 14; first | ((with_reducible refine (CB.out _).mono ?_); rintro e w' ⟨rfl, n1, rfl⟩) | ((with_reducible refine (CP.out _).mono ?_); rintro e w' ⟨rfl, n2, rfl⟩)))
        go_roundg k2
        case measure => exact hkl
        case rel => exact ⟨b2, p2, _, rfl, rfl, rfl, by omega, hb2l, hp2l, HJ2, rfl⟩
theorem inverse_any (a M : Nat) (hM : M = 2305843009213693949) (ha : a < 2305843009213693951) (w : World) :
    Calls Try.prog 18 #[.int .u64 a] w fun e w' => e = .returned (.int .u64 (a ^ M % 2305843009213693951 : Nat)) ∧ ∃ n, w' = w.drewN n := by
  have c := fun w => power_any a M ha (by omega) w
  generalize a ^ M % 2305843009213693951 = T at *
  have hM' : (M : Int) = 2305843009213693949 := by omega
  rw [hM'] at c
  have C := Lib.hid c
  clear c hM hM'
  go_enter Try.func18, Try.ntmps18
  go_wp2_with (first | (go_at_call 16; refine (C.out _).mono ?_; rintro e w' ⟨rfl, n, rfl⟩))
  go_ret
  exact ⟨rfl, n, rfl⟩
end Go.Proofs.Ytobkbifacdngjaa
