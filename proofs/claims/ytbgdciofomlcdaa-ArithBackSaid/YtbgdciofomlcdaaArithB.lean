/- The contracts of layer 1 (arith), quotients: and of the document's answers for them. -/
import Derived.Test.YtbgdciofomlcdaaArithA
import Derived.Deep.LoopGhost
import Derived.BigGuardPart
namespace Go.Proofs.Ytbgdciofomlcdaa
open Go.ChangeShapes Go.WideShapes Go.ChangeAt Go.RowKit
open Ar (inR)

theorem ret_iib {k : IntKind} {a a' b b' : Int} {c d : Bool} (h : a = a') (h' : b = b') (g : c = d) : Ending.returned (.tuple #[.int k a, .int k b, .bool c]) = .returned (.tuple #[.int k a', .int k b', .bool d]) := by rw [h, h', g]

theorem mul64_any (x y : Nat) (hx : x < 18446744073709551616) (hy : y < 18446744073709551616) (w : World) :
    Calls Try.prog 32 #[.int .u64 x, .int .u64 y] w fun e w' => e = .returned (.tuple #[.int .u64 ((x * y / 18446744073709551616 : Nat) : Int), .int .u64 ((x * y % 18446744073709551616 : Nat) : Int)]) ∧ w = w' :=
  (Try.bits_Mul64 x y hx hy w).mono fun _ _ ⟨h, g⟩ => ⟨h, g.symm⟩

/-- What a quotient of a product is. -/
structure Quo (a b c q r : Nat) : Prop where
  lt : a * b / 18446744073709551616 < c
  dq : q = a * b / c
  dr : r = a * b % c
  qb : q < 18446744073709551616
  rb : r < c
theorem Quo.of {a b c : Nat} (h : a * b / 18446744073709551616 < c) : Quo a b c (a * b / c) (a * b % c) :=
  ⟨h, rfl, rfl, by
    rw [Nat.div_lt_iff_lt_mul (by omega)]
    have : a * b < c * 18446744073709551616 := by omega
    rw [Nat.mul_comm 18446744073709551616]; exact this, Nat.mod_lt _ (by omega)⟩

theorem divided_yes (a b c q r : Nat) (ha : a < 18446744073709551616) (hb : b < 18446744073709551616) (hc : c < 18446744073709551616) (h : Quo a b c q r) (w : World) :
    Calls Try.prog 30 #[.int .u64 a, .int .u64 b, .int .u64 c] w fun e w' => e = .returned (.tuple #[.int .u64 q, .int .u64 r, .bool true]) ∧ ∃ n, w' = w.drewN n := by
  have h1 := h.lt
  obtain ⟨hi, hhi⟩ : ∃ x, x = a * b / 18446744073709551616 := ⟨_, rfl⟩
  obtain ⟨lo, hlo⟩ : ∃ x, x = a * b % 18446744073709551616 := ⟨_, rfl⟩
  have cm := fun w => mul64_any a b ha hb w
  rw [← hhi, ← hlo] at cm
  have hl : lo < 18446744073709551616 := by omega
  rw [← hhi] at h1
  have cd := fun w => div64_any hi lo c hc hl h1 w
  have e : hi * 18446744073709551616 + lo = a * b := by omega
  rw [e, ← h.dq, ← h.dr] at cd
  have hq := h.qb
  have hr := h.rb
  have CM := Lib.hid cm
  have CD := Lib.hid cd
  clear cm cd e hhi hlo h
  have t1 : decide (c ≤ hi) = false := by rw [decide_eq_false_iff_not]; omega
  go_enter Try.func30, Try.ntmps30
  go_wp2_with (first | (go_at_call 32; refine (CM.out _).mono ?_; rintro e w' ⟨rfl, rfl⟩) | (go_at_call 33; refine (CD.out _).mono ?_; rintro e w' ⟨rfl, n, rfl⟩))
  go_ret3
  exact ⟨rfl, n, rfl⟩
theorem divided_no (a b c : Nat) (ha : a < 18446744073709551616) (hb : b < 18446744073709551616) (hc : c < 18446744073709551616) (h : c ≤ a * b / 18446744073709551616) (w : World) :
    Calls Try.prog 30 #[.int .u64 a, .int .u64 b, .int .u64 c] w fun e w' => e = .returned (.tuple #[.int .u64 0, .int .u64 0, .bool false]) ∧ w = w' := by
  obtain ⟨hi, hhi⟩ : ∃ x, x = a * b / 18446744073709551616 := ⟨_, rfl⟩
  obtain ⟨lo, hlo⟩ : ∃ x, x = a * b % 18446744073709551616 := ⟨_, rfl⟩
  have cm := fun w => mul64_any a b ha hb w
  rw [← hhi, ← hlo] at cm
  rw [← hhi] at h
  have CM := Lib.hid cm
  clear cm hhi hlo
  have t1 : decide (c ≤ hi) = true := by rw [decide_eq_true_eq]; omega
  go_enter Try.func30, Try.ntmps30
  go_wp2_with (first | (go_at_call 32; refine (CM.out _).mono ?_; rintro e w' ⟨rfl, rfl⟩))
  go_ret3
  exact ⟨rfl, rfl⟩
theorem down_yes (a b c q r : Nat) (ha : a < 18446744073709551616) (hb : b < 18446744073709551616) (hc : c < 18446744073709551616) (h : Quo a b c q r) (w : World) :
    Calls Try.prog 21 #[.int .u64 a, .int .u64 b, .int .u64 c] w fun e w' => e = .returned (.tuple #[.int .u64 q, .bool true]) ∧ ∃ n, w' = w.drewN n := by
  have H := Lib.hid h
  clear h
  go_enter Try.func21, Try.ntmps21
  go_wp2_with (first | (go_at_call 30; refine (divided_yes a b c q r ha hb hc H.out _).mono ?_; rintro e w' ⟨rfl, n, rfl⟩))
  go_ret2
  exact ⟨rfl, n, rfl⟩
theorem down_no (a b c : Nat) (ha : a < 18446744073709551616) (hb : b < 18446744073709551616) (hc : c < 18446744073709551616) (h : c ≤ a * b / 18446744073709551616) (w : World) :
    Calls Try.prog 21 #[.int .u64 a, .int .u64 b, .int .u64 c] w fun e w' => e = .returned (.tuple #[.int .u64 0, .bool false]) ∧ w = w' := by
  have H := Lib.hid h
  clear h
  go_enter Try.func21, Try.ntmps21
  go_wp2_with (first | (go_at_call 30; refine (divided_no a b c ha hb hc H.out _).mono ?_; rintro e w' ⟨rfl, rfl⟩))
  go_ret2
  exact ⟨rfl, rfl⟩
/-- what Up answers: the next whole number up, where it fits. -/
def upQ (q r : Nat) : Nat := if r = 0 then q else if q = 18446744073709551615 then 0 else q + 1
def upB (q r : Nat) : Bool := decide (r = 0 ∨ q ≠ 18446744073709551615)
theorem up_yes (a b c q r : Nat) (ha : a < 18446744073709551616) (hb : b < 18446744073709551616) (hc : c < 18446744073709551616) (h : Quo a b c q r) (w : World) :
    Calls Try.prog 23 #[.int .u64 a, .int .u64 b, .int .u64 c] w fun e w' => e = .returned (.tuple #[.int .u64 (upQ q r : Nat), .bool (upB q r)]) ∧ ∃ n, w' = w.drewN n := by
  have hq := h.qb
  have H := Lib.hid h
  clear h
  by_cases h0 : r = 0
  · subst h0
    have e1 : upQ q 0 = q := rfl
    have e2 : upB q 0 = true := by unfold upB; simp
    rw [e1, e2]
    clear e1 e2
    go_enter Try.func23, Try.ntmps23
    go_wp2_with (first | (go_at_call 30; refine (divided_yes a b c q 0 ha hb hc H.out _).mono ?_; rintro e w' ⟨rfl, n, rfl⟩))
    go_ret2
    exact ⟨rfl, n, rfl⟩
  · have t0 : ((r : Int) == 0) = false := by rw [beq_eq_false_iff_ne]; omega
    by_cases h1 : q = 18446744073709551615
    · have e1 : upQ q r = 0 := by unfold upQ; rw [if_neg h0, if_pos h1]
      have e2 : upB q r = false := by unfold upB; simp [h0, h1]
      rw [e1, e2]
      clear e1 e2
      have t1 : ((q : Int) == 18446744073709551615) = true := by rw [beq_iff_eq]; omega
      have H1 := Lib.hid h1
      clear h0 h1
      go_enter Try.func23, Try.ntmps23
      go_wp2_with (first | (go_at_call 30; refine (divided_yes a b c q r ha hb hc H.out _).mono ?_; rintro e w' ⟨rfl, n, rfl⟩))
      go_ret2
      exact ⟨rfl, n, rfl⟩
    · have e1 : upQ q r = q + 1 := by unfold upQ; rw [if_neg h0, if_neg h1]
      have e2 : upB q r = true := by unfold upB; simp [h1]
      rw [e1, e2]
      clear e1 e2
      have t1 : ((q : Int) == 18446744073709551615) = false := by rw [beq_eq_false_iff_ne]; omega
      have hq2 : q < 18446744073709551615 := by omega
      clear h0 h1
      go_enter Try.func23, Try.ntmps23
      go_wp2_with (first | (go_at_call 30; refine (divided_yes a b c q r ha hb hc H.out _).mono ?_; rintro e w' ⟨rfl, n, rfl⟩))
      go_ret2
      exact ⟨ret_ib (by omega) rfl, n, rfl⟩
theorem up_no (a b c : Nat) (ha : a < 18446744073709551616) (hb : b < 18446744073709551616) (hc : c < 18446744073709551616) (h : c ≤ a * b / 18446744073709551616) (w : World) :
    Calls Try.prog 23 #[.int .u64 a, .int .u64 b, .int .u64 c] w fun e w' => e = .returned (.tuple #[.int .u64 0, .bool false]) ∧ w = w' := by
  have H := Lib.hid h
  clear h
  go_enter Try.func23, Try.ntmps23
  go_wp2_with (first | (go_at_call 30; refine (divided_no a b c ha hb hc H.out _).mono ?_; rintro e w' ⟨rfl, rfl⟩))
  go_ret2
  exact ⟨rfl, rfl⟩

/-! the document's own -/
theorem rdivide_no (a b c : Nat) (ha : a < 18446744073709551616) (hb : b < 18446744073709551616) (hc : c < 18446744073709551616) (h : c ≤ a * b / 18446744073709551616) (w : World) :
    Calls Try.prog 31 #[.int .u64 a, .int .u64 b, .int .u64 c] w fun e w' => e = .returned (.tuple #[.int .u64 0, .int .u64 0, .bool false]) ∧ w = w' := by
  obtain ⟨hi, hhi⟩ : ∃ x, x = a * b / 18446744073709551616 := ⟨_, rfl⟩
  obtain ⟨lo, hlo⟩ : ∃ x, x = a * b % 18446744073709551616 := ⟨_, rfl⟩
  have cm := fun w => wide_any a b ha hb w
  rw [← hhi, ← hlo] at cm
  rw [← hhi] at h
  have CM := Lib.hid cm
  clear cm hhi hlo
  have t1 : decide (c ≤ hi) = true := by rw [decide_eq_true_eq]; omega
  go_enter Try.func31, Try.ntmps31
  go_wp2_with (first | (go_at_call 29; refine (CM.out _).mono ?_; rintro e w' ⟨rfl, rfl⟩))
  go_ret3
  exact ⟨rfl, rfl⟩
theorem rdivide_yes (a b c q r : Nat) (ha : a < 18446744073709551616) (hb : b < 18446744073709551616) (hc : c < 18446744073709551616) (h : Quo a b c q r) (w : World) :
    Calls Try.prog 31 #[.int .u64 a, .int .u64 b, .int .u64 c] w fun e w' => e = .returned (.tuple #[.int .u64 q, .int .u64 r, .bool true]) ∧ w = w' := by
  have h1 := h.lt
  obtain ⟨M, hM⟩ : ∃ x, x = a * b := ⟨_, rfl⟩
  obtain ⟨hi, hhi⟩ : ∃ x, x = a * b / 18446744073709551616 := ⟨_, rfl⟩
  obtain ⟨lo, hlo⟩ : ∃ x, x = a * b % 18446744073709551616 := ⟨_, rfl⟩
  have cm := fun w => wide_any a b ha hb w
  rw [← hhi, ← hlo] at cm
  have hl : lo < 18446744073709551616 := by omega
  rw [← hhi] at h1
  have hq := h.dq
  have hr := h.dr
  rw [← hM] at hq hr hhi hlo
  have HF := Lib.hid (And.intro hq (And.intro hr (And.intro hhi hlo)))
  have hqb := h.qb
  have CM := Lib.hid cm
  clear cm hhi hlo h hq hr hM
  have t1 : decide (c ≤ hi) = false := by rw [decide_eq_false_iff_not]; omega
  go_enter Try.func31, Try.ntmps31
  go_wp2_with (first | (go_at_call 29; refine (CM.out _).mono ?_; rintro e w' ⟨rfl, rfl⟩))
  go_loopg [11, 12, 13, 14] 64 (fun k sq sr si so wr => ∃ q1 r1 : Nat, sq = .int .u64 q1 ∧ sr = .int .u64 r1 ∧ si = .int .i64 ((k : Int) - 1) ∧ k ≤ 64 ∧ r1 < c ∧ Hid (q1 = M / 2 ^ k / c ∧ r1 = M / 2 ^ k % c) ∧ wr = w)
  case atStart =>
    refine ⟨0, hi, rfl, rfl, rfl, by omega, h1, ?_, rfl⟩
    obtain ⟨_, _, g3, _⟩ := HF.out
    have e : M / 2 ^ 64 = hi := g3.symm
    rw [e]
    exact Lib.hid ⟨(Nat.div_eq_of_lt h1).symm, (Nat.mod_eq_of_lt h1).symm⟩
  case round =>
    obtain ⟨q1, r1, rfl, rfl, rfl, hk, hrc, HI, rfl⟩ := hrel
    cases gk with
    | zero =>
      go_wp2
      go_ret3
      obtain ⟨g1, g2, _, _⟩ := HF.out
      obtain ⟨i1, i2⟩ := HI.out
      rw [Nat.pow_zero, Nat.div_one] at i1 i2
      exact ⟨ret_iib (by rw [g1, i1]) (by rw [g2, i2]) rfl, rfl⟩
    | succ k =>
      rw [show ((k + 1 : Nat) : Int) - 1 = (k : Int) by omega]
      obtain ⟨g1, g2, g3, g4⟩ := HF.out
      obtain ⟨i1, i2⟩ := HI.out
      have hs := Ar.bit_step (by omega : 0 < c) i1 i2
      have hbit := Ar.bit_of (M := M) (k := k) g3 g4 (by omega)
      obtain ⟨d, hd⟩ : ∃ d, d = M / 2 ^ k % 2 := ⟨_, rfl⟩
      rw [← hd] at hs hbit
      have hd2 : d < 2 := by rw [hd]; exact Nat.mod_lt _ (by decide)
      have hq1 : M / 2 ^ k / c ≤ q := by
        rw [g1, Nat.div_div_eq_div_mul, Nat.mul_comm, ← Nat.div_div_eq_div_mul]; exact Nat.div_le_self _ _
      have hq2 : 2 * q1 ≤ q := by
        by_cases g : 2 * r1 + d < c
        · rw [(hs.1 g).1]; exact hq1
        · have := (hs.2 (by omega)).1; omega
      have E1 : bits .and .u64 ((lo : Int) / 2 ^ k) 1 = (d : Int) := by rw [Kn.div_cast, Ar.and_one _ (Nat.lt_of_le_of_lt (Nat.div_le_self _ _) hl), hbit]
      obtain ⟨Q2, hQ2⟩ : ∃ Q2, Q2 = 2 * q1 := ⟨_, rfl⟩
      have E2 : (q1 : Int) * 2 = (Q2 : Int) := by omega
      have E3 : bits .or .u64 (Q2 : Int) 1 = ((2 * q1 + 1 : Nat) : Int) := by rw [hQ2]; exact Ar.or_bit q1 1 (by omega) (by omega)
      obtain ⟨Q3, hQ3⟩ : ∃ Q3, Q3 = 2 * q1 + 1 := ⟨_, rfl⟩
      rw [← hQ3] at E3
      obtain ⟨R2, hR2⟩ : ∃ R2, R2 = 2 * r1 % 18446744073709551616 := ⟨_, rfl⟩
      obtain ⟨R3, hR3⟩ : ∃ R3, R3 = R2 + d := ⟨_, rfl⟩
      have b4 : R3 < 18446744073709551616 := by omega
      have E4 : bits .or .u64 (R2 : Int) (d : Int) = (R3 : Int) := by
        rw [hR3, hR2, show 2 * r1 % 18446744073709551616 = 2 * (r1 % 9223372036854775808) by omega]
        exact Ar.or_bit _ d hd2 (by omega)
      have b1 : Q2 < 18446744073709551616 := by omega
      have b2 : R2 < 18446744073709551616 := by omega
      by_cases hov : r1 < 9223372036854775808
      · have E5 : (r1 : Int) / 9223372036854775808 = 0 := by omega
        have E6 : (r1 : Int) * 2 = (R2 : Int) := by omega
        have HOV := Lib.hid hov
        clear hov
        by_cases hcc : R3 < c
        · have t2 : decide (c ≤ R3) = false := by rw [decide_eq_false_iff_not]; omega
          have HE := Lib.hid (And.intro hs (And.intro hQ2 (And.intro hR2 (And.intro hR3 hcc))))
          clear hs i1 i2 g1 g2 g3 g4 hbit hd hQ2 hQ3 hR2 hR3 hcc hq1 hq2 HI
          go_wp2
          go_roundg k
          case measure => omega
          case rel =>
            obtain ⟨f1, f2, f3, f4, f5⟩ := HE.out
            have := HOV.out
            have f6 := f1.1 (by omega)
            exact ⟨Q2, R3, rfl, rfl, rfl, by omega, by omega, Lib.hid ⟨by rw [f2]; exact f6.1, by rw [← f6.2]; omega⟩, rfl⟩
        · have t2 : decide (c ≤ R3) = true := by rw [decide_eq_true_eq]; omega
          obtain ⟨R4, hR4⟩ : ∃ R4, R4 = R3 - c := ⟨_, rfl⟩
          have E7 : (R3 : Int) - (c : Int) = (R4 : Int) := by omega
          have b5 : c ≤ R3 := by omega
          have HE := Lib.hid (And.intro hs (And.intro hQ3 (And.intro hR2 (And.intro hR3 (And.intro hcc hR4)))))
          clear hs i1 i2 g1 g2 g3 g4 hbit hd hQ2 hQ3 hR2 hR3 hcc hq1 hq2 HI hR4
          go_wp2
          go_roundg k
          case measure => omega
          case rel =>
            obtain ⟨f1, f2, f3, f4, f5, f7⟩ := HE.out
            have := HOV.out
            have f6 := f1.2 (by omega)
            exact ⟨Q3, R4, rfl, rfl, rfl, by omega, by omega, Lib.hid ⟨by rw [f2]; exact f6.1, by rw [← f6.2.1]; omega⟩, rfl⟩
      · have E5 : (r1 : Int) / 9223372036854775808 = 1 := by omega
        have E6 : IntKind.u64.wrap ((r1 : Int) * 2) = (R2 : Int) := by rw [IntKind.wrap_u64]; omega
        obtain ⟨R4, hR4⟩ : ∃ R4, R4 = 2 * r1 + d - c := ⟨_, rfl⟩
        have f6 := hs.2 (by omega)
        have E7 : IntKind.u64.wrap ((R3 : Int) - (c : Int)) = (R4 : Int) := by rw [IntKind.wrap_u64]; omega
        have b6 : R3 < c := by omega
        have HE := Lib.hid (And.intro f6 (And.intro hQ3 hR4))
        clear hs i1 i2 g1 g2 g3 g4 hbit hd hQ2 hQ3 hR2 hR3 hq1 hq2 HI hR4 hov f6
        go_wp2
        go_roundg k
        case measure => omega
        case rel =>
          obtain ⟨f6, f2, f7⟩ := HE.out
          exact ⟨Q3, R4, rfl, rfl, rfl, by omega, by omega, Lib.hid ⟨by rw [f2]; exact f6.1, by rw [← f6.2.1]; omega⟩, rfl⟩
theorem rdown_yes (a b c q r : Nat) (ha : a < 18446744073709551616) (hb : b < 18446744073709551616) (hc : c < 18446744073709551616) (h : Quo a b c q r) (w : World) :
    Calls Try.prog 22 #[.int .u64 a, .int .u64 b, .int .u64 c] w fun e w' => e = .returned (.tuple #[.int .u64 q, .bool true]) ∧ w = w' := by
  have H := Lib.hid h
  clear h
  go_enter Try.func22, Try.ntmps22
  go_wp2_with (first | (go_at_call 31; refine (rdivide_yes a b c q r ha hb hc H.out _).mono ?_; rintro e w' ⟨rfl, rfl⟩))
  go_ret2
  exact ⟨rfl, rfl⟩
theorem rdown_no (a b c : Nat) (ha : a < 18446744073709551616) (hb : b < 18446744073709551616) (hc : c < 18446744073709551616) (h : c ≤ a * b / 18446744073709551616) (w : World) :
    Calls Try.prog 22 #[.int .u64 a, .int .u64 b, .int .u64 c] w fun e w' => e = .returned (.tuple #[.int .u64 0, .bool false]) ∧ w = w' := by
  have H := Lib.hid h
  clear h
  go_enter Try.func22, Try.ntmps22
  go_wp2_with (first | (go_at_call 31; refine (rdivide_no a b c ha hb hc H.out _).mono ?_; rintro e w' ⟨rfl, rfl⟩))
  go_ret2
  exact ⟨rfl, rfl⟩
theorem rup_yes (a b c q r : Nat) (ha : a < 18446744073709551616) (hb : b < 18446744073709551616) (hc : c < 18446744073709551616) (h : Quo a b c q r) (w : World) :
    Calls Try.prog 24 #[.int .u64 a, .int .u64 b, .int .u64 c] w fun e w' => e = .returned (.tuple #[.int .u64 (upQ q r : Nat), .bool (upB q r)]) ∧ w = w' := by
  have hq := h.qb
  have hr := h.rb
  have H := Lib.hid h
  clear h
  by_cases h0 : r = 0
  · have t0 : decide (0 < r) = false := by rw [decide_eq_false_iff_not]; omega
    have t1 : decide ((0 : Int) < (r : Int)) = false := by rw [decide_eq_false_iff_not]; omega
    have e1 : upQ q r = q := by rw [h0]; rfl
    have e2 : upB q r = true := by unfold upB; simp [h0]
    rw [e1, e2]
    clear e1 e2 h0
    go_enter Try.func24, Try.ntmps24
    go_wp2_with (first | (go_at_call 31; refine (rdivide_yes a b c q r ha hb hc H.out _).mono ?_; rintro e w' ⟨rfl, rfl⟩))
    go_ret2
    exact ⟨rfl, rfl⟩
  · have t0 : decide (0 < r) = true := by rw [decide_eq_true_eq]; omega
    have t1 : decide ((0 : Int) < (r : Int)) = true := by rw [decide_eq_true_eq]; omega
    by_cases h1 : q = 18446744073709551615
    · have e1 : upQ q r = 0 := by unfold upQ; rw [if_neg h0, if_pos h1]
      have e2 : upB q r = false := by unfold upB; simp [h0, h1]
      rw [e1, e2]
      clear e1 e2
      have t2 : IntKind.u64.wrap ((q : Int) + 1) = 0 := by rw [IntKind.wrap_u64]; omega
      have H1 := Lib.hid h1
      clear h0 h1
      go_enter Try.func24, Try.ntmps24
      go_wp2_with (first | (go_at_call 31; refine (rdivide_yes a b c q r ha hb hc H.out _).mono ?_; rintro e w' ⟨rfl, rfl⟩))
      go_ret2
      exact ⟨rfl, rfl⟩
    · have e1 : upQ q r = q + 1 := by unfold upQ; rw [if_neg h0, if_neg h1]
      have e2 : upB q r = true := by unfold upB; simp [h1]
      rw [e1, e2]
      clear e1 e2
      have hq2 : q < 18446744073709551615 := by omega
      clear h0 h1
      go_enter Try.func24, Try.ntmps24
      go_wp2_with (first | (go_at_call 31; refine (rdivide_yes a b c q r ha hb hc H.out _).mono ?_; rintro e w' ⟨rfl, rfl⟩))
      go_ret2
      exact ⟨ret_ib (by omega) rfl, rfl⟩
theorem rup_no (a b c : Nat) (ha : a < 18446744073709551616) (hb : b < 18446744073709551616) (hc : c < 18446744073709551616) (h : c ≤ a * b / 18446744073709551616) (w : World) :
    Calls Try.prog 24 #[.int .u64 a, .int .u64 b, .int .u64 c] w fun e w' => e = .returned (.tuple #[.int .u64 0, .bool false]) ∧ w = w' := by
  have H := Lib.hid h
  clear h
  go_enter Try.func24, Try.ntmps24
  go_wp2_with (first | (go_at_call 31; refine (rdivide_no a b c ha hb hc H.out _).mono ?_; rintro e w' ⟨rfl, rfl⟩))
  go_ret2
  exact ⟨rfl, rfl⟩
end Go.Proofs.Ytbgdciofomlcdaa
