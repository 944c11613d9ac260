/- The laws of layer 1 (arith), walked. -/
import Derived.Test.YtbgdciofomlcdaaArithB
namespace Go.Proofs.Ytbgdciofomlcdaa
open Go.ChangeShapes Go.WideShapes Go.ChangeAt Go.RowKit
open Ar (inR)

theorem rsum_any (a b : Int) (ha : inR a) (hb : inR b) (w : World) :
    Calls Try.prog 16 #[.int .i64 a, .int .i64 b] w fun e w' => e = .returned (.int .i64 (clamp (a + b))) ∧ w = w' := by
  by_cases h : inR (a + b)
  · have hd : decide (inR (a + b)) = true := by rw [decide_eq_true_eq]; exact h
    have HA := Lib.hid ha
    have HB := Lib.hid hb
    have HH := Lib.hid h
    clear h ha hb
    go_enter Try.func16, Try.ntmps16
    go_wp2_with (go_at_call 13; refine (radd_any _ _ HA.out HB.out _).mono ?_; rintro e w' ⟨rfl, rfl⟩)
    go_ret
    have h := HH.out
    exact ⟨ret_i (by rw [Ar.wrap_eq h]; unfold clamp; unfold inR at h; rw [if_neg (by omega), if_neg (by omega)]), rfl⟩
  · have hd : decide (inR (a + b)) = false := by rw [decide_eq_false_iff_not]; exact h
    have HA := Lib.hid ha
    have HB := Lib.hid hb
    have HH := Lib.hid h
    clear h ha hb
    go_enter Try.func16, Try.ntmps16
    go_wp2_with (first | (go_at_call 13; refine (radd_any _ _ HA.out HB.out _).mono ?_; rintro e w' ⟨rfl, rfl⟩))
    all_goals
      go_ret
      have h := HH.out
      have ha := HA.out
      have hb := HB.out
      unfold inR at h ha hb
      refine ⟨ret_i ?_, rfl⟩
      unfold clamp
      first | rw [if_pos (by omega)] | rw [if_neg (by omega), if_pos (by omega)]
theorem rproduct_any (a b : Int) (ha : inR a) (hb : inR b) (w : World) :
    Calls Try.prog 20 #[.int .i64 a, .int .i64 b] w fun e w' => e = .returned (.int .i64 (clamp (a * b))) ∧ w = w' := by
  by_cases h : inR (a * b)
  · have hd : decide (inR (a * b)) = true := by rw [decide_eq_true_eq]; exact h
    have HA := Lib.hid ha
    have HB := Lib.hid hb
    have HH := Lib.hid h
    clear h ha hb
    go_enter Try.func20, Try.ntmps20
    go_wp2_with (go_at_call 18; refine (rmul_any _ _ HA.out HB.out _).mono ?_; rintro e w' ⟨rfl, rfl⟩)
    go_ret
    have h := HH.out
    exact ⟨ret_i (by rw [Ar.wrap_eq h]; unfold clamp; unfold inR at h; rw [if_neg (by omega), if_neg (by omega)]), rfl⟩
  · have hd : decide (inR (a * b)) = false := by rw [decide_eq_false_iff_not]; exact h
    have h0 : a ≠ 0 ∧ b ≠ 0 := by
      constructor
      · intro g; subst g; apply h; rw [Int.zero_mul]; unfold inR; omega
      · intro g; subst g; apply h; rw [Int.mul_zero]; unfold inR; omega
    have hs := Ar.sgn a b h0.1 h0.2
    clear h0
    by_cases ga : a < 0 <;> by_cases gb : b < 0 <;> simp [ga, gb] at hs
    all_goals
      have HS := Lib.hid hs
      have HA := Lib.hid ha
      have HB := Lib.hid hb
      have HH := Lib.hid h
      clear h ha hb hs
      go_enter Try.func20, Try.ntmps20
      go_wp2_with (first | (go_at_call 18; refine (rmul_any _ _ HA.out HB.out _).mono ?_; rintro e w' ⟨rfl, rfl⟩))
    all_goals
      go_ret
      have h := HH.out
      have hs := HS.out
      unfold inR at h
      refine ⟨ret_i ?_, rfl⟩
      unfold clamp
      first | (rw [if_pos (by omega)]; done) | (rw [if_neg (by omega), if_pos (by omega)]; done) | (exfalso; simp at *; omega)
theorem fit_any (w : World) :
    Calls Try.prog 11 #[] w fun e w' => e = .returned (.bool true) ∧ ∃ n, w' = w.drewN n := by
  have c1 : ∀ w, Calls Try.prog 23 #[.int .u64 1, .int .u64 1, .int .u64 2] w fun e w' => e = .returned (.tuple #[.int .u64 1, .bool true]) ∧ ∃ n, w' = w.drewN n :=
    fun w => up_yes 1 1 2 0 1 (by omega) (by omega) (by omega) ⟨by decide, by decide, by decide, by decide, by decide⟩ w
  have c2 : ∀ w, Calls Try.prog 21 #[.int .u64 9223372036854775808, .int .u64 4, .int .u64 2] w fun e w' => e = .returned (.tuple #[.int .u64 0, .bool false]) ∧ w = w' :=
    fun w => down_no 9223372036854775808 4 2 (by omega) (by omega) (by omega) (by decide) w
  have C1 := Lib.hid c1
  have C2 := Lib.hid c2
  clear c1 c2
  go_enter Try.func11, Try.ntmps11
  go_wp2_with (first | (go_at_call 23; refine (C1.out _).mono ?_; rintro e w' ⟨rfl, n, rfl⟩) | (go_at_call 21; refine (C2.out _).mono ?_; rintro e w' ⟨rfl, rfl⟩))
  go_ret
  exact ⟨rfl, n, rfl⟩

theorem neg_any (b : Int) (h : inR b) (g : b ≠ -9223372036854775808) : inR (-b) := by unfold inR at *; omega
set_option maxHeartbeats 1000000 in
theorem sums_law (a b : Int) (ha : inR a) (hb : inR b) (w : World) :
    Calls Try.prog 3 #[.int .i64 a, .int .i64 b] w fun e w' => e = .returned (.bool true) ∧ ∃ n, w' = w.drewN n := by
  have HA := Lib.hid ha
  have HB := Lib.hid hb
  unfold inR at ha hb
  by_cases h : b = -9223372036854775808
  · have HH := Lib.hid h
    have t : (b == -9223372036854775808) = true := by rw [beq_iff_eq]; exact h
    clear h
    go_enter Try.func3, Try.ntmps3
    go_wp2_with (first
      | (go_at_call 11; refine (fit_any _).mono ?_; rintro e w' ⟨rfl, n, rfl⟩)
      | (go_at_call 12; refine (add_any _ _ HA.out HB.out _).mono ?_; rintro e w' ⟨rfl, rfl⟩)
      | (go_at_call 13; refine (radd_any _ _ HA.out HB.out _).mono ?_; rintro e w' ⟨rfl, rfl⟩)
      | (go_at_call 14; refine (sub_any _ _ HA.out HB.out _).mono ?_; rintro e w' ⟨rfl, rfl⟩)
      | (go_at_call 15; refine (sum_any _ _ HA.out HB.out _).mono ?_; rintro e w' ⟨rfl, rfl⟩)
      | (go_at_call 16; refine (rsum_any _ _ HA.out HB.out _).mono ?_; rintro e w' ⟨rfl, rfl⟩))
    go_ret
    refine ⟨ret_b ?_, n, rfl⟩
    have := HH.out
    rw [beq_iff_eq]
    apply decide_eq_decide.2
    unfold inR; omega
  · have hb2 : -9223372036854775807 ≤ b := by omega
    have HN := Lib.hid (neg_any b HB.out h)
    have t : (b == -9223372036854775808) = false := by rw [beq_eq_false_iff_ne]; exact h
    clear h
    go_enter Try.func3, Try.ntmps3
    go_wp2_with (first
      | (go_at_call 11; refine (fit_any _).mono ?_; rintro e w' ⟨rfl, n, rfl⟩)
      | (go_at_call 12; refine (add_any _ _ HA.out HB.out _).mono ?_; rintro e w' ⟨rfl, rfl⟩)
      | (go_at_call 13; refine (radd_any _ _ HA.out (by first | exact HB.out | exact HN.out) _).mono ?_; rintro e w' ⟨rfl, rfl⟩)
      | (go_at_call 14; refine (sub_any _ _ HA.out HB.out _).mono ?_; rintro e w' ⟨rfl, rfl⟩)
      | (go_at_call 15; refine (sum_any _ _ HA.out HB.out _).mono ?_; rintro e w' ⟨rfl, rfl⟩)
      | (go_at_call 16; refine (rsum_any _ _ HA.out HB.out _).mono ?_; rintro e w' ⟨rfl, rfl⟩))
    go_ret
    refine ⟨ret_b ?_, n, rfl⟩
    rw [beq_iff_eq]
    apply decide_eq_decide.2
    rw [Int.sub_eq_add_neg]
/-- products -/
theorem products_law (a b : Int) (ha : inR a) (hb : inR b) (w : World) :
    Calls Try.prog 4 #[.int .i64 a, .int .i64 b] w fun e w' => e = .returned (.bool true) ∧ ∃ n, w' = w.drewN n := by
  have HA := Lib.hid ha
  have HB := Lib.hid hb
  have hc : b * a = a * b := Int.mul_comm b a
  obtain ⟨p, hp⟩ : ∃ p, p = a * b := ⟨_, rfl⟩
  have c1 := fun w => mul_any a b ha hb w
  have c2 := fun w => mul_any b a hb ha w
  have c3 := fun w => rmul_any a b ha hb w
  have c4 := fun w => product_any a b ha hb w
  have c5 := fun w => rproduct_any a b ha hb w
  rw [hc] at c2
  rw [← hp] at c1 c2 c3 c4 c5
  have C1 := Lib.hid c1
  have C2 := Lib.hid c2
  have C3 := Lib.hid c3
  have C4 := Lib.hid c4
  have C5 := Lib.hid c5
  clear c1 c2 c3 c4 c5 hp hc ha hb
  go_enter Try.func4, Try.ntmps4
  go_wp2_with (first
    | (go_at_call 11; refine (fit_any _).mono ?_; rintro e w' ⟨rfl, n, rfl⟩)
    | (go_at_call 17; first | ((with_reducible refine (C1.out _).mono ?_); rintro e w' ⟨rfl, rfl⟩) | ((with_reducible refine (C2.out _).mono ?_); rintro e w' ⟨rfl, rfl⟩))
    | (go_at_call 18; refine (C3.out _).mono ?_; rintro e w' ⟨rfl, rfl⟩)
    | (go_at_call 19; refine (C4.out _).mono ?_; rintro e w' ⟨rfl, rfl⟩)
    | (go_at_call 20; refine (C5.out _).mono ?_; rintro e w' ⟨rfl, rfl⟩))
  go_ret
  exact ⟨rfl, n, rfl⟩
theorem u_max (a : Nat) (h : a < 18446744073709551616) : IntKind.u64.wrap (a : Int) = (a : Int) := Kn.wrapN a h
theorem quotients_law (a b c : Nat) (ha : a < 18446744073709551616) (hb : b < 18446744073709551616) (hc : c < 18446744073709551616) (w : World) :
    Calls Try.prog 5 #[.int .u64 a, .int .u64 b, .int .u64 c] w fun e w' => e = .returned (.bool true) ∧ ∃ n, w' = w.drewN n := by
  by_cases h : a * b / 18446744073709551616 < c
  · have H := Lib.hid (Quo.of h)
    obtain ⟨q, hq⟩ : ∃ q, q = a * b / c := ⟨_, rfl⟩
    obtain ⟨r, hr⟩ : ∃ r, r = a * b % c := ⟨_, rfl⟩
    have H' := H.out
    rw [← hq, ← hr] at H'
    have H2 := Lib.hid H'
    obtain ⟨u, hu⟩ : ∃ u, u = upQ q r := ⟨_, rfl⟩
    obtain ⟨v, hv⟩ : ∃ v, v = upB q r := ⟨_, rfl⟩
    have c1 := fun w => down_yes a b c q r ha hb hc H' w
    have c2 := fun w => up_yes a b c q r ha hb hc H' w
    have c3 := fun w => rdown_yes a b c q r ha hb hc H' w
    have c4 := fun w => rup_yes a b c q r ha hb hc H' w
    rw [← hu, ← hv] at c2 c4
    have hqb := H'.qb
    have hub : u < 18446744073709551616 := by rw [hu]; unfold upQ; split <;> (try split) <;> omega
    have hvu : v = true → u = q ∨ u = q + 1 := by
      intro g; rw [hv] at g; unfold upB at g; rw [decide_eq_true_eq] at g
      rw [hu]; unfold upQ
      by_cases g0 : r = 0
      · rw [if_pos g0]; exact Or.inl rfl
      · rw [if_neg g0, if_neg (by rcases g with g | g; exact absurd g g0; exact g)]; exact Or.inr rfl
    have h1 : c = 1 → q = a * b := by intro g; rw [hq, g, Nat.div_one]
    have C1 := Lib.hid c1
    have C2 := Lib.hid c2
    have C3 := Lib.hid c3
    have C4 := Lib.hid c4
    clear c1 c2 c3 c4 H H' hq hr hu h H2 hv
    have T : Hid (c ≠ 1 ∨ IntKind.u64.wrap ((a : Int) * (b : Int)) = (q : Int)) := by
      by_cases g : c = 1
      · refine Lib.hid (Or.inr ?_); rw [← Int.natCast_mul, ← h1 g]; exact Kn.wrapN _ hqb
      · exact Lib.hid (Or.inl g)
    clear h1
    have e3 : ((q : Int) == (q : Int)) = true := by rw [beq_iff_eq]
    rcases T.out with g | g
    · have e1 : ((c : Int) != 1) = true := by rw [bne_iff_ne]; omega
      have e2 : ((c : Int) == 1) = false := by rw [beq_eq_false_iff_ne]; omega
      clear T g
      cases v with
      | false =>
        clear hvu
        go_enter Try.func5, Try.ntmps5
        go_wp2_with (first
          | (go_at_call 11; refine (fit_any _).mono ?_; rintro e w' ⟨rfl, n, rfl⟩)
          | (go_at_call 21; refine (C1.out _).mono ?_; rintro e w' ⟨rfl, n1, rfl⟩)
          | (go_at_call 23; refine (C2.out _).mono ?_; rintro e w' ⟨rfl, n2, rfl⟩)
          | (go_at_call 22; refine (C3.out _).mono ?_; rintro e w' ⟨rfl, rfl⟩)
          | (go_at_call 24; refine (C4.out _).mono ?_; rintro e w' ⟨rfl, rfl⟩))
        go_ret
        exact ⟨rfl, _, rfl⟩
      | true =>
        have hv := hvu rfl
        have e6 : q ≤ u := by omega
        obtain ⟨d, e4, e5⟩ : ∃ d : Nat, (u : Int) - (q : Int) = (d : Int) ∧ decide ((d : Int) ≤ 1) = true := ⟨u - q, by omega, by rw [decide_eq_true_eq]; omega⟩
        clear hvu hv
        go_enter Try.func5, Try.ntmps5
        go_wp2_with (first
          | (go_at_call 11; refine (fit_any _).mono ?_; rintro e w' ⟨rfl, n, rfl⟩)
          | (go_at_call 21; refine (C1.out _).mono ?_; rintro e w' ⟨rfl, n1, rfl⟩)
          | (go_at_call 23; refine (C2.out _).mono ?_; rintro e w' ⟨rfl, n2, rfl⟩)
          | (go_at_call 22; refine (C3.out _).mono ?_; rintro e w' ⟨rfl, rfl⟩)
          | (go_at_call 24; refine (C4.out _).mono ?_; rintro e w' ⟨rfl, rfl⟩))
        all_goals go_ret
        all_goals exact ⟨rfl, _, rfl⟩
    · clear T
      cases v with
      | false =>
        clear hvu
        go_enter Try.func5, Try.ntmps5
        go_wp2_with (first
          | (go_at_call 11; refine (fit_any _).mono ?_; rintro e w' ⟨rfl, n, rfl⟩)
          | (go_at_call 21; refine (C1.out _).mono ?_; rintro e w' ⟨rfl, n1, rfl⟩)
          | (go_at_call 23; refine (C2.out _).mono ?_; rintro e w' ⟨rfl, n2, rfl⟩)
          | (go_at_call 22; refine (C3.out _).mono ?_; rintro e w' ⟨rfl, rfl⟩)
          | (go_at_call 24; refine (C4.out _).mono ?_; rintro e w' ⟨rfl, rfl⟩))
        all_goals go_ret
        all_goals exact ⟨rfl, _, rfl⟩
      | true =>
        have hv := hvu rfl
        have e6 : q ≤ u := by omega
        obtain ⟨d, e4, e5⟩ : ∃ d : Nat, (u : Int) - (q : Int) = (d : Int) ∧ decide ((d : Int) ≤ 1) = true := ⟨u - q, by omega, by rw [decide_eq_true_eq]; omega⟩
        clear hvu hv
        go_enter Try.func5, Try.ntmps5
        go_wp2_with (first
          | (go_at_call 11; refine (fit_any _).mono ?_; rintro e w' ⟨rfl, n, rfl⟩)
          | (go_at_call 21; refine (C1.out _).mono ?_; rintro e w' ⟨rfl, n1, rfl⟩)
          | (go_at_call 23; refine (C2.out _).mono ?_; rintro e w' ⟨rfl, n2, rfl⟩)
          | (go_at_call 22; refine (C3.out _).mono ?_; rintro e w' ⟨rfl, rfl⟩)
          | (go_at_call 24; refine (C4.out _).mono ?_; rintro e w' ⟨rfl, rfl⟩))
        all_goals go_ret
        all_goals exact ⟨rfl, _, rfl⟩
  · have h' : c ≤ a * b / 18446744073709551616 := by omega
    have c1 := fun w => down_no a b c ha hb hc h' w
    have c2 := fun w => up_no a b c ha hb hc h' w
    have c3 := fun w => rdown_no a b c ha hb hc h' w
    have c4 := fun w => rup_no a b c ha hb hc h' w
    have C1 := Lib.hid c1
    have C2 := Lib.hid c2
    have C3 := Lib.hid c3
    have C4 := Lib.hid c4
    clear c1 c2 c3 c4 h h'
    go_enter Try.func5, Try.ntmps5
    go_wp2_with (first
          | (go_at_call 11; refine (fit_any _).mono ?_; rintro e w' ⟨rfl, n, rfl⟩)
          | (go_at_call 21; refine (C1.out _).mono ?_; rintro e w' ⟨rfl, rfl⟩)
          | (go_at_call 23; refine (C2.out _).mono ?_; rintro e w' ⟨rfl, rfl⟩)
          | (go_at_call 22; refine (C3.out _).mono ?_; rintro e w' ⟨rfl, rfl⟩)
          | (go_at_call 24; refine (C4.out _).mono ?_; rintro e w' ⟨rfl, rfl⟩))
    all_goals go_ret
    all_goals exact ⟨rfl, _, rfl⟩
theorem ceil_any (a b : Int) (ha : inR a) (hb : inR b) (w : World) :
    Calls Try.prog 25 #[.int .i64 a, .int .i64 b] w fun e w' => e = .returned (.int .i64 (if a < 0 ∨ b < 1 then 0 else if a % b = 0 then a / b else a / b + 1)) ∧ w = w' := by
  unfold inR at ha hb
  by_cases h1 : a < 0 ∨ b < 1
  · rw [if_pos h1]
    have H1 := Lib.hid h1
    go_enter Try.func25, Try.ntmps25
    go_wp2
    all_goals go_ret
    all_goals exact ⟨rfl, rfl⟩
  · rw [if_neg h1]
    have h0 : 0 ≤ a := by omega
    have h2 : 1 ≤ b := by omega
    have e3 := Int.ediv_le_self b h0
    have e4 := Int.ediv_nonneg h0 (by omega : 0 ≤ b)
    clear h1
    by_cases hm : a % b = 0
    · rw [if_pos hm]
      have t : (a % b != 0) = false := by rw [bne_eq_false_iff_eq]; exact hm
      clear hm
      go_enter Try.func25, Try.ntmps25
      go_wp2
      go_ret
      exact ⟨rfl, rfl⟩
    · rw [if_neg hm]
      have t : (a % b != 0) = true := by rw [bne_iff_ne]; exact hm
      have e5 : a / b < 9223372036854775807 := by
        apply Classical.byContradiction
        intro g9
        have g : a / b = 9223372036854775807 := by omega
        have hb1 : b ≠ 1 := by intro g2; subst g2; exact hm (Int.emod_one a)
        have := Int.mul_ediv_add_emod a b
        rw [g] at this
        have g3 := Int.emod_nonneg a (by omega : b ≠ 0)
        omega
      clear hm
      go_enter Try.func25, Try.ntmps25
      go_wp2
      go_ret
      exact ⟨rfl, rfl⟩
theorem ceil_law (a b : Int) (ha : inR a) (hb : inR b) (w : World) :
    Calls Try.prog 6 #[.int .i64 a, .int .i64 b] w fun e w' => e = .returned (.bool true) ∧ ∃ n, w' = w.drewN n := by
  obtain ⟨q, hq⟩ : ∃ q, q = (if a < 0 ∨ b < 1 then 0 else if a % b = 0 then a / b else a / b + 1) := ⟨_, rfl⟩
  have c1 := fun w => ceil_any a b ha hb w
  rw [← hq] at c1
  have HB := Lib.hid hb
  unfold inR at ha hb
  by_cases h1 : a < 0 ∨ b < 1
  · rw [if_pos h1] at hq
    subst hq
    have C1 := Lib.hid c1
    clear c1
    go_enter Try.func6, Try.ntmps6
    go_wp2_with (first
      | (go_at_call 11; refine (fit_any _).mono ?_; rintro e w' ⟨rfl, n, rfl⟩)
      | (go_at_call 25; refine (C1.out _).mono ?_; rintro e w' ⟨rfl, rfl⟩))
    all_goals (first | (exfalso; omega) | (go_ret; exact ⟨rfl, _, rfl⟩))
  · rw [if_neg h1] at hq
    have h0 : 0 ≤ a := by omega
    have h2 : 1 ≤ b := by omega
    have g1 := Int.mul_ediv_add_emod a b
    have g2 := Int.emod_nonneg a (by omega : b ≠ 0)
    have g3 := Int.emod_lt_of_pos a (by omega : 0 < b)
    have g4 := Int.ediv_nonneg h0 (by omega : 0 ≤ b)
    have g5 := Int.ediv_le_self b h0
    have hf : 0 ≤ q ∧ q ≤ a ∧ a ≤ q * b ∧ (q - 1) * b < a ∧ (q = 0 → a = 0) ∧ (a = 0 → q = 0) ∧ inR ((q - 1) * b) := by
      have k1 : (q - 1) * b = q * b - b := by rw [Int.sub_mul, Int.one_mul]
      by_cases hm : a % b = 0
      · rw [if_pos hm] at hq
        have k2 : q * b = a := by rw [hq, Int.mul_comm]; omega
        refine ⟨by omega, by omega, by omega, by omega, ?_, ?_, ?_⟩
        · intro g; rw [← k2, g, Int.zero_mul]
        · intro g; rw [hq, g, Int.zero_ediv]
        · unfold inR; omega
      · rw [if_neg hm] at hq
        have k2 : q * b = b * (a / b) + b := by rw [hq, Int.add_mul, Int.one_mul, Int.mul_comm]
        refine ⟨by omega, ?_, by omega, by omega, by omega, ?_, ?_⟩
        · have hb1 : b ≠ 1 := by intro g2; subst g2; exact hm (Int.emod_one a)
          have : 2 * (a / b) ≤ b * (a / b) := Int.mul_le_mul_of_nonneg_right (by omega) g4
          by_cases hz : a / b = 0
          · rw [hz] at hq; omega
          · omega
        · intro g; subst g; simp at hm
        · unfold inR; omega
    clear hq h1 g1 g2 g3 g4 g5
    obtain ⟨f1, f2, f3, f4, f5, f6, f7⟩ := hf
    have hqR : inR q := by unfold inR; omega
    have hqR1 : inR (q - 1) := by unfold inR; omega
    have c2 := fun w => mul_any q b hqR HB.out w
    have c3 := fun w => mul_any (q - 1) b hqR1 HB.out w
    obtain ⟨over, ho⟩ : ∃ p, p = wrap64 (q * b) := ⟨_, rfl⟩
    obtain ⟨ok, hok⟩ : ∃ p, p = decide (inR (q * b)) := ⟨_, rfl⟩
    obtain ⟨less, hl⟩ : ∃ p, p = (q - 1) * b := ⟨_, rfl⟩
    rw [← ho, ← hok] at c2
    rw [Ar.wrap_eq f7] at c3
    have hdl : decide (inR ((q - 1) * b)) = true := by rw [decide_eq_true_eq]; exact f7
    rw [hdl, ← hl] at c3
    have hok2 : ok = true → a ≤ over := by
      intro g; rw [hok, decide_eq_true_eq] at g; rw [ho, Ar.wrap_eq g]; exact f3
    rw [← hl] at f4
    have C1 := Lib.hid c1
    have C2 := Lib.hid c2
    have C3 := Lib.hid c3
    clear c1 c2 c3 ho hok hl f3 f7 hdl hqR hqR1
    have t1 : decide (less < a) = true := by rw [decide_eq_true_eq]; exact f4
    have F := Lib.hid (And.intro f5 f6)
    clear f5 f6
    cases ok with
    | false =>
      clear hok2
      go_enter Try.func6, Try.ntmps6
      go_wp2_with (first
        | (go_at_call 11; refine (fit_any _).mono ?_; rintro e w' ⟨rfl, n, rfl⟩)
        | (go_at_call 25; refine (C1.out _).mono ?_; rintro e w' ⟨rfl, rfl⟩)
        | (go_at_call 17; first | ((with_reducible refine (C2.out _).mono ?_); rintro e w' ⟨rfl, rfl⟩) | ((with_reducible refine (C3.out _).mono ?_); rintro e w' ⟨rfl, rfl⟩)))
      all_goals
        obtain ⟨f5, f6⟩ := F.out
        first | (exfalso; omega) | (go_ret; exact ⟨rfl, _, rfl⟩)
    | true =>
      have hok3 := hok2 rfl
      clear hok2
      go_enter Try.func6, Try.ntmps6
      go_wp2_with (first
        | (go_at_call 11; refine (fit_any _).mono ?_; rintro e w' ⟨rfl, n, rfl⟩)
        | (go_at_call 25; refine (C1.out _).mono ?_; rintro e w' ⟨rfl, rfl⟩)
        | (go_at_call 17; first | ((with_reducible refine (C2.out _).mono ?_); rintro e w' ⟨rfl, rfl⟩) | ((with_reducible refine (C3.out _).mono ?_); rintro e w' ⟨rfl, rfl⟩)))
      all_goals
        obtain ⟨f5, f6⟩ := F.out
        first | (exfalso; omega) | (go_ret; exact ⟨rfl, _, rfl⟩)
end Go.Proofs.Ytbgdciofomlcdaa
