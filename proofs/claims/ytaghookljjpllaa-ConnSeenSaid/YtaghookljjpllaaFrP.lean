/- The contracts of layer 13 (frame): faults. -/
import Derived.Test.YtaghookljjpllaaFr
namespace Go.Proofs.Ytaghookljjpllaa
set_option linter.unusedSimpArgs false
set_option linter.unusedVariables false
open Go.ChangeShapes Go.WideShapes Go.ChangeAt Go.RowKit
theorem len_yes (n : Int) (w : World) (h : n = 2 ∨ n = 3 ∨ (7 ≤ n ∧ n ≤ 71)) : Calls Try.prog 42 #[.int .i64 n] w fun e w' => e = .returned (.bool true) ∧ w = w' := by
  rcases h with rfl | rfl | ⟨h1, h2⟩
  · go_enter Try.func42, Try.ntmps42
    go_wp2
    go_ret
    exact ⟨rfl, rfl⟩
  · go_enter Try.func42, Try.ntmps42
    go_wp2
    go_ret
    exact ⟨rfl, rfl⟩
  · have t1 : (n == 2) = false := by simp; omega
    have t2 : (n == 3) = false := by simp; omega
    have t3 : decide (7 ≤ n) = true := by simpa using h1
    have t4 : decide (n ≤ 71) = true := by simpa using h2
    go_enter Try.func42, Try.ntmps42
    go_wp2
    go_ret
    exact ⟨rfl, rfl⟩
theorem len_no (n : Int) (w : World) (h : ¬ (n = 2 ∨ n = 3 ∨ (7 ≤ n ∧ n ≤ 71))) : Calls Try.prog 42 #[.int .i64 n] w fun e w' => e = .returned (.bool false) ∧ w = w' := by
  have t1 : (n == 2) = false := by simp; omega
  have t2 : (n == 3) = false := by simp; omega
  by_cases h1 : 7 ≤ n
  · have t3 : decide (7 ≤ n) = true := by simpa using h1
    have t4 : decide (n ≤ 71) = false := by simp; omega
    clear h
    go_enter Try.func42, Try.ntmps42
    go_wp2
    go_ret
    exact ⟨rfl, rfl⟩
  · have t3 : decide (7 ≤ n) = false := by simpa using h1
    clear h
    go_enter Try.func42, Try.ntmps42
    go_wp2
    go_ret
    exact ⟨rfl, rfl⟩
def fitP (c n : Int) : Prop := (c = 3 ∧ n = 2) ∨ (c = 4 ∧ n = 3) ∨ ((c = 1 ∨ c = 2) ∧ n ≥ 7)
theorem fit_yes (c n : Int) (w : World) (h : fitP c n) : Calls Try.prog 43 #[.int .u8 c, .int .i64 n] w fun e w' => e = .returned (.bool true) ∧ w = w' := by
  rcases h with ⟨rfl, rfl⟩ | ⟨rfl, rfl⟩ | ⟨rfl | rfl, h2⟩
  all_goals
    try have t3 : decide (7 ≤ n) = true := by simpa using h2
    go_enter Try.func43, Try.ntmps43
    go_wp2
    go_ret
    exact ⟨rfl, rfl⟩
theorem fit_no (c n : Int) (w : World) (h : ¬ fitP c n) : Calls Try.prog 43 #[.int .u8 c, .int .i64 n] w fun e w' => e = .returned (.bool false) ∧ w = w' := by
  unfold fitP at h
  by_cases h1 : c = 1
  · subst h1
    have t3 : decide (7 ≤ n) = false := by simp; omega
    clear h
    go_enter Try.func43, Try.ntmps43
    go_wp2
    go_ret
    exact ⟨rfl, rfl⟩
  by_cases h2 : c = 2
  · subst h2
    have t3 : decide (7 ≤ n) = false := by simp; omega
    clear h h1
    go_enter Try.func43, Try.ntmps43
    go_wp2
    go_ret
    exact ⟨rfl, rfl⟩
  by_cases h3 : c = 3
  · subst h3
    have t3 : (n == 2) = false := by simp; omega
    clear h h1 h2
    go_enter Try.func43, Try.ntmps43
    go_wp2
    go_ret
    exact ⟨rfl, rfl⟩
  by_cases h4 : c = 4
  · subst h4
    have t3 : (n == 3) = false := by simp; omega
    clear h h1 h2 h3
    go_enter Try.func43, Try.ntmps43
    go_wp2
    go_ret
    exact ⟨rfl, rfl⟩
  have t1 : (c == 1) = false := by simpa using h1
  have t2 : (c == 2) = false := by simpa using h2
  have t3 : (c == 3) = false := by simpa using h3
  have t4 : (c == 4) = false := by simpa using h4
  clear h h1 h2 h3 h4
  go_enter Try.func43, Try.ntmps43
  go_wp2
  go_ret
  exact ⟨rfl, rfl⟩
theorem ret_i {k : IntKind} {a b : Int} (h : a = b) : Ending.returned (.int k a) = .returned (.int k b) := by rw [h]
set_option maxHeartbeats 4000000 in
theorem fault_any (A : Option Addr) (n c : Nat) (z : List Int) (rules : Int) (j : Nat) (hj : j < n) (w : World) (hr : RdI w .u8 A n c z) :
    Calls Try.prog 39 #[.slice A (j + 1) c, .int .i64 rules] w fun e w' => e = .returned (.int .i64 (fltZ z rules j)) ∧ w = w' := by
  have hcp := hr.cap
  have hmx := hr.max
  unfold maxLen at hmx
  obtain ⟨b, off, rfl, _, hc⟩ := hr.at_ (by omega)
  have c0 := hc j hj
  have hb : 0 ≤ z.getD j 0 ∧ z.getD j 0 ≤ 255 := wf_u8 (hr.wf_at hj)
  have hb3 : 3 < n → 0 ≤ z.getD 3 0 ∧ z.getD 3 0 ≤ 255 := fun h => wf_u8 (hr.wf_at h)
  obtain ⟨x, hx⟩ : ∃ x, x = z.getD j 0 := ⟨_, rfl⟩
  rw [← hx] at c0 hb
  have HX := Lib.hid hx
  have HC := Lib.hid hc
  have HB3 := Lib.hid hb3
  have g1 : (0 : Int) ≤ (j : Int) := by omega
  have g2 : (j : Int) < (n : Int) := by omega
  have g3 : (n : Int) ≤ 9223372036854775807 := by omega
  clear hr hc hx hb3
  by_cases hj0 : j = 0
  · have e0 : ((j : Int) == 0) = true := by rw [hj0]; rfl
    have e1 : ((j : Int) == 1) = false := by simp; omega
    have e2 : ((j : Int) == 2) = false := by simp; omega
    have e3 : ((j : Int) == 3) = false := by simp; omega
    have e4 : ((j : Int) == 4) = false := by simp; omega
    have e5 : ((j : Int) == 5) = false := by simp; omega
    have e10 : ((j : Int) == 10) = false := by simp; omega
    have HJ := Lib.hid hj0
    by_cases hy0 : x = 167
    · have t1 : (x != 167) = false := by simpa using hy0
      have HY0 := Lib.hid hy0
      clear hy0 hj0
      go_enter Try.func39, Try.ntmps39
      go_wp2
      go_ret
      refine ⟨ret_i ?_, rfl⟩
      have h1 := HX.out
      have h2 := HY0.out
      have h3 := HJ.out
      subst h3
      unfold fltZ
      simp only [← h1]
      simp; omega
    · have t1 : (x != 167) = true := by simpa using hy0
      have HY0 := Lib.hid hy0
      clear hy0 hj0
      go_enter Try.func39, Try.ntmps39
      go_wp2
      go_ret
      refine ⟨ret_i ?_, rfl⟩
      have h1 := HX.out
      have h2 := HY0.out
      have h3 := HJ.out
      subst h3
      unfold fltZ
      simp only [← h1]
      simp; omega
  by_cases hj0 : j = 1
  · have e0 : ((j : Int) == 0) = false := by simp; omega
    have e1 : ((j : Int) == 1) = true := by rw [hj0]; rfl
    have e2 : ((j : Int) == 2) = false := by simp; omega
    have e3 : ((j : Int) == 3) = false := by simp; omega
    have e4 : ((j : Int) == 4) = false := by simp; omega
    have e5 : ((j : Int) == 5) = false := by simp; omega
    have e10 : ((j : Int) == 10) = false := by simp; omega
    have HJ := Lib.hid hj0
    by_cases hy0 : x = 1
    · have t1 : (x != 1) = false := by simpa using hy0
      have HY0 := Lib.hid hy0
      clear hy0 hj0
      go_enter Try.func39, Try.ntmps39
      go_wp2
      go_ret
      refine ⟨ret_i ?_, rfl⟩
      have h1 := HX.out
      have h2 := HY0.out
      have h3 := HJ.out
      subst h3
      unfold fltZ
      simp only [← h1]
      simp; omega
    · have t1 : (x != 1) = true := by simpa using hy0
      have HY0 := Lib.hid hy0
      clear hy0 hj0
      go_enter Try.func39, Try.ntmps39
      go_wp2
      go_ret
      refine ⟨ret_i ?_, rfl⟩
      have h1 := HX.out
      have h2 := HY0.out
      have h3 := HJ.out
      subst h3
      unfold fltZ
      simp only [← h1]
      simp; omega
  by_cases hj0 : j = 2
  · have e0 : ((j : Int) == 0) = false := by simp; omega
    have e1 : ((j : Int) == 1) = false := by simp; omega
    have e2 : ((j : Int) == 2) = true := by rw [hj0]; rfl
    have e3 : ((j : Int) == 3) = false := by simp; omega
    have e4 : ((j : Int) == 4) = false := by simp; omega
    have e5 : ((j : Int) == 5) = false := by simp; omega
    have e10 : ((j : Int) == 10) = false := by simp; omega
    have HJ := Lib.hid hj0
    by_cases hy0 : x = 0
    · have t1 : (x != 0) = false := by simpa using hy0
      have HY0 := Lib.hid hy0
      clear hy0 hj0
      go_enter Try.func39, Try.ntmps39
      go_wp2
      go_ret
      refine ⟨ret_i ?_, rfl⟩
      have h1 := HX.out
      have h2 := HY0.out
      have h3 := HJ.out
      subst h3
      unfold fltZ
      simp only [← h1]
      simp; omega
    · have t1 : (x != 0) = true := by simpa using hy0
      have HY0 := Lib.hid hy0
      clear hy0 hj0
      go_enter Try.func39, Try.ntmps39
      go_wp2
      go_ret
      refine ⟨ret_i ?_, rfl⟩
      have h1 := HX.out
      have h2 := HY0.out
      have h3 := HJ.out
      subst h3
      unfold fltZ
      simp only [← h1]
      simp; omega
  by_cases hj0 : j = 3
  · have e0 : ((j : Int) == 0) = false := by simp; omega
    have e1 : ((j : Int) == 1) = false := by simp; omega
    have e2 : ((j : Int) == 2) = false := by simp; omega
    have e3 : ((j : Int) == 3) = true := by rw [hj0]; rfl
    have e4 : ((j : Int) == 4) = false := by simp; omega
    have e5 : ((j : Int) == 5) = false := by simp; omega
    have e10 : ((j : Int) == 10) = false := by simp; omega
    have HJ := Lib.hid hj0
    by_cases hy0 : x = 2 ∨ x = 3 ∨ (7 ≤ x ∧ x ≤ 71)
    · have CL := Lib.hid (fun w => len_yes x w hy0)
      have HY0 := Lib.hid hy0
      clear hy0 hj0
      go_enter Try.func39, Try.ntmps39
      go_wp2_with (go_at_call 42; ((with_reducible refine (CL.out _).mono ?_); rintro e w1 ⟨rfl, rfl⟩))
      go_ret
      refine ⟨ret_i ?_, rfl⟩
      have h1 := HX.out
      have h2 := HY0.out
      have h3 := HJ.out
      subst h3
      unfold fltZ
      simp only [← h1]
      simp; omega
    · have CL := Lib.hid (fun w => len_no x w hy0)
      have HY0 := Lib.hid hy0
      clear hy0 hj0
      go_enter Try.func39, Try.ntmps39
      go_wp2_with (go_at_call 42; ((with_reducible refine (CL.out _).mono ?_); rintro e w1 ⟨rfl, rfl⟩))
      go_ret
      refine ⟨ret_i ?_, rfl⟩
      have h1 := HX.out
      have h2 := HY0.out
      have h3 := HJ.out
      subst h3
      unfold fltZ
      simp only [← h1]
      simp; omega
  by_cases hj0 : j = 4
  · have e0 : ((j : Int) == 0) = false := by simp; omega
    have e1 : ((j : Int) == 1) = false := by simp; omega
    have e2 : ((j : Int) == 2) = false := by simp; omega
    have e3 : ((j : Int) == 3) = false := by simp; omega
    have e4 : ((j : Int) == 4) = true := by rw [hj0]; rfl
    have e5 : ((j : Int) == 5) = false := by simp; omega
    have e10 : ((j : Int) == 10) = false := by simp; omega
    obtain ⟨y, hy⟩ : ∃ y, y = z.getD 3 0 := ⟨_, rfl⟩
    have c3 := HC.out 3 (by omega)
    have b3 := HB3.out (by omega)
    rw [← hy] at c3 b3
    have HY := Lib.hid hy
    have g4 : (4 : Int) ≤ (j : Int) := by omega
    have g5 : 4 ≤ j := by omega
    clear hy
    have HJ := Lib.hid hj0
    by_cases hy0 : fitP x y
    · have CL := Lib.hid (fun w => fit_yes x y w hy0)
      have HY0 := Lib.hid hy0
      clear hy0 hj0
      go_enter Try.func39, Try.ntmps39
      go_wp2_with (go_at_call 43; ((with_reducible refine (CL.out _).mono ?_); rintro e w1 ⟨rfl, rfl⟩))
      go_ret
      refine ⟨ret_i ?_, rfl⟩
      have h1 := HX.out
      have h2 := HY0.out
      have h3 := HJ.out
      have h4 := HY.out
      subst h3
      unfold fltZ
      simp only [← h1, ← h4]
      simp only [fitP] at h2
      simp; omega
    · have CL := Lib.hid (fun w => fit_no x y w hy0)
      have HY0 := Lib.hid hy0
      clear hy0 hj0
      go_enter Try.func39, Try.ntmps39
      go_wp2_with (go_at_call 43; ((with_reducible refine (CL.out _).mono ?_); rintro e w1 ⟨rfl, rfl⟩))
      go_ret
      refine ⟨ret_i ?_, rfl⟩
      have h1 := HX.out
      have h2 := HY0.out
      have h3 := HJ.out
      have h4 := HY.out
      subst h3
      unfold fltZ
      simp only [← h1, ← h4]
      simp only [fitP] at h2
      simp; omega
  by_cases hj0 : j = 5
  · have e0 : ((j : Int) == 0) = false := by simp; omega
    have e1 : ((j : Int) == 1) = false := by simp; omega
    have e2 : ((j : Int) == 2) = false := by simp; omega
    have e3 : ((j : Int) == 3) = false := by simp; omega
    have e4 : ((j : Int) == 4) = false := by simp; omega
    have e5 : ((j : Int) == 5) = true := by rw [hj0]; rfl
    have e10 : ((j : Int) == 10) = false := by simp; omega
    have HJ := Lib.hid hj0
    by_cases hy0 : x < rules
    · have t1 : decide (rules ≤ x) = false := by simp; omega
      have HY0 := Lib.hid hy0
      clear hy0 hj0
      go_enter Try.func39, Try.ntmps39
      go_wp2
      go_ret
      refine ⟨ret_i ?_, rfl⟩
      have h1 := HX.out
      have h2 := HY0.out
      have h3 := HJ.out
      subst h3
      unfold fltZ
      simp only [← h1]
      simp; omega
    · have t1 : decide (rules ≤ x) = true := by simp; omega
      have HY0 := Lib.hid hy0
      clear hy0 hj0
      go_enter Try.func39, Try.ntmps39
      go_wp2
      go_ret
      refine ⟨ret_i ?_, rfl⟩
      have h1 := HX.out
      have h2 := HY0.out
      have h3 := HJ.out
      subst h3
      unfold fltZ
      simp only [← h1]
      simp; omega
  by_cases hj0 : j = 10
  · have e0 : ((j : Int) == 0) = false := by simp; omega
    have e1 : ((j : Int) == 1) = false := by simp; omega
    have e2 : ((j : Int) == 2) = false := by simp; omega
    have e3 : ((j : Int) == 3) = false := by simp; omega
    have e4 : ((j : Int) == 4) = false := by simp; omega
    have e5 : ((j : Int) == 5) = false := by simp; omega
    have e10 : ((j : Int) == 10) = true := by rw [hj0]; rfl
    obtain ⟨y, hy⟩ : ∃ y, y = z.getD 3 0 := ⟨_, rfl⟩
    have c3 := HC.out 3 (by omega)
    have b3 := HB3.out (by omega)
    rw [← hy] at c3 b3
    have HY := Lib.hid hy
    have g4 : (4 : Int) ≤ (j : Int) := by omega
    have g5 : 4 ≤ j := by omega
    clear hy
    have HJ := Lib.hid hj0
    by_cases hy0 : x = y - 7
    · have t1 : (x != y - 7) = false := by simpa using hy0
      have HY0 := Lib.hid hy0
      clear hy0 hj0
      go_enter Try.func39, Try.ntmps39
      go_wp2
      go_ret
      refine ⟨ret_i ?_, rfl⟩
      have h1 := HX.out
      have h2 := HY0.out
      have h3 := HJ.out
      have h4 := HY.out
      subst h3
      unfold fltZ
      simp only [← h1, ← h4]
      simp; omega
    · have t1 : (x != y - 7) = true := by simpa using hy0
      have HY0 := Lib.hid hy0
      clear hy0 hj0
      go_enter Try.func39, Try.ntmps39
      go_wp2
      go_ret
      refine ⟨ret_i ?_, rfl⟩
      have h1 := HX.out
      have h2 := HY0.out
      have h3 := HJ.out
      have h4 := HY.out
      subst h3
      unfold fltZ
      simp only [← h1, ← h4]
      simp; omega
  have e0 : ((j : Int) == 0) = false := by simp; omega
  have e1 : ((j : Int) == 1) = false := by simp; omega
  have e2 : ((j : Int) == 2) = false := by simp; omega
  have e3 : ((j : Int) == 3) = false := by simp; omega
  have e4 : ((j : Int) == 4) = false := by simp; omega
  have e5 : ((j : Int) == 5) = false := by simp; omega
  have e10 : ((j : Int) == 10) = false := by simp; omega
  have HF := Lib.hid (show fltZ z rules j = 0 from by unfold fltZ; simp; omega)
  go_enter Try.func39, Try.ntmps39
  go_wp2
  go_ret
  exact ⟨ret_i HF.out.symm, rfl⟩
end Go.Proofs.Ytaghookljjpllaa
