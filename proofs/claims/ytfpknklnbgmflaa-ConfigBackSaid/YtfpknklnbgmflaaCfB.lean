/- The contracts of layer 17 (config): RuleRight, and the document's. -/
import Derived.Test.YtfpknklnbgmflaaCfA
namespace Go.Proofs.Ytfpknklnbgmflaa
set_option linter.unusedSimpArgs false
set_option linter.unusedVariables false
open Go.ChangeShapes Go.WideShapes Go.ChangeAt Go.RowKit
open Ar (inR)
set_option maxHeartbeats 1000000 in
theorem unit_any (L W B Sl Ce Ro Wi Tr : Int) (sm : Bool) (hL : 1 ≤ L ∧ L ≤ 2147483648) (hW : 1 ≤ W ∧ W ≤ 1099511627776) (hB : 1 ≤ B ∧ B ≤ L) (w : World) :
    Calls Try.prog 22 #[ruV L W B Sl Ce Ro Wi Tr sm] w fun e w' => e = .returned (.int .i64 (unitZ W (L + 1 - B))) ∧ Below w.heap.size w w' := by
  obtain ⟨n, hn⟩ : ∃ n, n = L + 1 - B := ⟨_, rfl⟩
  have e1 : L + 1 - B = n := hn.symm
  have hn1 : 1 ≤ n ∧ n ≤ 2147483648 := by omega
  rw [← hn]
  obtain ⟨q, hq⟩ : ∃ q, q = W / n := ⟨_, rfl⟩
  have e2 : W / n = q := hq.symm
  have hq1 : 0 ≤ q ∧ q ≤ W := by rw [hq]; exact ⟨Int.ediv_nonneg (by omega) (by omega), Int.ediv_le_self _ (by omega)⟩
  obtain ⟨p, hp⟩ : ∃ p, p = q * n := ⟨_, rfl⟩
  have e3 : q * n = p := hp.symm
  have hdm := Int.mul_ediv_add_emod W n
  have hm0 := Int.emod_nonneg W (show n ≠ 0 by omega)
  have hm1 := Int.emod_lt_of_pos W (show 0 < n by omega)
  rw [← hq, Int.mul_comm, ← hp] at hdm
  have hp1 : 0 ≤ p ∧ p ≤ W := by
    refine ⟨?_, by omega⟩
    rw [hp]
    exact Int.mul_nonneg hq1.1 (by omega)
  have nn : ¬ n = 0 := by omega
  have HU := Lib.hid (show unitZ W n = if p < W then q + 1 else q from by
    unfold unitZ
    rw [if_neg (by omega), ← hq]
    by_cases h : W % n = 0
    · rw [if_pos h, if_neg (by omega)]
    · rw [if_neg h, if_pos (by omega)])
  have eL : wrap64 (L + 1) = L + 1 := by unfold wrap64; omega
  clear hn hq hp hdm hm0 hm1
  go_enter Try.func22, Try.ntmps22
  go_wp2
  all_goals
    go_ret
    refine ⟨ret_i ?_, (Below.refl _ _).alloc (Nat.le_refl _) _⟩
    rw [HU.out]
    first | (rw [if_pos (by omega)]; try omega) | (rw [if_neg (by omega)]; try exact e2)
set_option maxHeartbeats 8000000 in
set_option maxRecDepth 100000 in
theorem rr_any (L W B Sl Ce Ro Wi Tr : Int) (sm : Bool) (w : World) :
    (ruleP L W B Sl Ce Ro Wi Tr sm → Calls Try.prog 10 #[ruV L W B Sl Ce Ro Wi Tr sm] w fun e w' => e = .returned (.bool true) ∧ Below w.heap.size w w') ∧
    (¬ ruleP L W B Sl Ce Ro Wi Tr sm → Calls Try.prog 10 #[ruV L W B Sl Ce Ro Wi Tr sm] w fun e w' => e = .returned (.bool false) ∧ Below w.heap.size w w') := by
  by_cases p0 : ¬ (1 ≤ L ∧ L ≤ 2147483648)
  · refine ⟨fun h => absurd h (fun ⟨h1, h2, h3, h4, h5, h6, h7, h8, h9, h10, h11⟩ => p0 h1), fun _ => ?_⟩
    have C0 := Lib.hid (fun w => within_no L 2147483648 p0 w)
    clear p0
    go_enter Try.func10, Try.ntmps10
    go_upto_region 1 with (fail)
    obtain ⟨w1, hw1, hbk, hbl, hsz1⟩ := box_new w (ruC L W B Sl Ce Ro Wi Tr sm) 23
    change Code.wp _ _ _ _ (w.alloc (.cells (ruC L W B Sl Ce Ro Wi Tr sm) 23))
    rw [hw1]
    obtain ⟨b0, hb0⟩ : ∃ b0, b0 = w.heap.size := ⟨_, rfl⟩
    rw [← hb0] at hbk ⊢
    have k0 := hbk.rd
    have BK := Lib.hid hbk
    have BL := Lib.hid hbl
    clear hbk hbl hsz1 hw1 hb0
    go_wp2_with (first
      | (go_at_call 23; ((with_reducible refine (C0.out _).mono ?_); rintro e w' ⟨rfl, rfl⟩)))
    go_ret
    exact ⟨rfl, BL.out⟩
  have q0 := Classical.not_not.1 p0
  clear p0
  have C0 := Lib.hid (fun w => within_yes L 2147483648 q0 w)
  by_cases p1 : ¬ (1 ≤ W ∧ W ≤ 1099511627776)
  · refine ⟨fun h => absurd h (fun ⟨h1, h2, h3, h4, h5, h6, h7, h8, h9, h10, h11⟩ => p1 h2), fun _ => ?_⟩
    have C1 := Lib.hid (fun w => within_no W 1099511627776 p1 w)
    clear p1
    go_enter Try.func10, Try.ntmps10
    go_upto_region 1 with (fail)
    obtain ⟨w1, hw1, hbk, hbl, hsz1⟩ := box_new w (ruC L W B Sl Ce Ro Wi Tr sm) 23
    change Code.wp _ _ _ _ (w.alloc (.cells (ruC L W B Sl Ce Ro Wi Tr sm) 23))
    rw [hw1]
    obtain ⟨b0, hb0⟩ : ∃ b0, b0 = w.heap.size := ⟨_, rfl⟩
    rw [← hb0] at hbk ⊢
    have k0 := hbk.rd
    have BK := Lib.hid hbk
    have BL := Lib.hid hbl
    clear hbk hbl hsz1 hw1 hb0
    go_wp2_with (first
      | (go_at_call 23; ((with_reducible refine (C0.out _).mono ?_); rintro e w' ⟨rfl, rfl⟩))
      | (go_at_call 23; ((with_reducible refine (C1.out _).mono ?_); rintro e w' ⟨rfl, rfl⟩)))
    go_ret
    exact ⟨rfl, BL.out⟩
  have q1 := Classical.not_not.1 p1
  clear p1
  have C1 := Lib.hid (fun w => within_yes W 1099511627776 q1 w)
  by_cases p2 : ¬ (1 ≤ B ∧ B ≤ L)
  · refine ⟨fun h => absurd h (fun ⟨h1, h2, h3, h4, h5, h6, h7, h8, h9, h10, h11⟩ => p2 h3), fun _ => ?_⟩
    have C2 := Lib.hid (fun w => within_no B L p2 w)
    clear p2
    go_enter Try.func10, Try.ntmps10
    go_upto_region 1 with (fail)
    obtain ⟨w1, hw1, hbk, hbl, hsz1⟩ := box_new w (ruC L W B Sl Ce Ro Wi Tr sm) 23
    change Code.wp _ _ _ _ (w.alloc (.cells (ruC L W B Sl Ce Ro Wi Tr sm) 23))
    rw [hw1]
    obtain ⟨b0, hb0⟩ : ∃ b0, b0 = w.heap.size := ⟨_, rfl⟩
    rw [← hb0] at hbk ⊢
    have k0 := hbk.rd
    have BK := Lib.hid hbk
    have BL := Lib.hid hbl
    clear hbk hbl hsz1 hw1 hb0
    go_wp2_with (first
      | (go_at_call 23; ((with_reducible refine (C0.out _).mono ?_); rintro e w' ⟨rfl, rfl⟩))
      | (go_at_call 23; ((with_reducible refine (C1.out _).mono ?_); rintro e w' ⟨rfl, rfl⟩))
      | (go_at_call 23; ((with_reducible refine (C2.out _).mono ?_); rintro e w' ⟨rfl, rfl⟩)))
    go_ret
    exact ⟨rfl, BL.out⟩
  have q2 := Classical.not_not.1 p2
  clear p2
  have C2 := Lib.hid (fun w => within_yes B L q2 w)
  by_cases p3 : ¬ (1 ≤ Sl ∧ Sl ≤ 64)
  · refine ⟨fun h => absurd h (fun ⟨h1, h2, h3, h4, h5, h6, h7, h8, h9, h10, h11⟩ => p3 h4), fun _ => ?_⟩
    have C3 := Lib.hid (fun w => within_no Sl 64 p3 w)
    clear p3
    go_enter Try.func10, Try.ntmps10
    go_upto_region 1 with (fail)
    obtain ⟨w1, hw1, hbk, hbl, hsz1⟩ := box_new w (ruC L W B Sl Ce Ro Wi Tr sm) 23
    change Code.wp _ _ _ _ (w.alloc (.cells (ruC L W B Sl Ce Ro Wi Tr sm) 23))
    rw [hw1]
    obtain ⟨b0, hb0⟩ : ∃ b0, b0 = w.heap.size := ⟨_, rfl⟩
    rw [← hb0] at hbk ⊢
    have k0 := hbk.rd
    have BK := Lib.hid hbk
    have BL := Lib.hid hbl
    clear hbk hbl hsz1 hw1 hb0
    go_wp2_with (first
      | (go_at_call 23; ((with_reducible refine (C0.out _).mono ?_); rintro e w' ⟨rfl, rfl⟩))
      | (go_at_call 23; ((with_reducible refine (C1.out _).mono ?_); rintro e w' ⟨rfl, rfl⟩))
      | (go_at_call 23; ((with_reducible refine (C2.out _).mono ?_); rintro e w' ⟨rfl, rfl⟩))
      | (go_at_call 23; ((with_reducible refine (C3.out _).mono ?_); rintro e w' ⟨rfl, rfl⟩)))
    go_ret
    exact ⟨rfl, BL.out⟩
  have q3 := Classical.not_not.1 p3
  clear p3
  have C3 := Lib.hid (fun w => within_yes Sl 64 q3 w)
  have hsl0 : ¬ Sl = 0 := by omega
  have em : W.tmod Sl = W % Sl := Int.tmod_eq_emod_of_nonneg (by omega)
  have hsl1 : 1 ≤ Sl := q3.1
  have hw0 : 0 ≤ W := by omega
  by_cases p4 : ¬ (W % Sl = 0)
  · refine ⟨fun h => absurd h (fun ⟨h1, h2, h3, h4, h5, h6, h7, h8, h9, h10, h11⟩ => p4 h5), fun _ => ?_⟩
    have tm : (W % Sl == 0) = false := by simpa using p4
    clear p4
    go_enter Try.func10, Try.ntmps10
    go_upto_region 1 with (fail)
    obtain ⟨w1, hw1, hbk, hbl, hsz1⟩ := box_new w (ruC L W B Sl Ce Ro Wi Tr sm) 23
    change Code.wp _ _ _ _ (w.alloc (.cells (ruC L W B Sl Ce Ro Wi Tr sm) 23))
    rw [hw1]
    obtain ⟨b0, hb0⟩ : ∃ b0, b0 = w.heap.size := ⟨_, rfl⟩
    rw [← hb0] at hbk ⊢
    have k0 := hbk.rd
    have BK := Lib.hid hbk
    have BL := Lib.hid hbl
    clear hbk hbl hsz1 hw1 hb0
    go_wp2_with (first
      | (go_at_call 23; ((with_reducible refine (C0.out _).mono ?_); rintro e w' ⟨rfl, rfl⟩))
      | (go_at_call 23; ((with_reducible refine (C1.out _).mono ?_); rintro e w' ⟨rfl, rfl⟩))
      | (go_at_call 23; ((with_reducible refine (C2.out _).mono ?_); rintro e w' ⟨rfl, rfl⟩))
      | (go_at_call 23; ((with_reducible refine (C3.out _).mono ?_); rintro e w' ⟨rfl, rfl⟩)))
    go_ret
    exact ⟨rfl, BL.out⟩
  have q4 := Classical.not_not.1 p4
  clear p4
  have tm : (W % Sl == 0) = true := by simpa using q4
  have Q4 := Lib.hid q4
  clear q4
  by_cases p5 : ¬ (1 ≤ Ce ∧ Ce ≤ 1024)
  · refine ⟨fun h => absurd h (fun ⟨h1, h2, h3, h4, h5, h6, h7, h8, h9, h10, h11⟩ => p5 h6), fun _ => ?_⟩
    have C5 := Lib.hid (fun w => within_no Ce 1024 p5 w)
    clear p5
    go_enter Try.func10, Try.ntmps10
    go_upto_region 1 with (fail)
    obtain ⟨w1, hw1, hbk, hbl, hsz1⟩ := box_new w (ruC L W B Sl Ce Ro Wi Tr sm) 23
    change Code.wp _ _ _ _ (w.alloc (.cells (ruC L W B Sl Ce Ro Wi Tr sm) 23))
    rw [hw1]
    obtain ⟨b0, hb0⟩ : ∃ b0, b0 = w.heap.size := ⟨_, rfl⟩
    rw [← hb0] at hbk ⊢
    have k0 := hbk.rd
    have BK := Lib.hid hbk
    have BL := Lib.hid hbl
    clear hbk hbl hsz1 hw1 hb0
    go_wp2_with (first
      | (go_at_call 23; ((with_reducible refine (C0.out _).mono ?_); rintro e w' ⟨rfl, rfl⟩))
      | (go_at_call 23; ((with_reducible refine (C1.out _).mono ?_); rintro e w' ⟨rfl, rfl⟩))
      | (go_at_call 23; ((with_reducible refine (C2.out _).mono ?_); rintro e w' ⟨rfl, rfl⟩))
      | (go_at_call 23; ((with_reducible refine (C3.out _).mono ?_); rintro e w' ⟨rfl, rfl⟩))
      | (go_at_call 23; ((with_reducible refine (C5.out _).mono ?_); rintro e w' ⟨rfl, rfl⟩)))
    go_ret
    exact ⟨rfl, BL.out⟩
  have q5 := Classical.not_not.1 p5
  clear p5
  have C5 := Lib.hid (fun w => within_yes Ce 1024 q5 w)
  by_cases p6 : ¬ (1 ≤ Ro ∧ Ro ≤ 8)
  · refine ⟨fun h => absurd h (fun ⟨h1, h2, h3, h4, h5, h6, h7, h8, h9, h10, h11⟩ => p6 h7), fun _ => ?_⟩
    have C6 := Lib.hid (fun w => within_no Ro 8 p6 w)
    clear p6
    go_enter Try.func10, Try.ntmps10
    go_upto_region 1 with (fail)
    obtain ⟨w1, hw1, hbk, hbl, hsz1⟩ := box_new w (ruC L W B Sl Ce Ro Wi Tr sm) 23
    change Code.wp _ _ _ _ (w.alloc (.cells (ruC L W B Sl Ce Ro Wi Tr sm) 23))
    rw [hw1]
    obtain ⟨b0, hb0⟩ : ∃ b0, b0 = w.heap.size := ⟨_, rfl⟩
    rw [← hb0] at hbk ⊢
    have k0 := hbk.rd
    have BK := Lib.hid hbk
    have BL := Lib.hid hbl
    clear hbk hbl hsz1 hw1 hb0
    go_wp2_with (first
      | (go_at_call 23; ((with_reducible refine (C0.out _).mono ?_); rintro e w' ⟨rfl, rfl⟩))
      | (go_at_call 23; ((with_reducible refine (C1.out _).mono ?_); rintro e w' ⟨rfl, rfl⟩))
      | (go_at_call 23; ((with_reducible refine (C2.out _).mono ?_); rintro e w' ⟨rfl, rfl⟩))
      | (go_at_call 23; ((with_reducible refine (C3.out _).mono ?_); rintro e w' ⟨rfl, rfl⟩))
      | (go_at_call 23; ((with_reducible refine (C5.out _).mono ?_); rintro e w' ⟨rfl, rfl⟩))
      | (go_at_call 23; ((with_reducible refine (C6.out _).mono ?_); rintro e w' ⟨rfl, rfl⟩)))
    go_ret
    exact ⟨rfl, BL.out⟩
  have q6 := Classical.not_not.1 p6
  clear p6
  have C6 := Lib.hid (fun w => within_yes Ro 8 q6 w)
  by_cases p7 : ¬ (1 ≤ Wi ∧ Wi ≤ 4096)
  · refine ⟨fun h => absurd h (fun ⟨h1, h2, h3, h4, h5, h6, h7, h8, h9, h10, h11⟩ => p7 h8), fun _ => ?_⟩
    have C7 := Lib.hid (fun w => within_no Wi 4096 p7 w)
    clear p7
    go_enter Try.func10, Try.ntmps10
    go_upto_region 1 with (fail)
    obtain ⟨w1, hw1, hbk, hbl, hsz1⟩ := box_new w (ruC L W B Sl Ce Ro Wi Tr sm) 23
    change Code.wp _ _ _ _ (w.alloc (.cells (ruC L W B Sl Ce Ro Wi Tr sm) 23))
    rw [hw1]
    obtain ⟨b0, hb0⟩ : ∃ b0, b0 = w.heap.size := ⟨_, rfl⟩
    rw [← hb0] at hbk ⊢
    have k0 := hbk.rd
    have BK := Lib.hid hbk
    have BL := Lib.hid hbl
    clear hbk hbl hsz1 hw1 hb0
    go_wp2_with (first
      | (go_at_call 23; ((with_reducible refine (C0.out _).mono ?_); rintro e w' ⟨rfl, rfl⟩))
      | (go_at_call 23; ((with_reducible refine (C1.out _).mono ?_); rintro e w' ⟨rfl, rfl⟩))
      | (go_at_call 23; ((with_reducible refine (C2.out _).mono ?_); rintro e w' ⟨rfl, rfl⟩))
      | (go_at_call 23; ((with_reducible refine (C3.out _).mono ?_); rintro e w' ⟨rfl, rfl⟩))
      | (go_at_call 23; ((with_reducible refine (C5.out _).mono ?_); rintro e w' ⟨rfl, rfl⟩))
      | (go_at_call 23; ((with_reducible refine (C6.out _).mono ?_); rintro e w' ⟨rfl, rfl⟩))
      | (go_at_call 23; ((with_reducible refine (C7.out _).mono ?_); rintro e w' ⟨rfl, rfl⟩)))
    go_ret
    exact ⟨rfl, BL.out⟩
  have q7 := Classical.not_not.1 p7
  clear p7
  have C7 := Lib.hid (fun w => within_yes Wi 4096 q7 w)
  by_cases p8 : ¬ (1 ≤ Tr ∧ Tr ≤ 64)
  · refine ⟨fun h => absurd h (fun ⟨h1, h2, h3, h4, h5, h6, h7, h8, h9, h10, h11⟩ => p8 h9), fun _ => ?_⟩
    have C8 := Lib.hid (fun w => within_no Tr 64 p8 w)
    clear p8
    go_enter Try.func10, Try.ntmps10
    go_upto_region 1 with (fail)
    obtain ⟨w1, hw1, hbk, hbl, hsz1⟩ := box_new w (ruC L W B Sl Ce Ro Wi Tr sm) 23
    change Code.wp _ _ _ _ (w.alloc (.cells (ruC L W B Sl Ce Ro Wi Tr sm) 23))
    rw [hw1]
    obtain ⟨b0, hb0⟩ : ∃ b0, b0 = w.heap.size := ⟨_, rfl⟩
    rw [← hb0] at hbk ⊢
    have k0 := hbk.rd
    have BK := Lib.hid hbk
    have BL := Lib.hid hbl
    clear hbk hbl hsz1 hw1 hb0
    go_wp2_with (first
      | (go_at_call 23; ((with_reducible refine (C0.out _).mono ?_); rintro e w' ⟨rfl, rfl⟩))
      | (go_at_call 23; ((with_reducible refine (C1.out _).mono ?_); rintro e w' ⟨rfl, rfl⟩))
      | (go_at_call 23; ((with_reducible refine (C2.out _).mono ?_); rintro e w' ⟨rfl, rfl⟩))
      | (go_at_call 23; ((with_reducible refine (C3.out _).mono ?_); rintro e w' ⟨rfl, rfl⟩))
      | (go_at_call 23; ((with_reducible refine (C5.out _).mono ?_); rintro e w' ⟨rfl, rfl⟩))
      | (go_at_call 23; ((with_reducible refine (C6.out _).mono ?_); rintro e w' ⟨rfl, rfl⟩))
      | (go_at_call 23; ((with_reducible refine (C7.out _).mono ?_); rintro e w' ⟨rfl, rfl⟩))
      | (go_at_call 23; ((with_reducible refine (C8.out _).mono ?_); rintro e w' ⟨rfl, rfl⟩)))
    go_ret
    exact ⟨rfl, BL.out⟩
  have q8 := Classical.not_not.1 p8
  clear p8
  have C8 := Lib.hid (fun w => within_yes Tr 64 q8 w)
  by_cases p9 : ¬ (2 ≤ Sl ∨ sm = false)
  · refine ⟨fun h => absurd h (fun ⟨h1, h2, h3, h4, h5, h6, h7, h8, h9, h10, h11⟩ => p9 h10), fun _ => ?_⟩
    have t2 : decide (2 ≤ Sl) = false := by simp; omega
    have hs : sm = true := by cases sm; exact absurd (Or.inr rfl) p9; rfl
    subst hs
    clear p9
    go_enter Try.func10, Try.ntmps10
    go_upto_region 1 with (fail)
    obtain ⟨w1, hw1, hbk, hbl, hsz1⟩ := box_new w (ruC L W B Sl Ce Ro Wi Tr true) 23
    change Code.wp _ _ _ _ (w.alloc (.cells (ruC L W B Sl Ce Ro Wi Tr true) 23))
    rw [hw1]
    obtain ⟨b0, hb0⟩ : ∃ b0, b0 = w.heap.size := ⟨_, rfl⟩
    rw [← hb0] at hbk ⊢
    have k0 := hbk.rd
    have BK := Lib.hid hbk
    have BL := Lib.hid hbl
    clear hbk hbl hsz1 hw1 hb0
    go_wp2_with (first
      | (go_at_call 23; ((with_reducible refine (C0.out _).mono ?_); rintro e w' ⟨rfl, rfl⟩))
      | (go_at_call 23; ((with_reducible refine (C1.out _).mono ?_); rintro e w' ⟨rfl, rfl⟩))
      | (go_at_call 23; ((with_reducible refine (C2.out _).mono ?_); rintro e w' ⟨rfl, rfl⟩))
      | (go_at_call 23; ((with_reducible refine (C3.out _).mono ?_); rintro e w' ⟨rfl, rfl⟩))
      | (go_at_call 23; ((with_reducible refine (C5.out _).mono ?_); rintro e w' ⟨rfl, rfl⟩))
      | (go_at_call 23; ((with_reducible refine (C6.out _).mono ?_); rintro e w' ⟨rfl, rfl⟩))
      | (go_at_call 23; ((with_reducible refine (C7.out _).mono ?_); rintro e w' ⟨rfl, rfl⟩))
      | (go_at_call 23; ((with_reducible refine (C8.out _).mono ?_); rintro e w' ⟨rfl, rfl⟩)))
    go_ret
    exact ⟨rfl, BL.out⟩
  have q9 := Classical.not_not.1 p9
  clear p9
  have Q9 := Lib.hid q9
  have CP0 := Lib.hid (fun w => paced_any L W B Sl Ce Ro Wi Tr sm q0 q1 q2 w)
  by_cases p10 : unitZ W (L + 1 - B) ≤ 1152921504606846976 / B
  · refine ⟨fun _ => ?_, fun h => absurd ⟨q0, q1, q2, q3, Q4.out, q5, q6, q7, q8, q9, p10⟩ h⟩
    have CP := CP0
    rw [decide_eq_true p10] at CP
    clear CP0 p10 q0 q1 q2 q3 q5 q6 q7 q8 q9
    rcases Q9.out with h2 | h2
    · have t2 : decide (2 ≤ Sl) = true := by simpa using h2
      clear h2
      go_enter Try.func10, Try.ntmps10
      go_upto_region 1 with (fail)
      obtain ⟨w1, hw1, hbk, hbl, hsz1⟩ := box_new w (ruC L W B Sl Ce Ro Wi Tr sm) 23
      change Code.wp _ _ _ _ (w.alloc (.cells (ruC L W B Sl Ce Ro Wi Tr sm) 23))
      rw [hw1]
      obtain ⟨b0, hb0⟩ : ∃ b0, b0 = w.heap.size := ⟨_, rfl⟩
      rw [← hb0] at hbk ⊢
      have k0 := hbk.rd
      have BK := Lib.hid hbk
      have BL := Lib.hid hbl
      clear hbk hbl hsz1 hw1 hb0
      go_wp2_with (first
      | (go_at_call 23; ((with_reducible refine (C0.out _).mono ?_); rintro e w' ⟨rfl, rfl⟩))
      | (go_at_call 23; ((with_reducible refine (C1.out _).mono ?_); rintro e w' ⟨rfl, rfl⟩))
      | (go_at_call 23; ((with_reducible refine (C2.out _).mono ?_); rintro e w' ⟨rfl, rfl⟩))
      | (go_at_call 23; ((with_reducible refine (C3.out _).mono ?_); rintro e w' ⟨rfl, rfl⟩))
      | (go_at_call 23; ((with_reducible refine (C5.out _).mono ?_); rintro e w' ⟨rfl, rfl⟩))
      | (go_at_call 23; ((with_reducible refine (C6.out _).mono ?_); rintro e w' ⟨rfl, rfl⟩))
      | (go_at_call 23; ((with_reducible refine (C7.out _).mono ?_); rintro e w' ⟨rfl, rfl⟩))
      | (go_at_call 23; ((with_reducible refine (C8.out _).mono ?_); rintro e w' ⟨rfl, rfl⟩))
      | (go_at_call 24; ((with_reducible refine (CP.out _).mono ?_); rintro e w2 ⟨rfl, b2⟩; have B2 := Lib.hid (BL.out.trans (b2.mono BL.out.size)); clear b2)))
      go_ret
      exact ⟨rfl, B2.out⟩
    · by_cases h3 : 2 ≤ Sl
      · have t2 : decide (2 ≤ Sl) = true := by simpa using h3
        clear h3 h2
        go_enter Try.func10, Try.ntmps10
        go_upto_region 1 with (fail)
        obtain ⟨w1, hw1, hbk, hbl, hsz1⟩ := box_new w (ruC L W B Sl Ce Ro Wi Tr sm) 23
        change Code.wp _ _ _ _ (w.alloc (.cells (ruC L W B Sl Ce Ro Wi Tr sm) 23))
        rw [hw1]
        obtain ⟨b0, hb0⟩ : ∃ b0, b0 = w.heap.size := ⟨_, rfl⟩
        rw [← hb0] at hbk ⊢
        have k0 := hbk.rd
        have BK := Lib.hid hbk
        have BL := Lib.hid hbl
        clear hbk hbl hsz1 hw1 hb0
        go_wp2_with (first
      | (go_at_call 23; ((with_reducible refine (C0.out _).mono ?_); rintro e w' ⟨rfl, rfl⟩))
      | (go_at_call 23; ((with_reducible refine (C1.out _).mono ?_); rintro e w' ⟨rfl, rfl⟩))
      | (go_at_call 23; ((with_reducible refine (C2.out _).mono ?_); rintro e w' ⟨rfl, rfl⟩))
      | (go_at_call 23; ((with_reducible refine (C3.out _).mono ?_); rintro e w' ⟨rfl, rfl⟩))
      | (go_at_call 23; ((with_reducible refine (C5.out _).mono ?_); rintro e w' ⟨rfl, rfl⟩))
      | (go_at_call 23; ((with_reducible refine (C6.out _).mono ?_); rintro e w' ⟨rfl, rfl⟩))
      | (go_at_call 23; ((with_reducible refine (C7.out _).mono ?_); rintro e w' ⟨rfl, rfl⟩))
      | (go_at_call 23; ((with_reducible refine (C8.out _).mono ?_); rintro e w' ⟨rfl, rfl⟩))
      | (go_at_call 24; ((with_reducible refine (CP.out _).mono ?_); rintro e w2 ⟨rfl, b2⟩; have B2 := Lib.hid (BL.out.trans (b2.mono BL.out.size)); clear b2)))
        go_ret
        exact ⟨rfl, B2.out⟩
      · have t2 : decide (2 ≤ Sl) = false := by simpa using h3
        subst h2
        clear h3
        go_enter Try.func10, Try.ntmps10
        go_upto_region 1 with (fail)
        obtain ⟨w1, hw1, hbk, hbl, hsz1⟩ := box_new w (ruC L W B Sl Ce Ro Wi Tr false) 23
        change Code.wp _ _ _ _ (w.alloc (.cells (ruC L W B Sl Ce Ro Wi Tr false) 23))
        rw [hw1]
        obtain ⟨b0, hb0⟩ : ∃ b0, b0 = w.heap.size := ⟨_, rfl⟩
        rw [← hb0] at hbk ⊢
        have k0 := hbk.rd
        have BK := Lib.hid hbk
        have BL := Lib.hid hbl
        clear hbk hbl hsz1 hw1 hb0
        go_wp2_with (first
      | (go_at_call 23; ((with_reducible refine (C0.out _).mono ?_); rintro e w' ⟨rfl, rfl⟩))
      | (go_at_call 23; ((with_reducible refine (C1.out _).mono ?_); rintro e w' ⟨rfl, rfl⟩))
      | (go_at_call 23; ((with_reducible refine (C2.out _).mono ?_); rintro e w' ⟨rfl, rfl⟩))
      | (go_at_call 23; ((with_reducible refine (C3.out _).mono ?_); rintro e w' ⟨rfl, rfl⟩))
      | (go_at_call 23; ((with_reducible refine (C5.out _).mono ?_); rintro e w' ⟨rfl, rfl⟩))
      | (go_at_call 23; ((with_reducible refine (C6.out _).mono ?_); rintro e w' ⟨rfl, rfl⟩))
      | (go_at_call 23; ((with_reducible refine (C7.out _).mono ?_); rintro e w' ⟨rfl, rfl⟩))
      | (go_at_call 23; ((with_reducible refine (C8.out _).mono ?_); rintro e w' ⟨rfl, rfl⟩))
      | (go_at_call 24; ((with_reducible refine (CP.out _).mono ?_); rintro e w2 ⟨rfl, b2⟩; have B2 := Lib.hid (BL.out.trans (b2.mono BL.out.size)); clear b2)))
        go_ret
        exact ⟨rfl, B2.out⟩
  · refine ⟨fun h => absurd h (fun ⟨h1, h2, h3, h4, h5, h6, h7, h8, h9, h10, h11⟩ => p10 h11), fun _ => ?_⟩
    have CP := CP0
    rw [decide_eq_false p10] at CP
    clear CP0 p10 q0 q1 q2 q3 q5 q6 q7 q8 q9
    rcases Q9.out with h2 | h2
    · have t2 : decide (2 ≤ Sl) = true := by simpa using h2
      clear h2
      go_enter Try.func10, Try.ntmps10
      go_upto_region 1 with (fail)
      obtain ⟨w1, hw1, hbk, hbl, hsz1⟩ := box_new w (ruC L W B Sl Ce Ro Wi Tr sm) 23
      change Code.wp _ _ _ _ (w.alloc (.cells (ruC L W B Sl Ce Ro Wi Tr sm) 23))
      rw [hw1]
      obtain ⟨b0, hb0⟩ : ∃ b0, b0 = w.heap.size := ⟨_, rfl⟩
      rw [← hb0] at hbk ⊢
      have k0 := hbk.rd
      have BK := Lib.hid hbk
      have BL := Lib.hid hbl
      clear hbk hbl hsz1 hw1 hb0
      go_wp2_with (first
      | (go_at_call 23; ((with_reducible refine (C0.out _).mono ?_); rintro e w' ⟨rfl, rfl⟩))
      | (go_at_call 23; ((with_reducible refine (C1.out _).mono ?_); rintro e w' ⟨rfl, rfl⟩))
      | (go_at_call 23; ((with_reducible refine (C2.out _).mono ?_); rintro e w' ⟨rfl, rfl⟩))
      | (go_at_call 23; ((with_reducible refine (C3.out _).mono ?_); rintro e w' ⟨rfl, rfl⟩))
      | (go_at_call 23; ((with_reducible refine (C5.out _).mono ?_); rintro e w' ⟨rfl, rfl⟩))
      | (go_at_call 23; ((with_reducible refine (C6.out _).mono ?_); rintro e w' ⟨rfl, rfl⟩))
      | (go_at_call 23; ((with_reducible refine (C7.out _).mono ?_); rintro e w' ⟨rfl, rfl⟩))
      | (go_at_call 23; ((with_reducible refine (C8.out _).mono ?_); rintro e w' ⟨rfl, rfl⟩))
      | (go_at_call 24; ((with_reducible refine (CP.out _).mono ?_); rintro e w2 ⟨rfl, b2⟩; have B2 := Lib.hid (BL.out.trans (b2.mono BL.out.size)); clear b2)))
      go_ret
      exact ⟨rfl, B2.out⟩
    · by_cases h3 : 2 ≤ Sl
      · have t2 : decide (2 ≤ Sl) = true := by simpa using h3
        clear h3 h2
        go_enter Try.func10, Try.ntmps10
        go_upto_region 1 with (fail)
        obtain ⟨w1, hw1, hbk, hbl, hsz1⟩ := box_new w (ruC L W B Sl Ce Ro Wi Tr sm) 23
        change Code.wp _ _ _ _ (w.alloc (.cells (ruC L W B Sl Ce Ro Wi Tr sm) 23))
        rw [hw1]
        obtain ⟨b0, hb0⟩ : ∃ b0, b0 = w.heap.size := ⟨_, rfl⟩
        rw [← hb0] at hbk ⊢
        have k0 := hbk.rd
        have BK := Lib.hid hbk
        have BL := Lib.hid hbl
        clear hbk hbl hsz1 hw1 hb0
        go_wp2_with (first
      | (go_at_call 23; ((with_reducible refine (C0.out _).mono ?_); rintro e w' ⟨rfl, rfl⟩))
      | (go_at_call 23; ((with_reducible refine (C1.out _).mono ?_); rintro e w' ⟨rfl, rfl⟩))
      | (go_at_call 23; ((with_reducible refine (C2.out _).mono ?_); rintro e w' ⟨rfl, rfl⟩))
      | (go_at_call 23; ((with_reducible refine (C3.out _).mono ?_); rintro e w' ⟨rfl, rfl⟩))
      | (go_at_call 23; ((with_reducible refine (C5.out _).mono ?_); rintro e w' ⟨rfl, rfl⟩))
      | (go_at_call 23; ((with_reducible refine (C6.out _).mono ?_); rintro e w' ⟨rfl, rfl⟩))
      | (go_at_call 23; ((with_reducible refine (C7.out _).mono ?_); rintro e w' ⟨rfl, rfl⟩))
      | (go_at_call 23; ((with_reducible refine (C8.out _).mono ?_); rintro e w' ⟨rfl, rfl⟩))
      | (go_at_call 24; ((with_reducible refine (CP.out _).mono ?_); rintro e w2 ⟨rfl, b2⟩; have B2 := Lib.hid (BL.out.trans (b2.mono BL.out.size)); clear b2)))
        go_ret
        exact ⟨rfl, B2.out⟩
      · have t2 : decide (2 ≤ Sl) = false := by simpa using h3
        subst h2
        clear h3
        go_enter Try.func10, Try.ntmps10
        go_upto_region 1 with (fail)
        obtain ⟨w1, hw1, hbk, hbl, hsz1⟩ := box_new w (ruC L W B Sl Ce Ro Wi Tr false) 23
        change Code.wp _ _ _ _ (w.alloc (.cells (ruC L W B Sl Ce Ro Wi Tr false) 23))
        rw [hw1]
        obtain ⟨b0, hb0⟩ : ∃ b0, b0 = w.heap.size := ⟨_, rfl⟩
        rw [← hb0] at hbk ⊢
        have k0 := hbk.rd
        have BK := Lib.hid hbk
        have BL := Lib.hid hbl
        clear hbk hbl hsz1 hw1 hb0
        go_wp2_with (first
      | (go_at_call 23; ((with_reducible refine (C0.out _).mono ?_); rintro e w' ⟨rfl, rfl⟩))
      | (go_at_call 23; ((with_reducible refine (C1.out _).mono ?_); rintro e w' ⟨rfl, rfl⟩))
      | (go_at_call 23; ((with_reducible refine (C2.out _).mono ?_); rintro e w' ⟨rfl, rfl⟩))
      | (go_at_call 23; ((with_reducible refine (C3.out _).mono ?_); rintro e w' ⟨rfl, rfl⟩))
      | (go_at_call 23; ((with_reducible refine (C5.out _).mono ?_); rintro e w' ⟨rfl, rfl⟩))
      | (go_at_call 23; ((with_reducible refine (C6.out _).mono ?_); rintro e w' ⟨rfl, rfl⟩))
      | (go_at_call 23; ((with_reducible refine (C7.out _).mono ?_); rintro e w' ⟨rfl, rfl⟩))
      | (go_at_call 23; ((with_reducible refine (C8.out _).mono ?_); rintro e w' ⟨rfl, rfl⟩))
      | (go_at_call 24; ((with_reducible refine (CP.out _).mono ?_); rintro e w2 ⟨rfl, b2⟩; have B2 := Lib.hid (BL.out.trans (b2.mono BL.out.size)); clear b2)))
        go_ret
        exact ⟨rfl, B2.out⟩
end Go.Proofs.Ytfpknklnbgmflaa
