/- The contracts of layer 17 (config): the document's rules. -/
import Derived.Test.YtfpknklnbgmflaaCfC1
import Derived.Test.YtfpknklnbgmflaaCfC2
import Derived.Test.YtfpknklnbgmflaaCfC3
import Derived.Test.YtfpknklnbgmflaaCfC4
import Derived.Test.YtfpknklnbgmflaaCfC5
namespace Go.Proofs.Ytfpknklnbgmflaa
set_option linter.unusedSimpArgs false
set_option linter.unusedVariables false
open Go.ChangeShapes Go.WideShapes Go.ChangeAt Go.RowKit
open Ar (inR)
set_option maxHeartbeats 1000000 in
set_option maxRecDepth 100000 in
theorem rl_any (L W B Sl Ce Ro Wi Tr : Int) (sm : Bool) (w : World) :
    (ruleP L W B Sl Ce Ro Wi Tr sm → Calls Try.prog 11 #[ruV L W B Sl Ce Ro Wi Tr sm] w fun e w' => e = .returned (.bool true) ∧ Below w.heap.size w w') ∧
    (¬ ruleP L W B Sl Ce Ro Wi Tr sm → Calls Try.prog 11 #[ruV L W B Sl Ce Ro Wi Tr sm] w fun e w' => e = .returned (.bool false) ∧ Below w.heap.size w w') := by
  by_cases p0 : ¬ (1 ≤ L ∧ L ≤ 2147483648)
  · refine ⟨fun h => absurd h (fun ⟨h1, h2, h3, h4, h5, h6, h7, h8, h9, h10, h11⟩ => p0 h1), fun _ => ?_⟩
    by_cases g : L < 1
    · exact rl_lo0 L W B Sl Ce Ro Wi Tr sm w (decide_eq_true g)
    · exact rl_hi0 L W B Sl Ce Ro Wi Tr sm w (decide_eq_false g) (decide_eq_true (by omega))
  have q0 := Classical.not_not.1 p0
  clear p0
  by_cases p1 : ¬ (1 ≤ W ∧ W ≤ 1099511627776)
  · refine ⟨fun h => absurd h (fun ⟨h1, h2, h3, h4, h5, h6, h7, h8, h9, h10, h11⟩ => p1 h2), fun _ => ?_⟩
    by_cases g : W < 1
    · exact rl_lo1 L W B Sl Ce Ro Wi Tr sm w (decide_eq_false (by omega)) (decide_eq_false (by omega)) (decide_eq_true g)
    · exact rl_hi1 L W B Sl Ce Ro Wi Tr sm w (decide_eq_false (by omega)) (decide_eq_false (by omega)) (decide_eq_false g) (decide_eq_true (by omega))
  have q1 := Classical.not_not.1 p1
  clear p1
  by_cases p2 : ¬ (1 ≤ B ∧ B ≤ L)
  · refine ⟨fun h => absurd h (fun ⟨h1, h2, h3, h4, h5, h6, h7, h8, h9, h10, h11⟩ => p2 h3), fun _ => ?_⟩
    by_cases g : B < 1
    · exact rl_lo2 L W B Sl Ce Ro Wi Tr sm w (decide_eq_false (by omega)) (decide_eq_false (by omega)) (decide_eq_false (by omega)) (decide_eq_false (by omega)) (decide_eq_true g)
    · exact rl_hi2 L W B Sl Ce Ro Wi Tr sm w (decide_eq_false (by omega)) (decide_eq_false (by omega)) (decide_eq_false (by omega)) (decide_eq_false (by omega)) (decide_eq_false g) (decide_eq_true (by omega))
  have q2 := Classical.not_not.1 p2
  clear p2
  by_cases p3 : ¬ (1 ≤ Sl ∧ Sl ≤ 64)
  · refine ⟨fun h => absurd h (fun ⟨h1, h2, h3, h4, h5, h6, h7, h8, h9, h10, h11⟩ => p3 h4), fun _ => ?_⟩
    by_cases g : Sl < 1
    · exact rl_lo3 L W B Sl Ce Ro Wi Tr sm w (decide_eq_false (by omega)) (decide_eq_false (by omega)) (decide_eq_false (by omega)) (decide_eq_false (by omega)) (decide_eq_false (by omega)) (decide_eq_false (by omega)) (decide_eq_true g)
    · exact rl_hi3 L W B Sl Ce Ro Wi Tr sm w (decide_eq_false (by omega)) (decide_eq_false (by omega)) (decide_eq_false (by omega)) (decide_eq_false (by omega)) (decide_eq_false (by omega)) (decide_eq_false (by omega)) (decide_eq_false g) (decide_eq_true (by omega))
  have q3 := Classical.not_not.1 p3
  clear p3
  by_cases p4 : ¬ (W % Sl = 0)
  · refine ⟨fun h => absurd h (fun ⟨h1, h2, h3, h4, h5, h6, h7, h8, h9, h10, h11⟩ => p4 h5), fun _ => ?_⟩
    exact rl_mod L W B Sl Ce Ro Wi Tr sm w (decide_eq_false (by omega)) (decide_eq_false (by omega)) (decide_eq_false (by omega)) (decide_eq_false (by omega)) (decide_eq_false (by omega)) (decide_eq_false (by omega)) (decide_eq_false (by omega)) (decide_eq_false (by omega)) (by omega) (Int.tmod_eq_emod_of_nonneg (by omega)) (by simpa using p4)
  have q4 := Classical.not_not.1 p4
  clear p4
  by_cases p5 : ¬ (1 ≤ Ce ∧ Ce ≤ 1024)
  · refine ⟨fun h => absurd h (fun ⟨h1, h2, h3, h4, h5, h6, h7, h8, h9, h10, h11⟩ => p5 h6), fun _ => ?_⟩
    by_cases g : Ce < 1
    · exact rl_lo5 L W B Sl Ce Ro Wi Tr sm w (decide_eq_false (by omega)) (decide_eq_false (by omega)) (decide_eq_false (by omega)) (decide_eq_false (by omega)) (decide_eq_false (by omega)) (decide_eq_false (by omega)) (decide_eq_false (by omega)) (decide_eq_false (by omega)) (by omega) (Int.tmod_eq_emod_of_nonneg (by omega)) (by simpa using q4) (decide_eq_true g)
    · exact rl_hi5 L W B Sl Ce Ro Wi Tr sm w (decide_eq_false (by omega)) (decide_eq_false (by omega)) (decide_eq_false (by omega)) (decide_eq_false (by omega)) (decide_eq_false (by omega)) (decide_eq_false (by omega)) (decide_eq_false (by omega)) (decide_eq_false (by omega)) (by omega) (Int.tmod_eq_emod_of_nonneg (by omega)) (by simpa using q4) (decide_eq_false g) (decide_eq_true (by omega))
  have q5 := Classical.not_not.1 p5
  clear p5
  by_cases p6 : ¬ (1 ≤ Ro ∧ Ro ≤ 8)
  · refine ⟨fun h => absurd h (fun ⟨h1, h2, h3, h4, h5, h6, h7, h8, h9, h10, h11⟩ => p6 h7), fun _ => ?_⟩
    by_cases g : Ro < 1
    · exact rl_lo6 L W B Sl Ce Ro Wi Tr sm w (decide_eq_false (by omega)) (decide_eq_false (by omega)) (decide_eq_false (by omega)) (decide_eq_false (by omega)) (decide_eq_false (by omega)) (decide_eq_false (by omega)) (decide_eq_false (by omega)) (decide_eq_false (by omega)) (by omega) (Int.tmod_eq_emod_of_nonneg (by omega)) (by simpa using q4) (decide_eq_false (by omega)) (decide_eq_false (by omega)) (decide_eq_true g)
    · exact rl_hi6 L W B Sl Ce Ro Wi Tr sm w (decide_eq_false (by omega)) (decide_eq_false (by omega)) (decide_eq_false (by omega)) (decide_eq_false (by omega)) (decide_eq_false (by omega)) (decide_eq_false (by omega)) (decide_eq_false (by omega)) (decide_eq_false (by omega)) (by omega) (Int.tmod_eq_emod_of_nonneg (by omega)) (by simpa using q4) (decide_eq_false (by omega)) (decide_eq_false (by omega)) (decide_eq_false g) (decide_eq_true (by omega))
  have q6 := Classical.not_not.1 p6
  clear p6
  by_cases p7 : ¬ (1 ≤ Wi ∧ Wi ≤ 4096)
  · refine ⟨fun h => absurd h (fun ⟨h1, h2, h3, h4, h5, h6, h7, h8, h9, h10, h11⟩ => p7 h8), fun _ => ?_⟩
    by_cases g : Wi < 1
    · exact rl_lo7 L W B Sl Ce Ro Wi Tr sm w (decide_eq_false (by omega)) (decide_eq_false (by omega)) (decide_eq_false (by omega)) (decide_eq_false (by omega)) (decide_eq_false (by omega)) (decide_eq_false (by omega)) (decide_eq_false (by omega)) (decide_eq_false (by omega)) (by omega) (Int.tmod_eq_emod_of_nonneg (by omega)) (by simpa using q4) (decide_eq_false (by omega)) (decide_eq_false (by omega)) (decide_eq_false (by omega)) (decide_eq_false (by omega)) (decide_eq_true g)
    · exact rl_hi7 L W B Sl Ce Ro Wi Tr sm w (decide_eq_false (by omega)) (decide_eq_false (by omega)) (decide_eq_false (by omega)) (decide_eq_false (by omega)) (decide_eq_false (by omega)) (decide_eq_false (by omega)) (decide_eq_false (by omega)) (decide_eq_false (by omega)) (by omega) (Int.tmod_eq_emod_of_nonneg (by omega)) (by simpa using q4) (decide_eq_false (by omega)) (decide_eq_false (by omega)) (decide_eq_false (by omega)) (decide_eq_false (by omega)) (decide_eq_false g) (decide_eq_true (by omega))
  have q7 := Classical.not_not.1 p7
  clear p7
  by_cases p8 : ¬ (1 ≤ Tr ∧ Tr ≤ 64)
  · refine ⟨fun h => absurd h (fun ⟨h1, h2, h3, h4, h5, h6, h7, h8, h9, h10, h11⟩ => p8 h9), fun _ => ?_⟩
    by_cases g : Tr < 1
    · exact rl_lo8 L W B Sl Ce Ro Wi Tr sm w (decide_eq_false (by omega)) (decide_eq_false (by omega)) (decide_eq_false (by omega)) (decide_eq_false (by omega)) (decide_eq_false (by omega)) (decide_eq_false (by omega)) (decide_eq_false (by omega)) (decide_eq_false (by omega)) (by omega) (Int.tmod_eq_emod_of_nonneg (by omega)) (by simpa using q4) (decide_eq_false (by omega)) (decide_eq_false (by omega)) (decide_eq_false (by omega)) (decide_eq_false (by omega)) (decide_eq_false (by omega)) (decide_eq_false (by omega)) (decide_eq_true g)
    · exact rl_hi8 L W B Sl Ce Ro Wi Tr sm w (decide_eq_false (by omega)) (decide_eq_false (by omega)) (decide_eq_false (by omega)) (decide_eq_false (by omega)) (decide_eq_false (by omega)) (decide_eq_false (by omega)) (decide_eq_false (by omega)) (decide_eq_false (by omega)) (by omega) (Int.tmod_eq_emod_of_nonneg (by omega)) (by simpa using q4) (decide_eq_false (by omega)) (decide_eq_false (by omega)) (decide_eq_false (by omega)) (decide_eq_false (by omega)) (decide_eq_false (by omega)) (decide_eq_false (by omega)) (decide_eq_false g) (decide_eq_true (by omega))
  have q8 := Classical.not_not.1 p8
  clear p8
  by_cases p9 : ¬ (2 ≤ Sl ∨ sm = false)
  · refine ⟨fun h => absurd h (fun ⟨h1, h2, h3, h4, h5, h6, h7, h8, h9, h10, h11⟩ => p9 h10), fun _ => ?_⟩
    have hs : sm = true := by cases sm; exact absurd (Or.inr rfl) p9; rfl
    subst hs
    exact rl_sm L W B Sl Ce Ro Wi Tr w (decide_eq_false (by omega)) (decide_eq_false (by omega)) (decide_eq_false (by omega)) (decide_eq_false (by omega)) (decide_eq_false (by omega)) (decide_eq_false (by omega)) (decide_eq_false (by omega)) (decide_eq_false (by omega)) (by omega) (Int.tmod_eq_emod_of_nonneg (by omega)) (by simpa using q4) (decide_eq_false (by omega)) (decide_eq_false (by omega)) (decide_eq_false (by omega)) (decide_eq_false (by omega)) (decide_eq_false (by omega)) (decide_eq_false (by omega)) (decide_eq_false (by omega)) (decide_eq_false (by omega)) (decide_eq_true (by omega))
  have q9 := Classical.not_not.1 p9
  clear p9
  obtain ⟨dq, hdq⟩ : ∃ dq, decide (unitZ W (L + 1 - B) ≤ 1152921504606846976 / B) = dq := ⟨_, rfl⟩
  have key : Calls Try.prog 11 #[ruV L W B Sl Ce Ro Wi Tr sm] w fun e w' => e = .returned (.bool dq) ∧ Below w.heap.size w w' := by
    have e1 : (1152921504606846976 : Int).tdiv B = 1152921504606846976 / B := Int.tdiv_eq_ediv_of_nonneg (by omega)
    have e2 : IntKind.i64.wrap (1152921504606846976 / B) = 1152921504606846976 / B := by
      have h1 := Int.ediv_nonneg (show (0 : Int) ≤ 1152921504606846976 by omega) (show 0 ≤ B by omega)
      have h2 := Int.ediv_le_self B (show (0 : Int) ≤ 1152921504606846976 by omega)
      rw [IntKind.wrap_i64]; omega
    have nb : ¬ B = 0 := by omega
    cases sm
    · exact rl_t0 L W B Sl Ce Ro Wi Tr w (decide_eq_false (by omega)) (decide_eq_false (by omega)) (decide_eq_false (by omega)) (decide_eq_false (by omega)) (decide_eq_false (by omega)) (decide_eq_false (by omega)) (decide_eq_false (by omega)) (decide_eq_false (by omega)) (by omega) (Int.tmod_eq_emod_of_nonneg (by omega)) (by simpa using q4) (decide_eq_false (by omega)) (decide_eq_false (by omega)) (decide_eq_false (by omega)) (decide_eq_false (by omega)) (decide_eq_false (by omega)) (decide_eq_false (by omega)) (decide_eq_false (by omega)) (decide_eq_false (by omega)) _ _ dq (Lib.hid (fun w => unit_any L W B Sl Ce Ro Wi Tr false q0 q1 q2 w)) e1 rfl e2 nb hdq
    · have h2 : 2 ≤ Sl := by rcases q9 with h | h; exact h; cases h
      exact rl_t1 L W B Sl Ce Ro Wi Tr w (decide_eq_false (by omega)) (decide_eq_false (by omega)) (decide_eq_false (by omega)) (decide_eq_false (by omega)) (decide_eq_false (by omega)) (decide_eq_false (by omega)) (decide_eq_false (by omega)) (decide_eq_false (by omega)) (by omega) (Int.tmod_eq_emod_of_nonneg (by omega)) (by simpa using q4) (decide_eq_false (by omega)) (decide_eq_false (by omega)) (decide_eq_false (by omega)) (decide_eq_false (by omega)) (decide_eq_false (by omega)) (decide_eq_false (by omega)) (decide_eq_false (by omega)) (decide_eq_false (by omega)) (decide_eq_false (by omega)) _ _ dq (Lib.hid (fun w => unit_any L W B Sl Ce Ro Wi Tr true q0 q1 q2 w)) e1 rfl e2 nb hdq
  by_cases p10 : unitZ W (L + 1 - B) ≤ 1152921504606846976 / B
  · rw [decide_eq_true p10] at hdq
    subst hdq
    exact ⟨fun _ => key, fun h => absurd ⟨q0, q1, q2, q3, q4, q5, q6, q7, q8, q9, p10⟩ h⟩
  · rw [decide_eq_false p10] at hdq
    subst hdq
    exact ⟨fun h => absurd h (fun ⟨h1, h2, h3, h4, h5, h6, h7, h8, h9, h10, h11⟩ => p10 h11), fun _ => key⟩
end Go.Proofs.Ytfpknklnbgmflaa
