/- The contracts of layer 17 (config): the largest answer. -/
import Derived.Test.YtfpknklnbgmflaaCfE
namespace Go.Proofs.Ytfpknklnbgmflaa
set_option linter.unusedSimpArgs false
set_option linter.unusedVariables false
open Go.ChangeShapes Go.WideShapes Go.ChangeAt Go.RowKit
open Ar (inR)
/-- a request that says only what it asks, and of how many. -/
abbrev rqV (op k : Int) : Value := .agg #[.int .i64 op, .int .i64 0, .int .u32 0, .string ⟨#[]⟩, .int .i64 k]
abbrev rqC (op k : Int) : Array Value := #[.int .i64 op, .int .i64 0, .int .u32 0, .string ⟨#[]⟩, .int .i64 k]
set_option maxHeartbeats 2000000 in
theorem large_check (t : Int) (w : World) : Calls Try.prog 21 #[rqV 1 0, .int .i64 t] w fun e w' => e = .returned (.int .i64 22) ∧ Below w.heap.size w w' := by
  go_enter Try.func21, Try.ntmps21
  go_upto_region 1 with (fail)
  obtain ⟨w1, hw1, hbk, hbl, hsz1⟩ := box_new w (rqC 1 0) 41
  change Code.wp _ _ _ _ (w.alloc (.cells (rqC 1 0) 41))
  rw [hw1]
  obtain ⟨b0, hb0⟩ : ∃ b0, b0 = w.heap.size := ⟨_, rfl⟩
  rw [← hb0] at hbk ⊢
  have k0 := hbk.rd
  have BL := Lib.hid hbl
  clear hbk hbl hsz1 hw1 hb0
  go_wp2
  go_ret
  exact ⟨rfl, BL.out⟩
set_option maxHeartbeats 2000000 in
theorem large_stats (t : Int) (w : World) : Calls Try.prog 21 #[rqV 3 0, .int .i64 t] w fun e w' => e = .returned (.int .i64 46) ∧ Below w.heap.size w w' := by
  go_enter Try.func21, Try.ntmps21
  go_upto_region 1 with (fail)
  obtain ⟨w1, hw1, hbk, hbl, hsz1⟩ := box_new w (rqC 3 0) 41
  change Code.wp _ _ _ _ (w.alloc (.cells (rqC 3 0) 41))
  rw [hw1]
  obtain ⟨b0, hb0⟩ : ∃ b0, b0 = w.heap.size := ⟨_, rfl⟩
  rw [← hb0] at hbk ⊢
  have k0 := hbk.rd
  have BL := Lib.hid hbl
  clear hbk hbl hsz1 hw1 hb0
  go_wp2
  go_ret
  exact ⟨rfl, BL.out⟩
set_option maxHeartbeats 2000000 in
theorem large_top (t : Int) (ht : 1 ≤ t ∧ t ≤ 64) (w : World) : Calls Try.prog 21 #[rqV 4 t, .int .i64 t] w fun e w' => e = .returned (.int .i64 (7 + 81 * t)) ∧ Below w.heap.size w w' := by
  have e1 : (t < t) = False := by simp
  have e2 : (t < 1) = False := eq_false (by omega)
  go_enter Try.func21, Try.ntmps21
  go_upto_region 1 with (fail)
  obtain ⟨w1, hw1, hbk, hbl, hsz1⟩ := box_new w (rqC 4 t) 41
  change Code.wp _ _ _ _ (w.alloc (.cells (rqC 4 t) 41))
  rw [hw1]
  obtain ⟨b0, hb0⟩ : ∃ b0, b0 = w.heap.size := ⟨_, rfl⟩
  rw [← hb0] at hbk ⊢
  have k0 := hbk.rd
  have BL := Lib.hid hbl
  clear hbk hbl hsz1 hw1 hb0
  go_wp2
  all_goals
    go_ret
    exact ⟨ret_i (by omega), BL.out⟩
end Go.Proofs.Ytfpknklnbgmflaa
