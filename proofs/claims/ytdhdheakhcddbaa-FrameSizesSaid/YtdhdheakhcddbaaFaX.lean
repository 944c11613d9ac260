/- The laws of layer 13 (frame), walked: answers come back; how large they may be. -/
import Derived.Test.YtdhdheakhcddbaaFaW
import Derived.Test.YtdhdheakhcddbaaFaK
import Derived.Test.YtdhdheakhcddbaaFrL
import Derived.Test.YtdhdheakhcddbaaLiftS
import Derived.Laws.StructEq
import Derived.Laws.Cover1
namespace Go.Proofs.Ytdhdheakhcddbaa
set_option linter.unusedSimpArgs false
set_option linter.unusedVariables false
open Go.ChangeShapes Go.WideShapes Go.ChangeAt Go.RowKit Go.Deep
theorem i64_mask1 (n : Int) : bits .and .i64 n 1 = n % 2 := by
  have hm : (BitVec.ofInt 64 1).toNat = 2 ^ 1 - 1 := by decide
  have key : (BitVec.ofInt 64 n &&& BitVec.ofInt 64 1).toNat = (n % ((2 ^ 64 : Nat) : Int)).toNat % 2 ^ 1 := by
    rw [BitVec.toNat_and, BitVec.toNat_ofInt, hm, Nat.and_two_pow_sub_one_eq_mod]
  show IntKind.i64.wrap ((BitVec.ofInt 64 n &&& BitVec.ofInt 64 1).toNat : Nat) = n % 2
  rw [key, IntKind.wrap_i64]
  omega
theorem ans_equal (v r t : Int) (w : World) : (Op.equalIn 10000 38 (.agg (ansC v r t)) (.agg (ansC v r t))).run Try.prog w = .ok true w := by
  have hS : Try.prog.underlying 38 = some (.struct (Try.prog.fieldsOf 38)) := by kernel_rfl
  have hp : Try.prog.stoodInHeld 38 = false := by kernel_rfl
  rw [show (10000 : Nat) = 9999 + 1 from rfl, run_equalIn_agg w 9999 38 _ _ hS hp]
  simp only [Program.fieldsOf, Try.underlying38]
  go_simp
theorem tot_equal (a d b c wt : Int) (w : World) : (Op.equalIn 10000 40 (.agg (totC a d b c wt)) (.agg (totC a d b c wt))).run Try.prog w = .ok true w := by
  have hS : Try.prog.underlying 40 = some (.struct (Try.prog.fieldsOf 40)) := by kernel_rfl
  have hp : Try.prog.stoodInHeld 40 = false := by kernel_rfl
  rw [show (10000 : Nat) = 9999 + 1 from rfl, run_equalIn_agg w 9999 40 _ _ hS hp]
  simp only [Program.fieldsOf, Try.underlying40]
  go_simp
set_option maxHeartbeats 2000000 in
theorem large_any (op k t : Int) (h : op = 1 ∨ op = 2 ∨ op = 3) (w : World) :
    Calls Try.prog 25 #[reqV op 0 0 ⟨#[]⟩ k, .int .i64 t] w fun e w' => e = .returned (.int .i64 (if op = 3 then 46 else 22)) ∧ Below w.heap.size w w' := by
  have BOX := box_new w (reqC op 0 0 ⟨#[]⟩ k) 24
  rcases h with rfl | rfl | rfl
  all_goals
    go_enter Try.func25, Try.ntmps25
    go_upto_region 1 with (fail)
    obtain ⟨w1, hw1, hbk, hbl, hsz1⟩ := BOX
    change Code.wp _ _ _ _ (w.alloc _)
    rw [hw1]
    obtain ⟨b0, hb0⟩ : ∃ b0, b0 = w.heap.size := ⟨_, rfl⟩
    rw [← hb0] at hbk ⊢
    have k0 := hbk.rd
    have BL := Lib.hid hbl
    clear hbk hbl hsz1 hw1 hb0
    go_wp2
    go_ret
    exact ⟨rfl, BL.out⟩
set_option maxHeartbeats 2000000 in
theorem large_lists (k t m : Int) (hk : 0 ≤ k ∧ k ≤ 255) (ht : 1 ≤ t ∧ t ≤ 64) (hm : m = max 1 (min k t)) (w : World) :
    Calls Try.prog 25 #[reqV 4 0 0 ⟨#[]⟩ k, .int .i64 t] w fun e w' => e = .returned (.int .i64 (7 + 81 * m)) ∧ Below w.heap.size w w' := by
  have hmb : 1 ≤ m ∧ m ≤ 64 := by omega
  have e1 : IntKind.i64.wrap (81 * m) = 81 * m := by rw [IntKind.wrap_i64]; omega
  have HM := Lib.hid hm
  go_enter Try.func25, Try.ntmps25
  go_upto_region 1 with (fail)
  obtain ⟨w1, hw1, hbk, hbl, hsz1⟩ := box_new w (reqC 4 0 0 ⟨#[]⟩ k) 24
  change Code.wp _ _ _ _ (w.alloc (.cells (reqC 4 0 0 ⟨#[]⟩ k) 24))
  rw [hw1]
  obtain ⟨b0, hb0⟩ : ∃ b0, b0 = w.heap.size := ⟨_, rfl⟩
  rw [← hb0] at hbk ⊢
  have k0 := hbk.rd
  have BL := Lib.hid hbl
  clear hbk hbl hsz1 hw1 hb0 hm
  by_cases h1 : t < k
  · have f1 : (t < k) = True := eq_true h1
    have e2 : m = t := by have := HM.out; omega
    subst e2
    by_cases h2 : 1 < m
    · have f2 : (1 < m) = True := eq_true h2
      clear h1 h2
      go_wp2
      all_goals
        go_ret
        exact ⟨ret_i (by omega), BL.out⟩
    · have e3 : m = 1 := by omega
      subst e3
      clear h1 h2
      go_wp2
      all_goals
        go_ret
        exact ⟨ret_i (by omega), BL.out⟩
  · have f1 : (t < k) = False := eq_false h1
    by_cases h2 : 1 < k
    · have e2 : m = k := by have := HM.out; omega
      have f2 : (1 < k) = True := eq_true h2
      subst e2
      clear h1 h2
      go_wp2
      all_goals
        go_ret
        exact ⟨ret_i (by omega), BL.out⟩
    · have e2 : m = 1 := by have := HM.out; omega
      have f2 : (1 < k) = False := eq_false h2
      subst e2
      clear h1 h2
      go_wp2
      all_goals
        go_ret
        exact ⟨ret_i (by omega), BL.out⟩
end Go.Proofs.Ytdhdheakhcddbaa
