/- The contracts of layer 13 (frame): how large an answer to any request may be. -/
import Derived.Test.YtfpknklnbgmflaaFrZ
import Derived.Laws.Cover1
namespace Go.Proofs.Ytfpknklnbgmflaa
set_option linter.unusedSimpArgs false
set_option linter.unusedVariables false
open Go.ChangeShapes Go.WideShapes Go.ChangeAt Go.RowKit
/-- the largest answer to a request. -/
def largeZ (op k t : Int) : Int := if op = 1 ∨ op = 2 then 22 else if op = 3 then 46 else if op = 4 then 7 + 81 * max 1 (min k t) else 0
theorem ret_iL {k : IntKind} {a b : Int} (h : a = b) : Ending.returned (.int k a) = .returned (.int k b) := by rw [h]
set_option maxHeartbeats 4000000 in
theorem large_req (op rule cost k t : Int) (s : ByteArray) (ho : op = 1 ∨ op = 2 ∨ op = 3 ∨ op = 4) (hk : 0 ≤ k ∧ k ≤ 255) (ht : 1 ≤ t ∧ t ≤ 64) (w : World) :
    Calls Try.prog 21 #[reqV op rule cost s k, .int .i64 t] w fun e w' => e = .returned (.int .i64 (largeZ op k t)) ∧ Below w.heap.size w w' := by
  rcases ho with rfl | rfl | rfl | rfl
  · rw [show largeZ 1 k t = 22 from rfl]
    go_enter Try.func21, Try.ntmps21
    go_upto_region 1 with (fail)
    obtain ⟨w1, hw1, hbk, hbl, hsz1⟩ := box_new w (reqC 1 rule cost s k) 41
    change Code.wp _ _ _ _ (w.alloc (.cells (reqC 1 rule cost s k) 41))
    rw [hw1]
    obtain ⟨b0, hb0⟩ : ∃ b0, b0 = w.heap.size := ⟨_, rfl⟩
    rw [← hb0] at hbk ⊢
    have k0 := hbk.rd
    have BL := Lib.hid hbl
    clear hbk hbl hsz1 hw1 hb0
    go_wp2
    go_ret
    exact ⟨rfl, BL.out⟩
  · rw [show largeZ 2 k t = 22 from rfl]
    go_enter Try.func21, Try.ntmps21
    go_upto_region 1 with (fail)
    obtain ⟨w1, hw1, hbk, hbl, hsz1⟩ := box_new w (reqC 2 rule cost s k) 41
    change Code.wp _ _ _ _ (w.alloc (.cells (reqC 2 rule cost s k) 41))
    rw [hw1]
    obtain ⟨b0, hb0⟩ : ∃ b0, b0 = w.heap.size := ⟨_, rfl⟩
    rw [← hb0] at hbk ⊢
    have k0 := hbk.rd
    have BL := Lib.hid hbl
    clear hbk hbl hsz1 hw1 hb0
    go_wp2
    go_ret
    exact ⟨rfl, BL.out⟩
  · rw [show largeZ 3 k t = 46 from rfl]
    go_enter Try.func21, Try.ntmps21
    go_upto_region 1 with (fail)
    obtain ⟨w1, hw1, hbk, hbl, hsz1⟩ := box_new w (reqC 3 rule cost s k) 41
    change Code.wp _ _ _ _ (w.alloc (.cells (reqC 3 rule cost s k) 41))
    rw [hw1]
    obtain ⟨b0, hb0⟩ : ∃ b0, b0 = w.heap.size := ⟨_, rfl⟩
    rw [← hb0] at hbk ⊢
    have k0 := hbk.rd
    have BL := Lib.hid hbl
    clear hbk hbl hsz1 hw1 hb0
    go_wp2
    go_ret
    exact ⟨rfl, BL.out⟩
  · obtain ⟨m, hm⟩ : ∃ m, m = max 1 (min k t) := ⟨_, rfl⟩
    have hlz : largeZ 4 k t = 7 + 81 * m := by unfold largeZ; rw [if_neg (by omega), if_neg (by omega), if_pos rfl, hm]
    rw [hlz]
    have hmb : 1 ≤ m ∧ m ≤ 64 := by omega
    have e1 : IntKind.i64.wrap (81 * m) = 81 * m := by rw [IntKind.wrap_i64]; omega
    have HM := Lib.hid hm
    clear hlz
    go_enter Try.func21, Try.ntmps21
    go_upto_region 1 with (fail)
    obtain ⟨w1, hw1, hbk, hbl, hsz1⟩ := box_new w (reqC 4 rule cost s k) 41
    change Code.wp _ _ _ _ (w.alloc (.cells (reqC 4 rule cost s k) 41))
    rw [hw1]
    obtain ⟨b0, hb0⟩ : ∃ b0, b0 = w.heap.size := ⟨_, rfl⟩
    rw [← hb0] at hbk ⊢
    have k0 := hbk.rd
    have BL := Lib.hid hbl
    clear hbk hbl hsz1 hw1 hb0 hm
    by_cases h1 : t < k
    · have f1 : (t < k) = True := eq_true h1
      have e2 : m = t := by have := HM.out; omega
      subst e2
      by_cases h2 : 1 < m
      · have f2 : (1 < m) = True := eq_true h2
        clear h1 h2
        go_wp2
        all_goals
          go_ret
          exact ⟨ret_iL (by omega), BL.out⟩
      · have e3 : m = 1 := by omega
        subst e3
        clear h1 h2
        go_wp2
        all_goals
          go_ret
          exact ⟨ret_iL (by omega), BL.out⟩
    · have f1 : (t < k) = False := eq_false h1
      by_cases h2 : 1 < k
      · have e2 : m = k := by have := HM.out; omega
        have f2 : (1 < k) = True := eq_true h2
        subst e2
        clear h1 h2
        go_wp2
        all_goals
          go_ret
          exact ⟨ret_iL (by omega), BL.out⟩
      · have e2 : m = 1 := by have := HM.out; omega
        have f2 : (1 < k) = False := eq_false h2
        subst e2
        clear h1 h2
        go_wp2
        all_goals
          go_ret
          exact ⟨ret_iL (by omega), BL.out⟩
end Go.Proofs.Ytfpknklnbgmflaa
