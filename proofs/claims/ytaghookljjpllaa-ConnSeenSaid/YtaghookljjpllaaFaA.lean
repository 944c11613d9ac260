/- The contracts of layer 13 (frame): answers written, but lists. -/
import Derived.Test.YtaghookljjpllaaFaN
namespace Go.Proofs.Ytaghookljjpllaa
set_option linter.unusedSimpArgs false
set_option linter.unusedVariables false
open Go.ChangeShapes Go.WideShapes Go.ChangeAt Go.RowKit
abbrev ansC (v rem ret : Int) : Array Value := #[.int .i64 v, .int .i64 rem, .int .i64 ret]
abbrev totC (a d b c wt : Int) : Array Value := #[.int .i64 a, .int .i64 d, .int .i64 b, .int .i64 c, .int .i64 wt]
theorem mem_two {P : Int → Prop} {a b : Int} (ha : P a) (hb : P b) : ∀ x ∈ [a, b], P x := by
  intro x hx
  simp only [List.mem_cons, List.not_mem_nil, or_false] at hx
  rcases hx with rfl | rfl <;> assumption
theorem mem_five {P : Int → Prop} {a b c d e : Int} (ha : P a) (hb : P b) (hc : P c) (hd : P d) (he : P e) : ∀ x ∈ [a, b, c, d, e], P x := by
  intro x hx
  simp only [List.mem_cons, List.not_mem_nil, or_false] at hx
  rcases hx with rfl | rfl | rfl | rfl | rfl <;> assumption
theorem be8s_byt : ∀ l, byt (be8s l)
  | [] => by intro z hz; cases hz
  | x :: l => byt_app (be_byt _ _) (be8s_byt l)
theorem ans_be (op v rem ret : Int) : [128 + op, v] ++ be8s [rem, ret] = ansZ op v rem ret := by simp [be8s, ansZ]
theorem tot_be (rule a d b c wt : Int) : [131, rule] ++ be8s [a, d, b, c, wt] = totZ rule a d b c wt := by simp [be8s, totZ]
theorem ans_length (op v rem ret : Int) : (ansZ op v rem ret).length = 18 := by unfold ansZ; simp [be_length]
theorem tot_length (rule a d b c wt : Int) : (totZ rule a d b c wt).length = 42 := by unfold totZ; simp [be_length]
theorem ans_byt {op v rem ret : Int} (ho : op = 1 ∨ op = 2) (hv : 1 ≤ v ∧ v ≤ 3) : byt (ansZ op v rem ret) := by
  rw [← ans_be]
  exact byt_app (mem_two (P := fun z => 0 ≤ z ∧ z ≤ 255) (by omega) (by omega)) (be8s_byt _)
theorem tot_byt {rule a d b c wt : Int} (hr : 0 ≤ rule ∧ rule ≤ 255) : byt (totZ rule a d b c wt) := by
  rw [← tot_be]
  exact byt_app (mem_two (P := fun z => 0 ≤ z ∧ z ≤ 255) (by omega) (by omega)) (be8s_byt _)
theorem or128 (op : Int) (ho : op = 1 ∨ op = 2) : bits .or .u8 op 128 = 128 + op := by
  rcases ho with rfl | rfl <;> decide
theorem err_byt {e : Int} (h : 0 ≤ e ∧ e ≤ 255) : byt (errZ e) := mem_two (P := fun z => 0 ≤ z ∧ z ≤ 255) (by omega) h
set_option maxHeartbeats 4000000 in
theorem faulted_any (x : Int) (h : 0 ≤ x ∧ x ≤ 255) (w : World) :
    Calls Try.prog 36 #[.int .i64 x] w fun e w' => ∃ v', e = .returned v' ∧ Own w' w.heap.size v' (frmZ (errZ x)) ∧ Below w.heap.size w w' := by
  have ex : IntKind.u8.wrap x = x := by rw [IntKind.wrap_u8]; omega
  have RL := Lib.hid (show RdI (w.alloc (.cells #[.int .u8 255, .int .u8 x] 5)) .u8 (some ⟨w.heap.size, 0, none⟩) 2 2 [255, x] from rd_blk (heap_alloc_new w _) rfl (by unfold maxLen; omega) (fun z hz => u8_wf (err_byt h z hz)))
  have BL := Lib.hid ((Below.refl w.heap.size w).alloc (Nat.le_refl _) (.cells #[.int .u8 255, .int .u8 x] 5))
  clear h
  go_enter Try.func36, Try.ntmps36
  go_wp2_with (go_at_call 38; ((with_reducible refine (framed_any 168 (by omega) _ 2 _ _ (by omega) _ RL.out).mono ?_); rintro e w5 ⟨v5, rfl, o5, b5⟩; have O5 := Lib.hid o5; have BL5 := Lib.hid (BL.out.trans (b5.mono BL.out.size)); clear o5 b5))
  go_ret
  refine ⟨v5, rfl, ?_, BL5.out⟩
  exact O5.out.more (base' := w.heap.size) BL.out.size
set_option maxHeartbeats 1000000 in
theorem rfaulted_any (x : Int) (h : 0 ≤ x ∧ x ≤ 255) (w : World) :
    Calls Try.prog 23 #[.int .i64 x] w fun e w' => ∃ v', e = .returned v' ∧ Own w' w.heap.size v' (frmZ (errZ x)) ∧ Below w.heap.size w w' := by
  have ex : IntKind.u8.wrap x = x := by rw [IntKind.wrap_u8]; omega
  clear h
  go_enter Try.func23, Try.ntmps23
  go_wp2
  go_ret
  rw [show frmZ (errZ x) = [168, 1, 0, 2, 255, x] from by simp [frmZ, errZ, be]]
  exact ⟨_, rfl, own_lit w w.heap.size 6 [168, 1, 0, 2, 255, x] (Nat.le_refl _) rfl (by unfold maxLen; omega), (Below.refl w.heap.size w).alloc (Nat.le_refl _) _⟩
end Go.Proofs.Ytaghookljjpllaa
