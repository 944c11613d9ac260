/- The contracts of layer 13 (frame): answers written, but lists. -/
import Derived.Test.YtghhoofdbmgacaaDoorFaN
namespace Go.Proofs.YtghhoofdbmgacaaDoor
set_option linter.unusedSimpArgs false
set_option linter.unusedVariables false
open Go.ChangeShapes Go.WideShapes Go.ChangeAt Go.RowKit
abbrev ansC (v rem ret : Int) : Array Value := #[.int .i64 v, .int .i64 rem, .int .i64 ret]
abbrev totC (a d b c wt : Int) : Array Value := #[.int .i64 a, .int .i64 d, .int .i64 b, .int .i64 c, .int .i64 wt]
theorem mem_two {P : Int → Prop} {a b : Int} (ha : P a) (hb : P b) : ∀ x ∈ [a, b], P x := by
  intro x hx
  simp only [List.mem_cons, List.not_mem_nil, or_false] at hx
  rcases hx with rfl | rfl <;> assumption
theorem mem_five {P : Int → Prop} {a b c d e : Int} (ha : P a) (hb : P b) (hc : P c) (hd : P d) (he : P e) : ∀ x ∈ [a, b, c, d, e], P x := by
  intro x hx
  simp only [List.mem_cons, List.not_mem_nil, or_false] at hx
  rcases hx with rfl | rfl | rfl | rfl | rfl <;> assumption
theorem be8s_byt : ∀ l, byt (be8s l)
  | [] => by intro z hz; cases hz
  | x :: l => byt_app (be_byt _ _) (be8s_byt l)
theorem ans_be (op v rem ret : Int) : [128 + op, v] ++ be8s [rem, ret] = ansZ op v rem ret := by simp [be8s, ansZ]
theorem tot_be (rule a d b c wt : Int) : [131, rule] ++ be8s [a, d, b, c, wt] = totZ rule a d b c wt := by simp [be8s, totZ]
theorem ans_length (op v rem ret : Int) : (ansZ op v rem ret).length = 18 := by unfold ansZ; simp [be_length]
theorem tot_length (rule a d b c wt : Int) : (totZ rule a d b c wt).length = 42 := by unfold totZ; simp [be_length]
theorem ans_byt {op v rem ret : Int} (ho : op = 1 ∨ op = 2) (hv : 1 ≤ v ∧ v ≤ 3) : byt (ansZ op v rem ret) := by
  rw [← ans_be]
  exact byt_app (mem_two (P := fun z => 0 ≤ z ∧ z ≤ 255) (by omega) (by omega)) (be8s_byt _)
theorem tot_byt {rule a d b c wt : Int} (hr : 0 ≤ rule ∧ rule ≤ 255) : byt (totZ rule a d b c wt) := by
  rw [← tot_be]
  exact byt_app (mem_two (P := fun z => 0 ≤ z ∧ z ≤ 255) (by omega) (by omega)) (be8s_byt _)
theorem or128 (op : Int) (ho : op = 1 ∨ op = 2) : bits .or .u8 op 128 = 128 + op := by
  rcases ho with rfl | rfl <;> decide
set_option maxHeartbeats 4000000 in
theorem answered_any (op v rem ret : Int) (ho : op = 1 ∨ op = 2) (hv : 1 ≤ v ∧ v ≤ 3) (h1 : i64P rem) (h2 : i64P ret) (w : World) :
    Calls Tryd.prog 11 #[.int .i64 op, .agg (ansC v rem ret)] w fun e w' => ∃ v', e = .returned v' ∧ Own w' w.heap.size v' (frmZ (ansZ op v rem ret)) ∧ Below w.heap.size w w' := by
  have HZ := Lib.hid (ans_be op v rem ret)
  have HBY := Lib.hid (ans_byt (rem := rem) (ret := ret) ho hv)
  obtain ⟨o, hoe⟩ : ∃ o, o = 128 + op := ⟨_, rfl⟩
  have eo : bits .or .u8 op 128 = o := by rw [hoe]; exact or128 op ho
  have eop : IntKind.u8.wrap op = op := by rw [IntKind.wrap_u8]; omega
  have ev : IntKind.u8.wrap v = v := by rw [IntKind.wrap_u8]; omega
  rw [← hoe] at HZ
  have HI := Lib.hid (mem_two (P := i64P) h1 h2)
  clear hoe ho hv h1 h2
  go_enter Tryd.func11, Tryd.ntmps11
  go_upto_region 1 with (fail)
  obtain ⟨w1, hw1, hbk, hbl, hsz1⟩ := box_new w (ansC v rem ret) 23
  change Code.wp _ _ _ _ (w.alloc (.cells (ansC v rem ret) 23))
  rw [hw1]
  obtain ⟨b0, hb0⟩ : ∃ b0, b0 = w.heap.size := ⟨_, rfl⟩
  rw [← hb0] at hbk hsz1 ⊢
  have HB0 := Lib.hid hb0
  have BL := Lib.hid hbl
  have SB := Lib.hid (show b0 + 1 ≤ w1.heap.size from by rw [hsz1]; exact Nat.le_refl _)
  have k1a := (hbk.alloc (.cells #[.int .u8 o, .int .u8 v] 5)).rd
  have k0 := hbk.rd
  have CN := Lib.hid (show Calls Tryd.prog 18 #[.slice (some ⟨w1.heap.size, 0, none⟩) 2 2, .slice (some ⟨w1.heap.size + 1, 0, none⟩) 2 2] ((w1.alloc (.cells #[.int .u8 o, .int .u8 v] 5)).alloc (.cells #[.int .i64 rem, .int .i64 ret] 2)) (fun e w' => ∃ v', e = .returned v' ∧ Own w' (b0 + 1) v' (ansZ op v rem ret) ∧ FrU (b0 + 1) ((w1.alloc (.cells #[.int .u8 o, .int .u8 v] 5)).alloc (.cells #[.int .i64 rem, .int .i64 ret] 2)) w') from by
    rw [← HZ.out]
    exact numbers_u (b0 + 1) _ [o, v] (w1.heap.size + 1) 2 [rem, ret] HI.out rfl (by simp) _ ((own_lit w1 (b0 + 1) 2 [o, v] SB.out rfl (by unfold maxLen; omega)).below ((Below.refl _ _).alloc (Nat.le_refl _) (.cells #[.int .i64 rem, .int .i64 ret] 2))) (by have := SB.out; simp; omega) (two_lit w1 (.cells #[.int .u8 o, .int .u8 v] 5) #[.int .i64 rem, .int .i64 ret] 2))
  have BL3 := Lib.hid ((BL.out.alloc BL.out.size (.cells #[.int .u8 o, .int .u8 v] 5)).alloc (by have := BL.out.size; simp; omega) (.cells #[.int .i64 rem, .int .i64 ret] 2))
  clear hbk hbl hsz1 hw1 hb0
  go_wp2_with (first
    | (go_at_call 18; ((with_reducible refine CN.out.mono ?_); rintro e w4 ⟨v4, rfl, o4, f4⟩; obtain ⟨g4, c4, rfl, r4, _⟩ := own_rdn o4 HBY.out 18 (ans_length _ _ _ _) (by omega); have R4 := Lib.hid r4; have BL4 := Lib.hid (BL3.out.trans ((f4.more (Nat.le_succ b0)).below (by have := SB.out; simp; omega) |>.mono (by have := HB0.out; omega))); clear o4 f4 r4))
    | (go_at_call 17; ((with_reducible refine (framed_any 168 (by omega) _ 18 _ _ (by omega) _ R4.out).mono ?_); rintro e w5 ⟨v5, rfl, o5, b5⟩; have O5 := Lib.hid o5; have BL5 := Lib.hid (BL4.out.trans (b5.mono BL4.out.size)); clear o5 b5)))
  go_ret
  refine ⟨v5, rfl, ?_, BL5.out⟩
  have := O5.out.more (base' := w.heap.size) BL4.out.size
  unfold frmZ
  rw [ans_length]
  exact this
theorem err_byt {e : Int} (h : 0 ≤ e ∧ e ≤ 255) : byt (errZ e) := mem_two (P := fun z => 0 ≤ z ∧ z ≤ 255) (by omega) h
end Go.Proofs.YtghhoofdbmgacaaDoor
