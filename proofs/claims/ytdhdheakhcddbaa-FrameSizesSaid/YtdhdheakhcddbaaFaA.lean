/- The contracts of layer 13 (frame): answers written, but lists. -/
import Derived.Test.YtdhdheakhcddbaaFaN
namespace Go.Proofs.Ytdhdheakhcddbaa
set_option linter.unusedSimpArgs false
set_option linter.unusedVariables false
open Go.ChangeShapes Go.WideShapes Go.ChangeAt Go.RowKit
abbrev ansC (v rem ret : Int) : Array Value := #[.int .i64 v, .int .i64 rem, .int .i64 ret]
abbrev totC (a d b c wt : Int) : Array Value := #[.int .i64 a, .int .i64 d, .int .i64 b, .int .i64 c, .int .i64 wt]
theorem mem_two {P : Int → Prop} {a b : Int} (ha : P a) (hb : P b) : ∀ x ∈ [a, b], P x := by
  intro x hx
  simp only [List.mem_cons, List.not_mem_nil, or_false] at hx
  rcases hx with rfl | rfl <;> assumption
theorem mem_five {P : Int → Prop} {a b c d e : Int} (ha : P a) (hb : P b) (hc : P c) (hd : P d) (he : P e) : ∀ x ∈ [a, b, c, d, e], P x := by
  intro x hx
  simp only [List.mem_cons, List.not_mem_nil, or_false] at hx
  rcases hx with rfl | rfl | rfl | rfl | rfl <;> assumption
theorem be8s_byt : ∀ l, byt (be8s l)
  | [] => by intro z hz; cases hz
  | x :: l => byt_app (be_byt _ _) (be8s_byt l)
theorem ans_be (op v rem ret : Int) : [128 + op, v] ++ be8s [rem, ret] = ansZ op v rem ret := by simp [be8s, ansZ]
theorem tot_be (rule a d b c wt : Int) : [131, rule] ++ be8s [a, d, b, c, wt] = totZ rule a d b c wt := by simp [be8s, totZ]
theorem ans_length (op v rem ret : Int) : (ansZ op v rem ret).length = 18 := by unfold ansZ; simp [be_length]
theorem tot_length (rule a d b c wt : Int) : (totZ rule a d b c wt).length = 42 := by unfold totZ; simp [be_length]
theorem ans_byt {op v rem ret : Int} (ho : op = 1 ∨ op = 2) (hv : 1 ≤ v ∧ v ≤ 3) : byt (ansZ op v rem ret) := by
  rw [← ans_be]
  exact byt_app (mem_two (P := fun z => 0 ≤ z ∧ z ≤ 255) (by omega) (by omega)) (be8s_byt _)
theorem tot_byt {rule a d b c wt : Int} (hr : 0 ≤ rule ∧ rule ≤ 255) : byt (totZ rule a d b c wt) := by
  rw [← tot_be]
  exact byt_app (mem_two (P := fun z => 0 ≤ z ∧ z ≤ 255) (by omega) (by omega)) (be8s_byt _)
theorem or128 (op : Int) (ho : op = 1 ∨ op = 2) : bits .or .u8 op 128 = 128 + op := by
  rcases ho with rfl | rfl <;> decide
set_option maxHeartbeats 4000000 in
theorem answered_any (op v rem ret : Int) (ho : op = 1 ∨ op = 2) (hv : 1 ≤ v ∧ v ≤ 3) (h1 : i64P rem) (h2 : i64P ret) (w : World) :
    Calls Try.prog 20 #[.int .i64 op, .agg (ansC v rem ret)] w fun e w' => ∃ v', e = .returned v' ∧ Own w' w.heap.size v' (frmZ (ansZ op v rem ret)) ∧ Below w.heap.size w w' := by
  have HZ := Lib.hid (ans_be op v rem ret)
  have HBY := Lib.hid (ans_byt (rem := rem) (ret := ret) ho hv)
  obtain ⟨o, hoe⟩ : ∃ o, o = 128 + op := ⟨_, rfl⟩
  have eo : bits .or .u8 op 128 = o := by rw [hoe]; exact or128 op ho
  have eop : IntKind.u8.wrap op = op := by rw [IntKind.wrap_u8]; omega
  have ev : IntKind.u8.wrap v = v := by rw [IntKind.wrap_u8]; omega
  rw [← hoe] at HZ
  have HI := Lib.hid (mem_two (P := i64P) h1 h2)
  clear hoe ho hv h1 h2
  go_enter Try.func20, Try.ntmps20
  go_upto_region 1 with (fail)
  obtain ⟨w1, hw1, hbk, hbl, hsz1⟩ := box_new w (ansC v rem ret) 38
  change Code.wp _ _ _ _ (w.alloc (.cells (ansC v rem ret) 38))
  rw [hw1]
  obtain ⟨b0, hb0⟩ : ∃ b0, b0 = w.heap.size := ⟨_, rfl⟩
  rw [← hb0] at hbk hsz1 ⊢
  have HB0 := Lib.hid hb0
  have BL := Lib.hid hbl
  have SB := Lib.hid (show b0 + 1 ≤ w1.heap.size from by rw [hsz1]; exact Nat.le_refl _)
  have k1a := (hbk.alloc (.cells #[.int .u8 o, .int .u8 v] 5)).rd
  have k0 := hbk.rd
  have CN := Lib.hid (show Calls Try.prog 36 #[.slice (some ⟨w1.heap.size, 0, none⟩) 2 2, .slice (some ⟨w1.heap.size + 1, 0, none⟩) 2 2] ((w1.alloc (.cells #[.int .u8 o, .int .u8 v] 5)).alloc (.cells #[.int .i64 rem, .int .i64 ret] 2)) (fun e w' => ∃ v', e = .returned v' ∧ Own w' (b0 + 1) v' (ansZ op v rem ret) ∧ FrU (b0 + 1) ((w1.alloc (.cells #[.int .u8 o, .int .u8 v] 5)).alloc (.cells #[.int .i64 rem, .int .i64 ret] 2)) w') from by
    rw [← HZ.out]
    exact numbers_u (b0 + 1) _ [o, v] (w1.heap.size + 1) 2 [rem, ret] HI.out rfl (by simp) _ ((own_lit w1 (b0 + 1) 2 [o, v] SB.out rfl (by unfold maxLen; omega)).below ((Below.refl _ _).alloc (Nat.le_refl _) (.cells #[.int .i64 rem, .int .i64 ret] 2))) (by have := SB.out; simp; omega) (two_lit w1 (.cells #[.int .u8 o, .int .u8 v] 5) #[.int .i64 rem, .int .i64 ret] 2))
  have BL3 := Lib.hid ((BL.out.alloc BL.out.size (.cells #[.int .u8 o, .int .u8 v] 5)).alloc (by have := BL.out.size; simp; omega) (.cells #[.int .i64 rem, .int .i64 ret] 2))
  clear hbk hbl hsz1 hw1 hb0
  go_wp2_with (first
    | (go_at_call 36; ((with_reducible refine CN.out.mono ?_); rintro e w4 ⟨v4, rfl, o4, f4⟩; obtain ⟨g4, c4, rfl, r4, _⟩ := own_rdn o4 HBY.out 18 (ans_length _ _ _ _) (by omega); have R4 := Lib.hid r4; have BL4 := Lib.hid (BL3.out.trans ((f4.more (Nat.le_succ b0)).below (by have := SB.out; simp; omega) |>.mono (by have := HB0.out; omega))); clear o4 f4 r4))
    | (go_at_call 32; ((with_reducible refine (framed_any 168 (by omega) _ 18 _ _ (by omega) _ R4.out).mono ?_); rintro e w5 ⟨v5, rfl, o5, b5⟩; have O5 := Lib.hid o5; have BL5 := Lib.hid (BL4.out.trans (b5.mono BL4.out.size)); clear o5 b5)))
  go_ret
  refine ⟨v5, rfl, ?_, BL5.out⟩
  have := O5.out.more (base' := w.heap.size) BL4.out.size
  unfold frmZ
  rw [ans_length]
  exact this
set_option maxHeartbeats 4000000 in
theorem totalled_any (rule a d b c wt : Int) (hr : 0 ≤ rule ∧ rule ≤ 255) (h1 : i64P a) (h2 : i64P d) (h3 : i64P b) (h4 : i64P c) (h5 : i64P wt) (w : World) :
    Calls Try.prog 22 #[.int .i64 rule, .agg (totC a d b c wt)] w fun e w' => ∃ v', e = .returned v' ∧ Own w' w.heap.size v' (frmZ (totZ rule a d b c wt)) ∧ Below w.heap.size w w' := by
  have HZ := Lib.hid (tot_be rule a d b c wt)
  have HBY := Lib.hid (tot_byt (a := a) (d := d) (b := b) (c := c) (wt := wt) hr)
  have eop : IntKind.u8.wrap rule = rule := by rw [IntKind.wrap_u8]; omega
  have HI := Lib.hid (mem_five (P := i64P) h1 h2 h3 h4 h5)
  clear hr h1 h2 h3 h4 h5
  go_enter Try.func22, Try.ntmps22
  go_upto_region 1 with (fail)
  obtain ⟨w1, hw1, hbk, hbl, hsz1⟩ := box_new w (totC a d b c wt) 40
  change Code.wp _ _ _ _ (w.alloc (.cells (totC a d b c wt) 40))
  rw [hw1]
  obtain ⟨b0, hb0⟩ : ∃ b0, b0 = w.heap.size := ⟨_, rfl⟩
  rw [← hb0] at hbk hsz1 ⊢
  have HB0 := Lib.hid hb0
  have BL := Lib.hid hbl
  have SB := Lib.hid (show b0 + 1 ≤ w1.heap.size from by rw [hsz1]; exact Nat.le_refl _)
  have k1a := (hbk.alloc (.cells #[.int .u8 131, .int .u8 rule] 5)).rd
  have k0 := hbk.rd
  have CN := Lib.hid (show Calls Try.prog 36 #[.slice (some ⟨w1.heap.size, 0, none⟩) 2 2, .slice (some ⟨w1.heap.size + 1, 0, none⟩) 5 5] ((w1.alloc (.cells #[.int .u8 131, .int .u8 rule] 5)).alloc (.cells #[.int .i64 a, .int .i64 d, .int .i64 b, .int .i64 c, .int .i64 wt] 2)) (fun e w' => ∃ v', e = .returned v' ∧ Own w' (b0 + 1) v' (totZ rule a d b c wt) ∧ FrU (b0 + 1) ((w1.alloc (.cells #[.int .u8 131, .int .u8 rule] 5)).alloc (.cells #[.int .i64 a, .int .i64 d, .int .i64 b, .int .i64 c, .int .i64 wt] 2)) w') from by
    rw [← HZ.out]
    exact numbers_u (b0 + 1) _ [131, rule] (w1.heap.size + 1) 5 [a, d, b, c, wt] HI.out rfl (by simp) _ ((own_lit w1 (b0 + 1) 2 [131, rule] SB.out rfl (by unfold maxLen; omega)).below ((Below.refl _ _).alloc (Nat.le_refl _) (.cells #[.int .i64 a, .int .i64 d, .int .i64 b, .int .i64 c, .int .i64 wt] 2))) (by have := SB.out; simp; omega) (two_lit w1 (.cells #[.int .u8 131, .int .u8 rule] 5) #[.int .i64 a, .int .i64 d, .int .i64 b, .int .i64 c, .int .i64 wt] 2))
  have BL3 := Lib.hid ((BL.out.alloc BL.out.size (.cells #[.int .u8 131, .int .u8 rule] 5)).alloc (by have := BL.out.size; simp; omega) (.cells #[.int .i64 a, .int .i64 d, .int .i64 b, .int .i64 c, .int .i64 wt] 2))
  clear hbk hbl hsz1 hw1 hb0
  go_wp2_with (first
    | (go_at_call 36; ((with_reducible refine CN.out.mono ?_); rintro e w4 ⟨v4, rfl, o4, f4⟩; obtain ⟨g4, c4, rfl, r4, _⟩ := own_rdn o4 HBY.out 42 (tot_length _ _ _ _ _ _) (by omega); have R4 := Lib.hid r4; have BL4 := Lib.hid (BL3.out.trans ((f4.more (Nat.le_succ b0)).below (by have := SB.out; simp; omega) |>.mono (by have := HB0.out; omega))); clear o4 f4 r4))
    | (go_at_call 32; ((with_reducible refine (framed_any 168 (by omega) _ 42 _ _ (by omega) _ R4.out).mono ?_); rintro e w5 ⟨v5, rfl, o5, b5⟩; have O5 := Lib.hid o5; have BL5 := Lib.hid (BL4.out.trans (b5.mono BL4.out.size)); clear o5 b5)))
  go_ret
  refine ⟨v5, rfl, ?_, BL5.out⟩
  have := O5.out.more (base' := w.heap.size) BL4.out.size
  unfold frmZ
  rw [tot_length]
  exact this
theorem err_byt {e : Int} (h : 0 ≤ e ∧ e ≤ 255) : byt (errZ e) := mem_two (P := fun z => 0 ≤ z ∧ z ≤ 255) (by omega) h
set_option maxHeartbeats 4000000 in
theorem faulted_any (x : Int) (h : 0 ≤ x ∧ x ≤ 255) (w : World) :
    Calls Try.prog 28 #[.int .i64 x] w fun e w' => ∃ v', e = .returned v' ∧ Own w' w.heap.size v' (frmZ (errZ x)) ∧ Below w.heap.size w w' := by
  have ex : IntKind.u8.wrap x = x := by rw [IntKind.wrap_u8]; omega
  have RL := Lib.hid (show RdI (w.alloc (.cells #[.int .u8 255, .int .u8 x] 5)) .u8 (some ⟨w.heap.size, 0, none⟩) 2 2 [255, x] from rd_blk (heap_alloc_new w _) rfl (by unfold maxLen; omega) (fun z hz => u8_wf (err_byt h z hz)))
  have BL := Lib.hid ((Below.refl w.heap.size w).alloc (Nat.le_refl _) (.cells #[.int .u8 255, .int .u8 x] 5))
  clear h
  go_enter Try.func28, Try.ntmps28
  go_wp2_with (go_at_call 32; ((with_reducible refine (framed_any 168 (by omega) _ 2 _ _ (by omega) _ RL.out).mono ?_); rintro e w5 ⟨v5, rfl, o5, b5⟩; have O5 := Lib.hid o5; have BL5 := Lib.hid (BL.out.trans (b5.mono BL.out.size)); clear o5 b5))
  go_ret
  refine ⟨v5, rfl, ?_, BL5.out⟩
  exact O5.out.more (base' := w.heap.size) BL.out.size
set_option maxHeartbeats 4000000 in
theorem rwhole_any (A : Option Addr) (n c : Nat) (zs : List Int) (hn : n < 65536) (w : World) (hr : RdI w .u8 A n c zs) :
    Calls Try.prog 38 #[.slice A n c] w fun e w' => ∃ v', e = .returned v' ∧ Own w' w.heap.size v' (frmZ zs) ∧ Below w.heap.size w w' := by
  have hcp := hr.cap
  have hmx := hr.max
  unfold maxLen at hmx
  obtain ⟨h, hh⟩ : ∃ h, h = (n : Int) / 256 := ⟨_, rfl⟩
  obtain ⟨l, hl⟩ : ∃ l, l = (n : Int) % 256 := ⟨_, rfl⟩
  have e0 : (n : Int).tdiv 256 = h := by rw [hh]; exact Int.tdiv_eq_ediv_of_nonneg (by omega)
  have e1 : (n : Int).tmod 256 = l := by rw [hl]; exact Int.tmod_eq_emod_of_nonneg (by omega)
  have e4 : wrap64 h = h := by unfold wrap64; omega
  have e2 : IntKind.u8.wrap h = h := by rw [IntKind.wrap_u8]; omega
  have e3 : IntKind.u8.wrap l = l := by rw [IntKind.wrap_u8]; omega
  have HRI := Lib.hid hr
  have HF := Lib.hid (show 168 :: 1 :: h :: l :: zs = frmZ zs from by unfold frmZ; rw [hr.len, be_two]; simp; omega)
  have OL := Lib.hid (show Own (w.alloc (.cells #[.int .u8 168, .int .u8 1, .int .u8 h, .int .u8 l] 5)) w.heap.size (.slice (some ⟨w.heap.size, 0, none⟩) 4 4) [168, 1, h, l] from own_lit w w.heap.size 4 [168, 1, h, l] (Nat.le_refl _) rfl (by unfold maxLen; omega))
  have BL := Lib.hid ((Below.refl w.heap.size w).alloc (Nat.le_refl _) (.cells #[.int .u8 168, .int .u8 1, .int .u8 h, .int .u8 l] 5))
  clear hr hh hl
  go_enter Try.func38, Try.ntmps38
  go_wp2_with (at_builtin; refine wpList_appI (by rfl) _ _ c (by rfl) (by rfl) (by rfl) OL.out (HRI.out.below BL.out) (by simp; omega) (by simp) ?_; intro v2 w2 hown2 hgrow2; have HO2 := Lib.hid hown2; have HG2 := Lib.hid hgrow2; clear hown2 hgrow2)
  go_ret
  refine ⟨v2, rfl, ?_, BL.out.trans ((fr_row HG2.out).below BL.out.size (fun k hk => (OL.out.lt k hk).1))⟩
  rw [← HF.out]
  exact HO2.out
set_option maxHeartbeats 1000000 in
theorem rfaulted_any (x : Int) (h : 0 ≤ x ∧ x ≤ 255) (w : World) :
    Calls Try.prog 29 #[.int .i64 x] w fun e w' => ∃ v', e = .returned v' ∧ Own w' w.heap.size v' (frmZ (errZ x)) ∧ Below w.heap.size w w' := by
  have ex : IntKind.u8.wrap x = x := by rw [IntKind.wrap_u8]; omega
  clear h
  go_enter Try.func29, Try.ntmps29
  go_wp2
  go_ret
  rw [show frmZ (errZ x) = [168, 1, 0, 2, 255, x] from by simp [frmZ, errZ, be]]
  exact ⟨_, rfl, own_lit w w.heap.size 6 [168, 1, 0, 2, 255, x] (Nat.le_refl _) rfl (by unfold maxLen; omega), (Below.refl w.heap.size w).alloc (Nat.le_refl _) _⟩
end Go.Proofs.Ytdhdheakhcddbaa
