/- The contracts of layer 13 (frame): the document's answers. -/
import Derived.Test.YtdhdheakhcddbaaFaA
import Derived.Deep.RegionHeld
namespace Go.Proofs.Ytdhdheakhcddbaa
set_option linter.unusedSimpArgs false
set_option linter.unusedVariables false
open Go.ChangeShapes Go.WideShapes Go.ChangeAt Go.RowKit
set_option maxHeartbeats 4000000 in
theorem ranswered_any (op v rem ret : Int) (ho : op = 1 ∨ op = 2) (hv : 1 ≤ v ∧ v ≤ 3) (h1 : i64P rem) (h2 : i64P ret) (w : World) :
    Calls Try.prog 23 #[.int .i64 op, .agg (ansC v rem ret)] w fun e w' => ∃ v', e = .returned v' ∧ Own w' w.heap.size v' (frmZ (ansZ op v rem ret)) ∧ Below w.heap.size w w' := by
  have HZ := Lib.hid (show ([128 + op, v] ++ be 8 rem) ++ be 8 ret = ansZ op v rem ret from by simp [ansZ])
  have HBY := Lib.hid (ans_byt (rem := rem) (ret := ret) ho hv)
  obtain ⟨o, hoe⟩ : ∃ o, o = 128 + op := ⟨_, rfl⟩
  have eo : 128 + op = o := hoe.symm
  have eop : IntKind.u8.wrap o = o := by rw [IntKind.wrap_u8]; omega
  have eow : IntKind.i64.wrap o = o := by rw [IntKind.wrap_i64]; omega
  have ev : IntKind.u8.wrap v = v := by rw [IntKind.wrap_u8]; omega
  rw [eo] at HZ
  have H1 := Lib.hid h1
  have H2 := Lib.hid h2
  clear hoe ho hv h1 h2
  go_enter Try.func23, Try.ntmps23
  go_upto_region 1 with (fail)
  obtain ⟨w1, hw1, hbk, hbl, hsz1⟩ := box_new w (ansC v rem ret) 38
  change Code.wp _ _ _ _ (w.alloc (.cells (ansC v rem ret) 38))
  rw [hw1]
  obtain ⟨b0, hb0⟩ : ∃ b0, b0 = w.heap.size := ⟨_, rfl⟩
  rw [← hb0] at hbk hsz1 ⊢
  have HB0 := Lib.hid hb0
  have BL := Lib.hid hbl
  have SB := Lib.hid (show b0 + 1 ≤ w1.heap.size from by rw [hsz1]; exact Nat.le_refl _)
  have y1 : ∀ i, w1.drew.cell? ⟨b0, i, none⟩ = (ansC v rem ret)[i]? := (Blk.drew hbk).rd
  have BK2 := Lib.hid (show Blk (w1.alloc (.cells #[.int .u8 o, .int .u8 v] 5)).drew b0 38 (ansC v rem ret) from (Blk.drew hbk).alloc (.cells #[.int .u8 o, .int .u8 v] 5))
  have OL := Lib.hid (own_lit w1.drew (b0 + 1) 2 [o, v] SB.out rfl (by unfold maxLen; omega))
  have BL2 := Lib.hid (show Below w.heap.size w (w1.alloc (.cells #[.int .u8 o, .int .u8 v] 5)).drew from (below_draws BL.out 1).alloc (show w.heap.size ≤ w1.drew.heap.size from BL.out.size) (.cells #[.int .u8 o, .int .u8 v] 5))
  have CN := Lib.hid (show Calls Try.prog 33 #[.slice (some ⟨w1.heap.size, 0, none⟩) 2 2, .int .i64 8, .int .u64 (IntKind.u64.wrap rem)] (w1.alloc (.cells #[.int .u8 o, .int .u8 v] 5)).drew (fun e w' => ∃ v', e = .returned v' ∧ Own w' (b0 + 1) v' ([o, v] ++ be 8 rem) ∧ FrU  (b0 + 1) (w1.alloc (.cells #[.int .u8 o, .int .u8 v] 5)).drew w') from
    put_v (b0 + 1) _ [o, v] rem H1.out (by simp) _ OL.out (by have := SB.out; show _ ≤ (w1.alloc _).heap.size; simp; omega))
  clear hbk hbl hsz1 hw1 hb0
  refine wp_region_held_drew (S := fun w' => ∀ i, w'.cell? ⟨b0, i, none⟩ = (ansC v rem ret)[i]?) (by kernel_rfl) y1 (fun hHeld => ?_)
  clear y1
  refine wpAnyH_take (i := 0) (oi := ?_) (v := ?_) ?_ ?_ ?_ ?_ ?_ ?_ ?_ ?_
  rotate_left 2
  · simp only [List.getElem?_toArray, List.getElem?_cons_succ, List.getElem?_cons_zero]; rfl
  · kernel_rfl
  · kernel_rfl
  · kernel_rfl
  · exact fun _ _ _ h => h
  · refine Or.inl ⟨by rfl, ?_⟩
    intro w' hSw
    (try dsimp only at hSw)
    go_simp
    all_goals (with_reducible rfl)
  · assumption
  try simp only [Act.put, List.setIfInBounds_toArray, List.set_cons_zero, List.set_cons_succ]
  refine wpAnyH_take (i := 1) (oi := ?_) (v := ?_) ?_ ?_ ?_ ?_ ?_ ?_ ?_ ?_
  rotate_left 2
  · simp only [List.getElem?_toArray, List.getElem?_cons_succ, List.getElem?_cons_zero]; rfl
  · kernel_rfl
  · kernel_rfl
  · kernel_rfl
  · exact fun _ _ _ h => h
  · refine Or.inl ⟨by rfl, ?_⟩
    intro w' hSw
    (try dsimp only at hSw)
    go_simp
    all_goals (with_reducible rfl)
  · assumption
  try simp only [Act.put, List.setIfInBounds_toArray, List.set_cons_zero, List.set_cons_succ]
  refine wpAnyH_take (i := 2) (oi := ?_) (v := ?_) ?_ ?_ ?_ ?_ ?_ ?_ ?_ ?_
  rotate_left 2
  · simp only [List.getElem?_toArray, List.getElem?_cons_succ, List.getElem?_cons_zero]; rfl
  · kernel_rfl
  · kernel_rfl
  · kernel_rfl
  · exact fun _ _ _ h => h
  · refine Or.inl ⟨by rfl, ?_⟩
    intro w' hSw
    (try dsimp only at hSw)
    go_simp
    all_goals (with_reducible rfl)
  · assumption
  try simp only [Act.put, List.setIfInBounds_toArray, List.set_cons_zero, List.set_cons_succ]
  refine wpAnyH_take (i := 3) (oi := ?_) (v := ?_) ?_ ?_ ?_ ?_ ?_ ?_ ?_ ?_
  rotate_left 2
  · simp only [List.getElem?_toArray, List.getElem?_cons_succ, List.getElem?_cons_zero]; rfl
  · kernel_rfl
  · kernel_rfl
  · kernel_rfl
  · exact fun _ _ _ h => h
  · refine Or.inl ⟨by rfl, ?_⟩
    intro w' hSw
    (try dsimp only at hSw)
    go_simp
    all_goals (with_reducible rfl)
  · assumption
  try simp only [Act.put, List.setIfInBounds_toArray, List.set_cons_zero, List.set_cons_succ]
  refine wpAnyH_take (i := 4) (oi := ?_) (v := ?_) ?_ ?_ ?_ ?_ ?_ ?_ ?_ ?_
  rotate_left 2
  · simp only [List.getElem?_toArray, List.getElem?_cons_succ, List.getElem?_cons_zero]; rfl
  · kernel_rfl
  · kernel_rfl
  · kernel_rfl
  · exact fun _ _ _ h => h
  · refine Or.inl ⟨by rfl, ?_⟩
    intro w' hSw
    (try dsimp only at hSw)
    go_simp
    all_goals (with_reducible rfl)
  · assumption
  try simp only [Act.put, List.setIfInBounds_toArray, List.set_cons_zero, List.set_cons_succ]
  refine wpAnyH_take (i := 5) (oi := ?_) (v := ?_) ?_ ?_ ?_ ?_ ?_ ?_ ?_ ?_
  rotate_left 2
  · simp only [List.getElem?_toArray, List.getElem?_cons_succ, List.getElem?_cons_zero]; rfl
  · kernel_rfl
  · kernel_rfl
  · kernel_rfl
  · exact fun _ _ _ h => h
  · refine Or.inl ⟨by rfl, ?_⟩
    intro w' hSw
    (try dsimp only at hSw)
    go_simp
    all_goals (with_reducible rfl)
  · assumption
  try simp only [Act.put, List.setIfInBounds_toArray, List.set_cons_zero, List.set_cons_succ]
  refine wpAnyH_take (i := 7) (oi := ?_) (v := ?_) ?_ ?_ ?_ ?_ ?_ ?_ ?_ ?_
  rotate_left 2
  · simp only [List.getElem?_toArray, List.getElem?_cons_succ, List.getElem?_cons_zero]; rfl
  · kernel_rfl
  · kernel_rfl
  · kernel_rfl
  · exact fun _ _ _ h => h
  · refine Or.inl ⟨by rfl, ?_⟩
    intro w' hSw
    (try dsimp only at hSw)
    go_simp
    all_goals (with_reducible rfl)
  · assumption
  try simp only [Act.put, List.setIfInBounds_toArray, List.set_cons_zero, List.set_cons_succ]
  refine wpAnyH_take (i := 8) (oi := ?_) (v := ?_) ?_ ?_ ?_ ?_ ?_ ?_ ?_ ?_
  rotate_left 2
  · simp only [List.getElem?_toArray, List.getElem?_cons_succ, List.getElem?_cons_zero]; rfl
  · kernel_rfl
  · kernel_rfl
  · kernel_rfl
  · exact fun _ _ _ h => h
  · refine Or.inl ⟨by rfl, ?_⟩
    intro w' hSw
    (try dsimp only at hSw)
    go_simp
    all_goals (with_reducible rfl)
  · assumption
  try simp only [Act.put, List.setIfInBounds_toArray, List.set_cons_zero, List.set_cons_succ]
  refine wpAnyH_take (i := 9) (oi := ?_) (v := ?_) ?_ ?_ ?_ ?_ ?_ ?_ ?_ ?_
  rotate_left 2
  · simp only [List.getElem?_toArray, List.getElem?_cons_succ, List.getElem?_cons_zero]; rfl
  · kernel_rfl
  · kernel_rfl
  · kernel_rfl
  · exact fun _ _ _ h => h
  · refine Or.inl ⟨by rfl, ?_⟩
    intro w' hSw
    (try dsimp only at hSw)
    go_simp
    all_goals (with_reducible rfl)
  · assumption
  try simp only [Act.put, List.setIfInBounds_toArray, List.set_cons_zero, List.set_cons_succ]
  refine wpAnyH_take (i := 11) (oi := ?_) (v := ?_) ?_ ?_ ?_ ?_ ?_ ?_ ?_ ?_
  rotate_left 2
  · simp only [List.getElem?_toArray, List.getElem?_cons_succ, List.getElem?_cons_zero]; rfl
  · kernel_rfl
  · kernel_rfl
  · kernel_rfl
  · exact fun _ _ _ h => h
  · refine Or.inl ⟨by rfl, ?_⟩
    intro w' hSw
    (try dsimp only at hSw)
    go_simp
    all_goals (with_reducible rfl)
  · assumption
  try simp only [Act.put, List.setIfInBounds_toArray, List.set_cons_zero, List.set_cons_succ]
  refine wpAnyH_take (i := 12) (oi := ?_) (v := ?_) ?_ ?_ ?_ ?_ ?_ ?_ ?_ ?_
  rotate_left 2
  · simp only [List.getElem?_toArray, List.getElem?_cons_succ, List.getElem?_cons_zero]; rfl
  · kernel_rfl
  · kernel_rfl
  · kernel_rfl
  · exact fun _ _ _ h => h
  · refine Or.inl ⟨by rfl, ?_⟩
    intro w' hSw
    (try dsimp only at hSw)
    go_simp
    all_goals (with_reducible rfl)
  · assumption
  try simp only [Act.put, List.setIfInBounds_toArray, List.set_cons_zero, List.set_cons_succ]
  refine wpAnyH_take (i := 13) (oi := ?_) (v := ?_) ?_ ?_ ?_ ?_ ?_ ?_ ?_ ?_
  rotate_left 2
  · simp only [List.getElem?_toArray, List.getElem?_cons_succ, List.getElem?_cons_zero]; rfl
  · kernel_rfl
  · kernel_rfl
  · kernel_rfl
  · exact fun _ _ _ h => h
  · refine Or.inl ⟨by rfl, ?_⟩
    intro w' hSw
    (try dsimp only at hSw)
    go_simp
    all_goals (with_reducible rfl)
  · assumption
  try simp only [Act.put, List.setIfInBounds_toArray, List.set_cons_zero, List.set_cons_succ]
  refine wpAnyH_ready (rs := [6]) (by kernel_rfl) (by simp) ?_
  refine AllReadyH.cons (o := ?_) ?_ ?_ ?_
  rotate_left 1
  · simp only [List.getElem?_toArray, List.getElem?_cons_succ, List.getElem?_cons_zero]; rfl
  rotate_left 1
  · exact AllReadyH.nil
  intro K hK
  go_simp
  skip
  refine hK.out _ _ BK2.out.rd (fun hHeld => ?_)
  clear hK K
  try simp only [Act.put, List.setIfInBounds_toArray, List.set_cons_zero, List.set_cons_succ]
  refine wpAnyH_ready (rs := [10]) (by kernel_rfl) (by simp) ?_
  refine AllReadyH.cons (o := ?_) ?_ ?_ ?_
  rotate_left 1
  · simp only [List.getElem?_toArray, List.getElem?_cons_succ, List.getElem?_cons_zero]; rfl
  rotate_left 1
  · exact AllReadyH.nil
  intro K hK
  go_simp
  ((with_reducible refine CN.out.mono ?_); rintro e w4 ⟨v4, rfl, o4, f4⟩; have O4 := Lib.hid o4; have SB4 := Lib.hid (show b0 + 1 ≤ w4.heap.size from by have h1 := SB.out; have h2 := f4.size; have h3 : (w1.alloc (.cells #[.int .u8 o, .int .u8 v] 5)).drew.heap.size = w1.heap.size + 1 := (by show (w1.alloc _).heap.size = _; simp); omega); have BK4 := Lib.hid (f4.blk BK2.out (.inl (Nat.lt_succ_self _))); have BL4 := Lib.hid (BL2.out.trans ((f4.more (Nat.le_succ b0)).below (by have := SB.out; show _ ≤ (w1.alloc _).heap.size; simp; omega) |>.mono (by have := HB0.out; omega))); clear o4 f4)
  refine hK.out _ _ BK4.out.rd (fun hHeld => ?_)
  clear hK K
  try simp only [Act.put, List.setIfInBounds_toArray, List.set_cons_zero, List.set_cons_succ]
  refine wpAnyH_ready (rs := [14]) (by kernel_rfl) (by simp) ?_
  refine AllReadyH.cons (o := ?_) ?_ ?_ ?_
  rotate_left 1
  · simp only [List.getElem?_toArray, List.getElem?_cons_succ, List.getElem?_cons_zero]; rfl
  rotate_left 1
  · exact AllReadyH.nil
  intro K hK
  go_simp
  ((with_reducible refine (put_v (b0 + 1) _ _ ret H2.out (by simp [be_length]) _ O4.out SB4.out).mono ?_); rintro e w5 ⟨v5, rfl, o5, f5⟩; rw [HZ.out] at o5; obtain ⟨g5, c5, rfl, r5, _⟩ := own_rdn o5 HBY.out 18 (ans_length _ _ _ _) (by omega); have R5 := Lib.hid r5; have BK5 := Lib.hid (f5.blk BK4.out (.inl (Nat.lt_succ_self _))); have BL5 := Lib.hid (BL4.out.trans ((f5.more (Nat.le_succ b0)).below (by have := BL4.out.size; have := HB0.out; omega) |>.mono (by have := HB0.out; omega))); clear o5 f5 r5)
  refine hK.out _ _ BK5.out.rd (fun hHeld => ?_)
  clear hK K
  try simp only [Act.put, List.setIfInBounds_toArray, List.set_cons_zero, List.set_cons_succ]
  refine wpAnyH_ready (rs := [15]) (by kernel_rfl) (by simp) ?_
  refine AllReadyH.cons (o := ?_) ?_ ?_ ?_
  rotate_left 1
  · simp only [List.getElem?_toArray, List.getElem?_cons_succ, List.getElem?_cons_zero]; rfl
  rotate_left 1
  · exact AllReadyH.nil
  intro K hK
  go_simp
  ((with_reducible refine (rwhole_any _ 18 _ _ (by omega) _ R5.out).mono ?_); rintro e w6 ⟨v6, rfl, o6, b6⟩; have O6 := Lib.hid o6; have K6 := Lib.hid b6; have BL6 := Lib.hid (BL5.out.trans (b6.mono BL5.out.size)); clear o6 b6)
  refine hK.out _ _ (BK5.out.keep K6.out).rd (fun hHeld => ?_)
  clear hK K
  try simp only [Act.put, List.setIfInBounds_toArray, List.set_cons_zero, List.set_cons_succ]
  refine wpAnyH_take (i := 16) (oi := ?_) (v := ?_) ?_ ?_ ?_ ?_ ?_ ?_ ?_ ?_
  rotate_left 2
  · simp only [List.getElem?_toArray, List.getElem?_cons_succ, List.getElem?_cons_zero]; rfl
  · kernel_rfl
  · kernel_rfl
  · kernel_rfl
  · exact fun _ _ _ h => h
  · refine Or.inl ⟨by rfl, ?_⟩
    intro w' hSw
    (try dsimp only at hSw)
    go_simp
    all_goals (with_reducible rfl)
  · assumption
  try simp only [Act.put, List.setIfInBounds_toArray, List.set_cons_zero, List.set_cons_succ]
  refine wpAnyH_done (by kernel_rfl) ?_ _
  go_wp2
  go_ret
  exact ⟨v6, rfl, O6.out.more BL5.out.size, BL6.out⟩
set_option maxHeartbeats 4000000 in
theorem rtotalled_any (rule a d b c wt : Int) (hr : 0 ≤ rule ∧ rule ≤ 255) (h1 : i64P a) (h2 : i64P d) (h3 : i64P b) (h4 : i64P c) (h5 : i64P wt) (w : World) :
    Calls Try.prog 24 #[.int .i64 rule, .agg (totC a d b c wt)] w fun e w' => ∃ v', e = .returned v' ∧ Own w' w.heap.size v' (frmZ (totZ rule a d b c wt)) ∧ Below w.heap.size w w' := by
  have HZ := Lib.hid (show (((([131, rule] ++ be 8 a) ++ be 8 d) ++ be 8 b) ++ be 8 c) ++ be 8 wt = totZ rule a d b c wt from by simp [totZ])
  have HBY := Lib.hid (tot_byt (a := a) (d := d) (b := b) (c := c) (wt := wt) hr)
  have eop : IntKind.u8.wrap rule = rule := by rw [IntKind.wrap_u8]; omega
  have H1 := Lib.hid h1
  have H2 := Lib.hid h2
  have H3 := Lib.hid h3
  have H4 := Lib.hid h4
  have H5 := Lib.hid h5
  clear hr h1 h2 h3 h4 h5
  go_enter Try.func24, Try.ntmps24
  go_upto_region 1 with (fail)
  obtain ⟨w1, hw1, hbk, hbl, hsz1⟩ := box_new w (totC a d b c wt) 40
  change Code.wp _ _ _ _ (w.alloc (.cells (totC a d b c wt) 40))
  rw [hw1]
  obtain ⟨b0, hb0⟩ : ∃ b0, b0 = w.heap.size := ⟨_, rfl⟩
  rw [← hb0] at hbk hsz1 ⊢
  have HB0 := Lib.hid hb0
  have BL := Lib.hid hbl
  have SB := Lib.hid (show b0 + 1 ≤ w1.heap.size from by rw [hsz1]; exact Nat.le_refl _)
  have BK2 := Lib.hid (hbk.alloc (.cells #[.int .u8 131, .int .u8 rule] 5))
  have k2 := BK2.out.rd
  have OL := Lib.hid (show Own (w1.alloc (.cells #[.int .u8 131, .int .u8 rule] 5)) (b0 + 1) (.slice (some ⟨w1.heap.size, 0, none⟩) 2 2) [131, rule] from own_lit w1 (b0 + 1) 2 [131, rule] SB.out rfl (by unfold maxLen; omega))
  have BL2 := Lib.hid (BL.out.alloc BL.out.size (.cells #[.int .u8 131, .int .u8 rule] 5))
  have SB2 := Lib.hid (show b0 + 1 ≤ (w1.alloc (.cells #[.int .u8 131, .int .u8 rule] 5)).heap.size from by have := SB.out; simp; omega)
  have CN := Lib.hid (put_v (b0 + 1) _ [131, rule] a H1.out (by simp) _ OL.out SB2.out)
  clear hbk hbl hsz1 hw1 hb0
  go_wp2_with (first
    | (go_at_call 33; ((with_reducible refine (CN.out).mono ?_); rintro e w4 ⟨v4, rfl, o0, f0⟩; have O0 := Lib.hid o0; have BK10 := Lib.hid (f0.blk BK2.out (.inl (Nat.lt_succ_self _))); have k10 := BK10.out.rd; have BL10 := Lib.hid (BL2.out.trans ((f0.more (Nat.le_succ b0)).below (by have := SB2.out; omega) |>.mono (by have := HB0.out; omega))); have SB10 := Lib.hid (Nat.le_trans SB2.out f0.size); clear o0 f0))
    | (go_at_call 33; ((with_reducible refine (put_v (b0 + 1) _ _ d H2.out (by simp [be_length]) _ O0.out SB10.out).mono ?_); rintro e w5 ⟨v5, rfl, o1, f1⟩; have O1 := Lib.hid o1; have BK11 := Lib.hid (f1.blk BK10.out (.inl (Nat.lt_succ_self _))); have k11 := BK11.out.rd; have BL11 := Lib.hid (BL10.out.trans ((f1.more (Nat.le_succ b0)).below (by have := SB10.out; omega) |>.mono (by have := HB0.out; omega))); have SB11 := Lib.hid (Nat.le_trans SB10.out f1.size); clear o1 f1))
    | (go_at_call 33; ((with_reducible refine (put_v (b0 + 1) _ _ b H3.out (by simp [be_length]) _ O1.out SB11.out).mono ?_); rintro e w6 ⟨v6, rfl, o2, f2⟩; have O2 := Lib.hid o2; have BK12 := Lib.hid (f2.blk BK11.out (.inl (Nat.lt_succ_self _))); have k12 := BK12.out.rd; have BL12 := Lib.hid (BL11.out.trans ((f2.more (Nat.le_succ b0)).below (by have := SB11.out; omega) |>.mono (by have := HB0.out; omega))); have SB12 := Lib.hid (Nat.le_trans SB11.out f2.size); clear o2 f2))
    | (go_at_call 33; ((with_reducible refine (put_v (b0 + 1) _ _ c H4.out (by simp [be_length]) _ O2.out SB12.out).mono ?_); rintro e w7 ⟨v7, rfl, o3, f3⟩; have O3 := Lib.hid o3; have BK13 := Lib.hid (f3.blk BK12.out (.inl (Nat.lt_succ_self _))); have k13 := BK13.out.rd; have BL13 := Lib.hid (BL12.out.trans ((f3.more (Nat.le_succ b0)).below (by have := SB12.out; omega) |>.mono (by have := HB0.out; omega))); have SB13 := Lib.hid (Nat.le_trans SB12.out f3.size); clear o3 f3))
    | (go_at_call 33; ((with_reducible refine (put_v (b0 + 1) _ _ wt H5.out (by simp [be_length]) _ O3.out SB13.out).mono ?_); rintro e w8 ⟨v8, rfl, o4, f4⟩; have O4 := Lib.hid o4; have BK14 := Lib.hid (f4.blk BK13.out (.inl (Nat.lt_succ_self _))); have k14 := BK14.out.rd; have BL14 := Lib.hid (BL13.out.trans ((f4.more (Nat.le_succ b0)).below (by have := SB13.out; omega) |>.mono (by have := HB0.out; omega))); have SB14 := Lib.hid (Nat.le_trans SB13.out f4.size); clear o4 f4; have OZ := O4.out; rw [HZ.out] at OZ; obtain ⟨g5, c5, rfl, r5, _⟩ := own_rdn OZ HBY.out 42 (tot_length _ _ _ _ _ _) (by omega); have R5 := Lib.hid r5; clear OZ r5))
    | (go_at_call 38; ((with_reducible refine (rwhole_any _ 42 _ _ (by omega) _ R5.out).mono ?_); rintro e w9 ⟨v9, rfl, o9, b9⟩; have O9 := Lib.hid o9; have BL9 := Lib.hid (BL14.out.trans (b9.mono BL14.out.size)); clear o9 b9)))
  go_ret
  exact ⟨v9, rfl, O9.out.more BL14.out.size, BL9.out⟩
end Go.Proofs.Ytdhdheakhcddbaa
