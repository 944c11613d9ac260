/- The contracts of layer 21 (report): the line of an answer. -/
import Derived.Test.YtghhoofdbmgacaaDoorRpB
namespace Go.Proofs.YtghhoofdbmgacaaDoor
set_option linter.unusedSimpArgs false
set_option linter.unusedVariables false
open Go.ChangeShapes Go.WideShapes Go.ChangeAt Go.RowKit Go.Deep
abbrev ver1 : ByteArray := ⟨#[97, 108, 108, 111, 119]⟩
theorem lit_allow : (⟨#[97, 108, 108, 111, 119]⟩ : ByteArray) = strOfNums [97, 108, 108, 111, 119] := by apply ByteArray.ext; rfl
theorem lit_deny : (⟨#[100, 101, 110, 121]⟩ : ByteArray) = strOfNums [100, 101, 110, 121] := by apply ByteArray.ext; rfl
theorem lit_cost : (⟨#[99, 111, 115, 116]⟩ : ByteArray) = strOfNums [99, 111, 115, 116] := by apply ByteArray.ext; rfl
theorem lit_check : (⟨#[99, 104, 101, 99, 107]⟩ : ByteArray) = strOfNums [99, 104, 101, 99, 107] := by apply ByteArray.ext; rfl
theorem lit_peek : (⟨#[112, 101, 101, 107]⟩ : ByteArray) = strOfNums [112, 101, 101, 107] := by apply ByteArray.ext; rfl
theorem lit_stats : (⟨#[115, 116, 97, 116, 115]⟩ : ByteArray) = strOfNums [115, 116, 97, 116, 115] := by apply ByteArray.ext; rfl
theorem lit_top : (⟨#[116, 111, 112]⟩ : ByteArray) = strOfNums [116, 111, 112] := by apply ByteArray.ext; rfl
theorem lit_fault : (⟨#[102, 97, 117, 108, 116]⟩ : ByteArray) = strOfNums [102, 97, 117, 108, 116] := by apply ByteArray.ext; rfl
theorem lit_sp : (⟨#[32]⟩ : ByteArray) = strOfNums [32] := by apply ByteArray.ext; rfl
theorem verdict_any (v : Int) (w : World) :
    Calls Tryd.prog 20 #[.int .i64 v] w fun e w' => e = .returned (.string (strOfNums (verZ v))) ∧ w = w' := by
  by_cases h1 : v = 1
  · subst h1
    go_enter Tryd.func20, Tryd.ntmps20
    go_wp2
    go_ret
    exact ⟨congrArg (fun z => Ending.returned (.string z)) lit_allow, rfl⟩
  · have t1 : (v == 1) = false := by simpa using h1
    by_cases h2 : v = 2
    · subst h2
      go_enter Tryd.func20, Tryd.ntmps20
      go_wp2
      go_ret
      exact ⟨congrArg (fun z => Ending.returned (.string z)) lit_deny, rfl⟩
    · have t2 : (v == 2) = false := by simpa using h2
      have e : (⟨#[99, 111, 115, 116]⟩ : ByteArray) = strOfNums (verZ v) := by unfold verZ; rw [if_neg h1, if_neg h2]; exact lit_cost
      have E := Lib.hid e
      clear e h1 h2
      go_enter Tryd.func20, Tryd.ntmps20
      go_wp2
      go_ret
      exact ⟨congrArg (fun z => Ending.returned (.string z)) E.out, rfl⟩
theorem ver_len (v : Int) : (verZ v).length ≤ 5 := by
  unfold verZ
  split
  · decide
  · split <;> decide
set_option maxHeartbeats 8000000 in
theorem ranswer_any (word : List Int) (hw : word.length ≤ 10) (v rem ret : Int) (h1 : i64P rem) (h2 : i64P ret) (w : World) (ht : Tb w) :
    Calls Tryd.prog 14 #[.string (strOfNums word), .agg (ansC v rem ret)] w fun e w' => e = .returned (.string (strOfNums (word ++ (32 :: (verZ v ++ numsZ [rem, ret]))))) ∧ Below w.heap.size w w' := by
  obtain ⟨s0, hs0⟩ : ∃ s, s = strOfNums word := ⟨_, rfl⟩
  obtain ⟨s1, hs1⟩ : ∃ s, s = strOfNums (verZ v) := ⟨_, rfl⟩
  obtain ⟨s2, hs2⟩ : ∃ s, s = strOfNums (numsZ [rem, ret]) := ⟨_, rfl⟩
  have HS := Lib.hid (show ((s0 ++ (⟨#[32]⟩ : ByteArray)) ++ s1) ++ s2 = strOfNums (word ++ (32 :: (verZ v ++ numsZ [rem, ret]))) from by
    rw [hs0, hs1, hs2, lit_sp, str_append, str_append, str_append]
    congr 1
    simp)
  have z0 : s0.size ≤ 10 := by rw [hs0, str_size]; exact hw
  have z1 : s1.size ≤ 5 := by rw [hs1, str_size]; exact ver_len v
  have z2 : s2.size ≤ 42 := by rw [hs2, str_size]; exact nums_len [rem, ret] (mem_two (P := i64P) h1 h2)
  have q1 : (9223372036854775807 < s0.size + 1) = False := eq_false (by omega)
  have q2 : (9223372036854775807 < s0.size + 1 + s1.size) = False := eq_false (by omega)
  have q3 : (9223372036854775807 < s0.size + 1 + s1.size + s2.size) = False := eq_false (by omega)
  have CV := Lib.hid (fun wx => show Calls Tryd.prog 20 #[.int .i64 v] wx (fun e w' => e = .returned (.string s1) ∧ wx = w') from by rw [hs1]; exact verdict_any v wx)
  have HT := Lib.hid ht
  have CN := Lib.hid (fun (wx : World) (gx : Nat) (h : Blk wx gx 2 #[.int .i64 rem, .int .i64 ret]) (hb : Below w.heap.size w wx) => show Calls Tryd.prog 15 #[.slice (some ⟨gx, 0, none⟩) 2 2] wx (fun e w' => e = .returned (.string s2) ∧ Below wx.heap.size wx w') from by rw [hs2]; exact rnums_any gx 2 [rem, ret] (mem_two (P := i64P) h1 h2) rfl (by omega) wx (ht.below hb) h)
  rw [← hs0]
  clear hs0 hs1 hs2 ht
  go_enter Tryd.func14, Tryd.ntmps14
  go_upto_region 1 with (fail)
  obtain ⟨w1, hw1, hbk, hbl, hsz1⟩ := box_new w (ansC v rem ret) 23
  change Code.wp _ _ _ _ (w.alloc (.cells (ansC v rem ret) 23))
  rw [hw1]
  obtain ⟨b0, hb0⟩ : ∃ b0, b0 = w.heap.size := ⟨_, rfl⟩
  rw [← hb0] at hbk ⊢
  have BK := Lib.hid hbk
  have BL := Lib.hid hbl
  have y1 : ∀ i, w1.drew.cell? ⟨b0, i, none⟩ = (ansC v rem ret)[i]? := (Blk.drew hbk).rd
  have BK2 := Lib.hid (show Blk (w1.alloc (.cells #[.int .i64 rem, .int .i64 ret] 2)).drew b0 23 (ansC v rem ret) from (Blk.drew hbk).alloc _)
  have KI := Lib.hid (show Blk (w1.alloc (.cells #[.int .i64 rem, .int .i64 ret] 2)).drew w1.heap.size 2 #[.int .i64 rem, .int .i64 ret] from heap_alloc_new w1.drew _)
  have BL2 := Lib.hid (show Below w.heap.size w (w1.alloc (.cells #[.int .i64 rem, .int .i64 ret] 2)).drew from below_draws (BL.out.alloc BL.out.size _) 1)
  clear hbk hbl hsz1 hw1 hb0
  refine wp_region_held_drew (S := fun w' => ∀ i, w'.cell? ⟨b0, i, none⟩ = (ansC v rem ret)[i]?) (by kernel_rfl) y1 (fun hHeld => ?_)
  clear y1
  refine wpAnyH_take (i := 0) (oi := ?_) (v := ?_) ?_ ?_ ?_ ?_ ?_ ?_ ?_ ?_
  rotate_left 2
  · simp only [List.getElem?_toArray, List.getElem?_cons_succ, List.getElem?_cons_zero]; rfl
  · kernel_rfl
  · kernel_rfl
  · kernel_rfl
  · exact fun _ _ _ h => h
  · refine Or.inl ⟨by rfl, ?_⟩
    intro w' hSw
    (try dsimp only at hSw)
    go_simp
    all_goals (with_reducible rfl)
  · assumption
  try simp only [Act.put, List.setIfInBounds_toArray, List.set_cons_zero, List.set_cons_succ]
  refine wpAnyH_take (i := 1) (oi := ?_) (v := ?_) ?_ ?_ ?_ ?_ ?_ ?_ ?_ ?_
  rotate_left 2
  · simp only [List.getElem?_toArray, List.getElem?_cons_succ, List.getElem?_cons_zero]; rfl
  · kernel_rfl
  · kernel_rfl
  · kernel_rfl
  · exact fun _ _ _ h => h
  · refine Or.inl ⟨by rfl, ?_⟩
    intro w' hSw
    (try dsimp only at hSw)
    go_simp
    all_goals (with_reducible rfl)
  · assumption
  try simp only [Act.put, List.setIfInBounds_toArray, List.set_cons_zero, List.set_cons_succ]
  refine wpAnyH_take (i := 2) (oi := ?_) (v := ?_) ?_ ?_ ?_ ?_ ?_ ?_ ?_ ?_
  rotate_left 2
  · simp only [List.getElem?_toArray, List.getElem?_cons_succ, List.getElem?_cons_zero]; rfl
  · kernel_rfl
  · kernel_rfl
  · kernel_rfl
  · exact fun _ _ _ h => h
  · refine Or.inl ⟨by rfl, ?_⟩
    intro w' hSw
    (try dsimp only at hSw)
    go_simp
    all_goals (with_reducible rfl)
  · assumption
  try simp only [Act.put, List.setIfInBounds_toArray, List.set_cons_zero, List.set_cons_succ]
  refine wpAnyH_take (i := 3) (oi := ?_) (v := ?_) ?_ ?_ ?_ ?_ ?_ ?_ ?_ ?_
  rotate_left 2
  · simp only [List.getElem?_toArray, List.getElem?_cons_succ, List.getElem?_cons_zero]; rfl
  · kernel_rfl
  · kernel_rfl
  · kernel_rfl
  · exact fun _ _ _ h => h
  · refine Or.inl ⟨by rfl, ?_⟩
    intro w' hSw
    (try dsimp only at hSw)
    go_simp
    all_goals (with_reducible rfl)
  · assumption
  try simp only [Act.put, List.setIfInBounds_toArray, List.set_cons_zero, List.set_cons_succ]
  refine wpAnyH_take (i := 6) (oi := ?_) (v := ?_) ?_ ?_ ?_ ?_ ?_ ?_ ?_ ?_
  rotate_left 2
  · simp only [List.getElem?_toArray, List.getElem?_cons_succ, List.getElem?_cons_zero]; rfl
  · kernel_rfl
  · kernel_rfl
  · kernel_rfl
  · exact fun _ _ _ h => h
  · refine Or.inl ⟨by rfl, ?_⟩
    intro w' hSw
    (try dsimp only at hSw)
    go_simp
    all_goals (with_reducible rfl)
  · assumption
  try simp only [Act.put, List.setIfInBounds_toArray, List.set_cons_zero, List.set_cons_succ]
  refine wpAnyH_take (i := 7) (oi := ?_) (v := ?_) ?_ ?_ ?_ ?_ ?_ ?_ ?_ ?_
  rotate_left 2
  · simp only [List.getElem?_toArray, List.getElem?_cons_succ, List.getElem?_cons_zero]; rfl
  · kernel_rfl
  · kernel_rfl
  · kernel_rfl
  · exact fun _ _ _ h => h
  · refine Or.inl ⟨by rfl, ?_⟩
    intro w' hSw
    (try dsimp only at hSw)
    go_simp
    all_goals (with_reducible rfl)
  · assumption
  try simp only [Act.put, List.setIfInBounds_toArray, List.set_cons_zero, List.set_cons_succ]
  refine wpAnyH_take (i := 8) (oi := ?_) (v := ?_) ?_ ?_ ?_ ?_ ?_ ?_ ?_ ?_
  rotate_left 2
  · simp only [List.getElem?_toArray, List.getElem?_cons_succ, List.getElem?_cons_zero]; rfl
  · kernel_rfl
  · kernel_rfl
  · kernel_rfl
  · exact fun _ _ _ h => h
  · refine Or.inl ⟨by rfl, ?_⟩
    intro w' hSw
    (try dsimp only at hSw)
    go_simp
    all_goals (with_reducible rfl)
  · assumption
  try simp only [Act.put, List.setIfInBounds_toArray, List.set_cons_zero, List.set_cons_succ]
  refine wpAnyH_take (i := 9) (oi := ?_) (v := ?_) ?_ ?_ ?_ ?_ ?_ ?_ ?_ ?_
  rotate_left 2
  · simp only [List.getElem?_toArray, List.getElem?_cons_succ, List.getElem?_cons_zero]; rfl
  · kernel_rfl
  · kernel_rfl
  · kernel_rfl
  · exact fun _ _ _ h => h
  · refine Or.inl ⟨by rfl, ?_⟩
    intro w' hSw
    (try dsimp only at hSw)
    go_simp
    all_goals (with_reducible rfl)
  · assumption
  try simp only [Act.put, List.setIfInBounds_toArray, List.set_cons_zero, List.set_cons_succ]
  refine wpAnyH_ready (rs := [4, 10]) (by kernel_rfl) (by simp) ?_
  refine AllReadyH.cons (o := ?_) ?_ ?_ ?_
  rotate_left 1
  · simp only [List.getElem?_toArray, List.getElem?_cons_succ, List.getElem?_cons_zero]; rfl
  · skip
    intro K hK
    go_simp
    ((with_reducible refine (CV.out _).mono ?_); rintro e w4 ⟨rfl, rfl⟩)
    refine hK.out _ _ BK.out.drew.rd (fun hHeld => ?_)
    clear hK K
    try simp only [Act.put, List.setIfInBounds_toArray, List.set_cons_zero, List.set_cons_succ]
    refine wpAnyH_take (i := 5) (oi := ?_) (v := ?_) ?_ ?_ ?_ ?_ ?_ ?_ ?_ ?_
    rotate_left 2
    · simp only [List.getElem?_toArray, List.getElem?_cons_succ, List.getElem?_cons_zero]; rfl
    · kernel_rfl
    · kernel_rfl
    · kernel_rfl
    · exact fun _ _ _ h => h
    · refine Or.inl ⟨by rfl, ?_⟩
      intro w' hSw
      (try dsimp only at hSw)
      go_simp
      all_goals (with_reducible rfl)
    · assumption
    try simp only [Act.put, List.setIfInBounds_toArray, List.set_cons_zero, List.set_cons_succ]
    refine wpAnyH_ready (rs := [10]) (by kernel_rfl) (by simp) ?_
    refine AllReadyH.cons (o := ?_) ?_ ?_ ?_
    rotate_left 1
    · simp only [List.getElem?_toArray, List.getElem?_cons_succ, List.getElem?_cons_zero]; rfl
    rotate_left 1
    · exact AllReadyH.nil
    intro K hK
    go_simp
    skip
    refine hK.out _ _ BK2.out.rd (fun hHeld => ?_)
    clear hK K
    try simp only [Act.put, List.setIfInBounds_toArray, List.set_cons_zero, List.set_cons_succ]
    refine wpAnyH_ready (rs := [11]) (by kernel_rfl) (by simp) ?_
    refine AllReadyH.cons (o := ?_) ?_ ?_ ?_
    rotate_left 1
    · simp only [List.getElem?_toArray, List.getElem?_cons_succ, List.getElem?_cons_zero]; rfl
    rotate_left 1
    · exact AllReadyH.nil
    intro K hK
    go_simp
    ((with_reducible refine (CN.out _ _ KI.out BL2.out).mono ?_); rintro e w5 ⟨rfl, b5⟩; have B5 := Lib.hid b5; clear b5)
    refine hK.out _ _ (BK2.out.keep B5.out).rd (fun hHeld => ?_)
    clear hK K
    try simp only [Act.put, List.setIfInBounds_toArray, List.set_cons_zero, List.set_cons_succ]
    refine wpAnyH_take (i := 12) (oi := ?_) (v := ?_) ?_ ?_ ?_ ?_ ?_ ?_ ?_ ?_
    rotate_left 2
    · simp only [List.getElem?_toArray, List.getElem?_cons_succ, List.getElem?_cons_zero]; rfl
    · kernel_rfl
    · kernel_rfl
    · kernel_rfl
    · exact fun _ _ _ h => h
    · refine Or.inl ⟨by rfl, ?_⟩
      intro w' hSw
      (try dsimp only at hSw)
      go_simp
      all_goals (with_reducible rfl)
    · assumption
    try simp only [Act.put, List.setIfInBounds_toArray, List.set_cons_zero, List.set_cons_succ]
    refine wpAnyH_take (i := 13) (oi := ?_) (v := ?_) ?_ ?_ ?_ ?_ ?_ ?_ ?_ ?_
    rotate_left 2
    · simp only [List.getElem?_toArray, List.getElem?_cons_succ, List.getElem?_cons_zero]; rfl
    · kernel_rfl
    · kernel_rfl
    · kernel_rfl
    · exact fun _ _ _ h => h
    · refine Or.inl ⟨by rfl, ?_⟩
      intro w' hSw
      (try dsimp only at hSw)
      go_simp
      all_goals (with_reducible rfl)
    · assumption
    try simp only [Act.put, List.setIfInBounds_toArray, List.set_cons_zero, List.set_cons_succ]
    refine wpAnyH_done (by kernel_rfl) ?_ _
    clear hHeld
    go_wp2
    go_ret
    exact ⟨congrArg (fun z => Ending.returned (.string z)) HS.out, BL2.out.trans (B5.out.mono BL2.out.size)⟩
  · skip
    refine AllReadyH.cons (o := ?_) ?_ ?_ ?_
    rotate_left 1
    · simp only [List.getElem?_toArray, List.getElem?_cons_succ, List.getElem?_cons_zero]; rfl
    rotate_left 1
    · exact AllReadyH.nil
    intro K hK
    go_simp
    skip
    refine hK.out _ _ BK2.out.rd (fun hHeld => ?_)
    clear hK K
    try simp only [Act.put, List.setIfInBounds_toArray, List.set_cons_zero, List.set_cons_succ]
    refine wpAnyH_ready (rs := [4]) (by kernel_rfl) (by simp) ?_
    refine AllReadyH.cons (o := ?_) ?_ ?_ ?_
    rotate_left 1
    · simp only [List.getElem?_toArray, List.getElem?_cons_succ, List.getElem?_cons_zero]; rfl
    rotate_left 1
    · exact AllReadyH.nil
    intro K hK
    go_simp
    ((with_reducible refine (CV.out _).mono ?_); rintro e w4 ⟨rfl, rfl⟩)
    refine hK.out _ _ BK2.out.rd (fun hHeld => ?_)
    clear hK K
    try simp only [Act.put, List.setIfInBounds_toArray, List.set_cons_zero, List.set_cons_succ]
    refine wpAnyH_take (i := 5) (oi := ?_) (v := ?_) ?_ ?_ ?_ ?_ ?_ ?_ ?_ ?_
    rotate_left 2
    · simp only [List.getElem?_toArray, List.getElem?_cons_succ, List.getElem?_cons_zero]; rfl
    · kernel_rfl
    · kernel_rfl
    · kernel_rfl
    · exact fun _ _ _ h => h
    · refine Or.inl ⟨by rfl, ?_⟩
      intro w' hSw
      (try dsimp only at hSw)
      go_simp
      all_goals (with_reducible rfl)
    · assumption
    try simp only [Act.put, List.setIfInBounds_toArray, List.set_cons_zero, List.set_cons_succ]
    refine wpAnyH_ready (rs := [11]) (by kernel_rfl) (by simp) ?_
    refine AllReadyH.cons (o := ?_) ?_ ?_ ?_
    rotate_left 1
    · simp only [List.getElem?_toArray, List.getElem?_cons_succ, List.getElem?_cons_zero]; rfl
    rotate_left 1
    · exact AllReadyH.nil
    intro K hK
    go_simp
    ((with_reducible refine (CN.out _ _ KI.out BL2.out).mono ?_); rintro e w5 ⟨rfl, b5⟩; have B5 := Lib.hid b5; clear b5)
    refine hK.out _ _ (BK2.out.keep B5.out).rd (fun hHeld => ?_)
    clear hK K
    try simp only [Act.put, List.setIfInBounds_toArray, List.set_cons_zero, List.set_cons_succ]
    refine wpAnyH_take (i := 12) (oi := ?_) (v := ?_) ?_ ?_ ?_ ?_ ?_ ?_ ?_ ?_
    rotate_left 2
    · simp only [List.getElem?_toArray, List.getElem?_cons_succ, List.getElem?_cons_zero]; rfl
    · kernel_rfl
    · kernel_rfl
    · kernel_rfl
    · exact fun _ _ _ h => h
    · refine Or.inl ⟨by rfl, ?_⟩
      intro w' hSw
      (try dsimp only at hSw)
      go_simp
      all_goals (with_reducible rfl)
    · assumption
    try simp only [Act.put, List.setIfInBounds_toArray, List.set_cons_zero, List.set_cons_succ]
    refine wpAnyH_take (i := 13) (oi := ?_) (v := ?_) ?_ ?_ ?_ ?_ ?_ ?_ ?_ ?_
    rotate_left 2
    · simp only [List.getElem?_toArray, List.getElem?_cons_succ, List.getElem?_cons_zero]; rfl
    · kernel_rfl
    · kernel_rfl
    · kernel_rfl
    · exact fun _ _ _ h => h
    · refine Or.inl ⟨by rfl, ?_⟩
      intro w' hSw
      (try dsimp only at hSw)
      go_simp
      all_goals (with_reducible rfl)
    · assumption
    try simp only [Act.put, List.setIfInBounds_toArray, List.set_cons_zero, List.set_cons_succ]
    refine wpAnyH_done (by kernel_rfl) ?_ _
    clear hHeld
    go_wp2
    go_ret
    exact ⟨congrArg (fun z => Ending.returned (.string z)) HS.out, BL2.out.trans (B5.out.mono BL2.out.size)⟩
end Go.Proofs.YtghhoofdbmgacaaDoor
