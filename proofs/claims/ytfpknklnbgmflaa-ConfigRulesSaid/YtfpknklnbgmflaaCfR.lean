/- The laws of layer 17 (config), walked: rules. -/
import Derived.Test.YtfpknklnbgmflaaCfL
import Derived.Test.YtfpknklnbgmflaaCfC
import Derived.Test.YtfpknklnbgmflaaCfE
import Derived.Test.YtfpknklnbgmflaaRule
namespace Go.Proofs.Ytfpknklnbgmflaa
open Go.ChangeShapes Go.WideShapes Go.ChangeAt Go.RowKit
open Ar (inR)
set_option maxHeartbeats 4000000 in
set_option maxRecDepth 100000 in
theorem rules_law (w : World) (L W B Sl Ce Ro Wi Tr : Int) (sm : Bool) (_hr : RuleOK L W B Sl Ce Ro Wi Tr) :
    Calls Try.prog 3 #[ruV L W B Sl Ce Ro Wi Tr sm] w fun e w' => e = .returned (.bool true) ∧ Below w.heap.size w w' := by
  by_cases hp : ruleP L W B Sl Ce Ro Wi Tr sm
  · have CR := Lib.hid (fun w => (rr_any L W B Sl Ce Ro Wi Tr sm w).1 hp)
    have CL := Lib.hid (fun w => (rl_any L W B Sl Ce Ro Wi Tr sm w).1 hp)
    have CA := Lib.hid (fun w => limB_any L W B Sl Ce Ro Wi Tr sm hp.2.2.2.1 hp.2.2.2.2.2.2.1 hp.2.2.2.2.2.2.2.1 hp.2.2.2.2.2.1 hp.2.2.2.2.2.2.2.2.1 w)
    have CB := Lib.hid (fun w => byB_any L W B Sl Ce Ro Wi Tr sm hp.2.2.2.1 hp.2.2.2.2.2.2.1 hp.2.2.2.2.2.2.2.1 hp.2.2.2.2.2.1 hp.2.2.2.2.2.2.2.2.1 w)
    obtain ⟨Z, hZ⟩ : ∃ Z, bytesZ Sl Ce Ro Wi Tr = Z := ⟨_, rfl⟩
    rw [hZ] at CA CB
    clear hZ hp
    go_enter Try.func3, Try.ntmps3
    go_upto_region 1 with (fail)
    obtain ⟨w1, hw1, hbk, hbl, hsz1⟩ := box_new w (ruC L W B Sl Ce Ro Wi Tr sm) 23
    change Code.wp _ _ _ _ (w.alloc (.cells (ruC L W B Sl Ce Ro Wi Tr sm) 23))
    rw [hw1]
    obtain ⟨b0, hb0⟩ : ∃ b0, b0 = w.heap.size := ⟨_, rfl⟩
    rw [← hb0] at hbk ⊢
    have BK1 := Lib.hid hbk
    have BL1 := Lib.hid hbl
    clear hbk hbl hsz1 hw1 hb0
    go_upto_region 3 with (go_at_call 9; ((with_reducible refine (fit_any _).mono ?_); rintro e w2 ⟨rfl, b2⟩; have BK2 := Lib.hid (BK1.out.keep b2); have BL2 := Lib.hid (BL1.out.trans (b2.mono BL1.out.size)); clear b2))
    have y1 : ∀ i, w2.drew.cell? ⟨b0, i, none⟩ = (ruC L W B Sl Ce Ro Wi Tr sm)[i]? := (Blk.drew BK2.out).rd
    have y3 : Below w2.heap.size w2 w2.drew := below_draws (Below.refl _ _) 1
    have G1 := Lib.hid (fun (wx : World) (hx : Below w2.heap.size w2 wx) => show Calls Try.prog 10 #[ruV L W B Sl Ce Ro Wi Tr sm] wx (fun e w' => e = .returned (.bool true) ∧ (∀ i, w'.cell? ⟨b0, i, none⟩ = (ruC L W B Sl Ce Ro Wi Tr sm)[i]?) ∧ Below w2.heap.size w2 w') from (CR.out wx).mono (fun e w' hh => ⟨hh.1, (BK2.out.keep (hx.trans (hh.2.mono hx.size))).rd, hx.trans (hh.2.mono hx.size)⟩))
    have G2 := Lib.hid (fun (wx : World) (hx : Below w2.heap.size w2 wx) => show Calls Try.prog 11 #[ruV L W B Sl Ce Ro Wi Tr sm] wx (fun e w' => e = .returned (.bool true) ∧ (∀ i, w'.cell? ⟨b0, i, none⟩ = (ruC L W B Sl Ce Ro Wi Tr sm)[i]?) ∧ Below w2.heap.size w2 w') from (CL.out wx).mono (fun e w' hh => ⟨hh.1, (BK2.out.keep (hx.trans (hh.2.mono hx.size))).rd, hx.trans (hh.2.mono hx.size)⟩))
    go_region_held3 (fun w' => (∀ i, w'.cell? ⟨b0, i, none⟩ = (ruC L W B Sl Ce Ro Wi Tr sm)[i]?) ∧ Below w2.heap.size w2 w') (first | (refine ⟨?_, ?_⟩ <;> assumption) | go_keep)
      (first
        | (go_at_call 10; ((with_reducible refine (G1.out _ (by assumption)).mono ?_); rintro e w3 ⟨rfl, z0, z2⟩))
        | (go_at_call 11; ((with_reducible refine (G2.out _ (by assumption)).mono ?_); rintro e w3 ⟨rfl, z0, z2⟩)))
    have BK3 := Lib.hid (BK2.out.keep z2)
    have BL3 := Lib.hid (BL2.out.trans (z2.mono BL2.out.size))
    clear y1 y3 z0 z2 G1 G2
    go_upto_region 5 with (fail)
    have y1 : ∀ i, w3.drew.cell? ⟨b0, i, none⟩ = (ruC L W B Sl Ce Ro Wi Tr sm)[i]? := (Blk.drew BK3.out).rd
    have y3 : Below w3.heap.size w3 w3.drew := below_draws (Below.refl _ _) 1
    have G2 := Lib.hid (fun (wx : World) (hx : Below w3.heap.size w3 wx) => show Calls Try.prog 11 #[ruV L W B Sl Ce Ro Wi Tr sm] wx (fun e w' => e = .returned (.bool true) ∧ (∀ i, w'.cell? ⟨b0, i, none⟩ = (ruC L W B Sl Ce Ro Wi Tr sm)[i]?) ∧ Below w3.heap.size w3 w') from (CL.out wx).mono (fun e w' hh => ⟨hh.1, (BK3.out.keep (hx.trans (hh.2.mono hx.size))).rd, hx.trans (hh.2.mono hx.size)⟩))
    have G3 := Lib.hid (fun (wx : World) (hx : Below w3.heap.size w3 wx) => show Calls Try.prog 12 #[ruV L W B Sl Ce Ro Wi Tr sm] wx (fun e w' => e = .returned (.int .i64 Z) ∧ (∀ i, w'.cell? ⟨b0, i, none⟩ = (ruC L W B Sl Ce Ro Wi Tr sm)[i]?) ∧ Below w3.heap.size w3 w') from (CA.out wx).mono (fun e w' hh => ⟨hh.1, (BK3.out.keep (hx.trans (hh.2.mono hx.size))).rd, hx.trans (hh.2.mono hx.size)⟩))
    have G4 := Lib.hid (fun (wx : World) (hx : Below w3.heap.size w3 wx) => show Calls Try.prog 13 #[ruV L W B Sl Ce Ro Wi Tr sm] wx (fun e w' => e = .returned (.int .i64 Z) ∧ (∀ i, w'.cell? ⟨b0, i, none⟩ = (ruC L W B Sl Ce Ro Wi Tr sm)[i]?) ∧ Below w3.heap.size w3 w') from (CB.out wx).mono (fun e w' hh => ⟨hh.1, (BK3.out.keep (hx.trans (hh.2.mono hx.size))).rd, hx.trans (hh.2.mono hx.size)⟩))
    go_region_held3 (fun w' => (∀ i, w'.cell? ⟨b0, i, none⟩ = (ruC L W B Sl Ce Ro Wi Tr sm)[i]?) ∧ Below w3.heap.size w3 w') (first | (refine ⟨?_, ?_⟩ <;> assumption) | go_keep)
      (first
        | (go_at_call 11; ((with_reducible refine (G2.out _ (by assumption)).mono ?_); rintro e w4 ⟨rfl, z0, z2⟩))
        | (go_at_call 12; ((with_reducible refine (G3.out _ (by assumption)).mono ?_); rintro e w4 ⟨rfl, z0, z2⟩))
        | (go_at_call 13; ((with_reducible refine (G4.out _ (by assumption)).mono ?_); rintro e w4 ⟨rfl, z0, z2⟩)))
    go_wp2
    go_ret
    exact ⟨rfl, BL3.out.trans (z2.mono BL3.out.size)⟩
  · have CR := Lib.hid (fun w => (rr_any L W B Sl Ce Ro Wi Tr sm w).2 hp)
    have CL := Lib.hid (fun w => (rl_any L W B Sl Ce Ro Wi Tr sm w).2 hp)
    clear hp
    go_enter Try.func3, Try.ntmps3
    go_upto_region 1 with (fail)
    obtain ⟨w1, hw1, hbk, hbl, hsz1⟩ := box_new w (ruC L W B Sl Ce Ro Wi Tr sm) 23
    change Code.wp _ _ _ _ (w.alloc (.cells (ruC L W B Sl Ce Ro Wi Tr sm) 23))
    rw [hw1]
    obtain ⟨b0, hb0⟩ : ∃ b0, b0 = w.heap.size := ⟨_, rfl⟩
    rw [← hb0] at hbk ⊢
    have BK1 := Lib.hid hbk
    have BL1 := Lib.hid hbl
    clear hbk hbl hsz1 hw1 hb0
    go_upto_region 3 with (go_at_call 9; ((with_reducible refine (fit_any _).mono ?_); rintro e w2 ⟨rfl, b2⟩; have BK2 := Lib.hid (BK1.out.keep b2); have BL2 := Lib.hid (BL1.out.trans (b2.mono BL1.out.size)); clear b2))
    have y1 : ∀ i, w2.drew.cell? ⟨b0, i, none⟩ = (ruC L W B Sl Ce Ro Wi Tr sm)[i]? := (Blk.drew BK2.out).rd
    have y3 : Below w2.heap.size w2 w2.drew := below_draws (Below.refl _ _) 1
    have G1 := Lib.hid (fun (wx : World) (hx : Below w2.heap.size w2 wx) => show Calls Try.prog 10 #[ruV L W B Sl Ce Ro Wi Tr sm] wx (fun e w' => e = .returned (.bool false) ∧ (∀ i, w'.cell? ⟨b0, i, none⟩ = (ruC L W B Sl Ce Ro Wi Tr sm)[i]?) ∧ Below w2.heap.size w2 w') from (CR.out wx).mono (fun e w' hh => ⟨hh.1, (BK2.out.keep (hx.trans (hh.2.mono hx.size))).rd, hx.trans (hh.2.mono hx.size)⟩))
    have G2 := Lib.hid (fun (wx : World) (hx : Below w2.heap.size w2 wx) => show Calls Try.prog 11 #[ruV L W B Sl Ce Ro Wi Tr sm] wx (fun e w' => e = .returned (.bool false) ∧ (∀ i, w'.cell? ⟨b0, i, none⟩ = (ruC L W B Sl Ce Ro Wi Tr sm)[i]?) ∧ Below w2.heap.size w2 w') from (CL.out wx).mono (fun e w' hh => ⟨hh.1, (BK2.out.keep (hx.trans (hh.2.mono hx.size))).rd, hx.trans (hh.2.mono hx.size)⟩))
    go_region_held3 (fun w' => (∀ i, w'.cell? ⟨b0, i, none⟩ = (ruC L W B Sl Ce Ro Wi Tr sm)[i]?) ∧ Below w2.heap.size w2 w') (first | (refine ⟨?_, ?_⟩ <;> assumption) | go_keep)
      (first
        | (go_at_call 10; ((with_reducible refine (G1.out _ (by assumption)).mono ?_); rintro e w3 ⟨rfl, z0, z2⟩))
        | (go_at_call 11; ((with_reducible refine (G2.out _ (by assumption)).mono ?_); rintro e w3 ⟨rfl, z0, z2⟩)))
    have BK3 := Lib.hid (BK2.out.keep z2)
    have BL3 := Lib.hid (BL2.out.trans (z2.mono BL2.out.size))
    clear y1 y3 z0 z2 G1 G2
    go_upto_region 5 with (fail)
    have y1 : ∀ i, w3.drew.cell? ⟨b0, i, none⟩ = (ruC L W B Sl Ce Ro Wi Tr sm)[i]? := (Blk.drew BK3.out).rd
    have y3 : Below w3.heap.size w3 w3.drew := below_draws (Below.refl _ _) 1
    have G2 := Lib.hid (fun (wx : World) (hx : Below w3.heap.size w3 wx) => show Calls Try.prog 11 #[ruV L W B Sl Ce Ro Wi Tr sm] wx (fun e w' => e = .returned (.bool false) ∧ (∀ i, w'.cell? ⟨b0, i, none⟩ = (ruC L W B Sl Ce Ro Wi Tr sm)[i]?) ∧ Below w3.heap.size w3 w') from (CL.out wx).mono (fun e w' hh => ⟨hh.1, (BK3.out.keep (hx.trans (hh.2.mono hx.size))).rd, hx.trans (hh.2.mono hx.size)⟩))
    have y0 := And.intro y1 y3
    refine wp_region_held_drew (S := fun w' => (∀ i, w'.cell? ⟨b0, i, none⟩ = (ruC L W B Sl Ce Ro Wi Tr sm)[i]?) ∧ Below w3.heap.size w3 w') (by kernel_rfl) y0 (fun hHeld => ?_)
    clear y0 y1 y3
    refine wpAnyH_take (i := 0) (oi := ?_) (v := ?_) ?_ ?_ ?_ ?_ ?_ ?_ ?_ ?_
    rotate_left 2
    · simp only [List.getElem?_toArray, List.getElem?_cons_succ, List.getElem?_cons_zero]; rfl
    · kernel_rfl
    · kernel_rfl
    · kernel_rfl
    · exact fun _ _ _ h => h
    · refine Or.inl ⟨by rfl, ?_⟩
      intro w' hSw
      (try dsimp only at hSw)
      go_simp
      all_goals (with_reducible rfl)
    · assumption
    try simp only [Act.put, List.setIfInBounds_toArray, List.set_cons_zero, List.set_cons_succ]
    refine wpAnyH_ready (rs := [1]) (by kernel_rfl) (by simp) ?_
    refine AllReadyH.cons (o := ?_) ?_ ?_ ?_
    rotate_left 1
    · simp only [List.getElem?_toArray, List.getElem?_cons_succ, List.getElem?_cons_zero]; rfl
    rotate_left 1
    · exact AllReadyH.nil
    intro K hK
    go_simp
    go_at_call 11; ((with_reducible refine (G2.out _ hHeld.2).mono ?_); rintro e w4 ⟨rfl, z0, z2⟩)
    refine hK.out _ _ ⟨z0, z2⟩ (fun hHeld => ?_)
    clear hK K
    try simp only [Act.put, List.setIfInBounds_toArray, List.set_cons_zero, List.set_cons_succ]
    refine wpAnyH_take (i := 2) (oi := ?_) (v := ?_) ?_ ?_ ?_ ?_ ?_ ?_ ?_ ?_
    rotate_left 2
    · simp only [List.getElem?_toArray, List.getElem?_cons_succ, List.getElem?_cons_zero]; rfl
    · kernel_rfl
    · kernel_rfl
    · kernel_rfl
    · exact fun _ _ _ h => h
    · refine Or.inl ⟨by rfl, ?_⟩
      intro w' hSw
      (try dsimp only at hSw)
      go_simp
      all_goals (with_reducible rfl)
    · assumption
    try simp only [Act.put, List.setIfInBounds_toArray, List.set_cons_zero, List.set_cons_succ]
    refine wpAnyH_take (i := 3) (oi := ?_) (v := ?_) ?_ ?_ ?_ ?_ ?_ ?_ ?_ ?_
    rotate_left 2
    · simp only [List.getElem?_toArray, List.getElem?_cons_succ, List.getElem?_cons_zero]; rfl
    · kernel_rfl
    · kernel_rfl
    · kernel_rfl
    · exact fun _ _ _ h => h
    · refine Or.inl ⟨by rfl, ?_⟩
      intro w' hSw
      (try dsimp only at hSw)
      go_simp
      all_goals (with_reducible rfl)
    · assumption
    try simp only [Act.put, List.setIfInBounds_toArray, List.set_cons_zero, List.set_cons_succ]
    refine wpAnyH_take (i := 4) (oi := ?_) (v := undef) ?_ ?_ ?_ ?_ ?_ ?_ ?_ ?_
    rotate_left 1
    · simp only [List.getElem?_toArray, List.getElem?_cons_succ, List.getElem?_cons_zero]; rfl
    · kernel_rfl
    · kernel_rfl
    · kernel_rfl
    · exact fun _ _ _ h => h
    · exact Or.inr ⟨by kernel_rfl, rfl⟩
    · assumption
    try simp only [Act.put, List.setIfInBounds_toArray, List.set_cons_zero, List.set_cons_succ]
    refine wpAnyH_take (i := 5) (oi := ?_) (v := undef) ?_ ?_ ?_ ?_ ?_ ?_ ?_ ?_
    rotate_left 1
    · simp only [List.getElem?_toArray, List.getElem?_cons_succ, List.getElem?_cons_zero]; rfl
    · kernel_rfl
    · kernel_rfl
    · kernel_rfl
    · exact fun _ _ _ h => h
    · exact Or.inr ⟨by kernel_rfl, rfl⟩
    · assumption
    try simp only [Act.put, List.setIfInBounds_toArray, List.set_cons_zero, List.set_cons_succ]
    refine wpAnyH_take (i := 6) (oi := ?_) (v := undef) ?_ ?_ ?_ ?_ ?_ ?_ ?_ ?_
    rotate_left 1
    · simp only [List.getElem?_toArray, List.getElem?_cons_succ, List.getElem?_cons_zero]; rfl
    · kernel_rfl
    · kernel_rfl
    · kernel_rfl
    · exact fun _ _ _ h => h
    · exact Or.inr ⟨by kernel_rfl, rfl⟩
    · assumption
    try simp only [Act.put, List.setIfInBounds_toArray, List.set_cons_zero, List.set_cons_succ]
    refine wpAnyH_take (i := 7) (oi := ?_) (v := undef) ?_ ?_ ?_ ?_ ?_ ?_ ?_ ?_
    rotate_left 1
    · simp only [List.getElem?_toArray, List.getElem?_cons_succ, List.getElem?_cons_zero]; rfl
    · kernel_rfl
    · kernel_rfl
    · kernel_rfl
    · exact fun _ _ _ h => h
    · exact Or.inr ⟨by kernel_rfl, rfl⟩
    · assumption
    try simp only [Act.put, List.setIfInBounds_toArray, List.set_cons_zero, List.set_cons_succ]
    refine wpAnyH_take (i := 8) (oi := ?_) (v := undef) ?_ ?_ ?_ ?_ ?_ ?_ ?_ ?_
    rotate_left 1
    · simp only [List.getElem?_toArray, List.getElem?_cons_succ, List.getElem?_cons_zero]; rfl
    · kernel_rfl
    · kernel_rfl
    · kernel_rfl
    · exact fun _ _ _ h => h
    · exact Or.inr ⟨by kernel_rfl, rfl⟩
    · assumption
    try simp only [Act.put, List.setIfInBounds_toArray, List.set_cons_zero, List.set_cons_succ]
    refine wpAnyH_take (i := 9) (oi := ?_) (v := ?_) ?_ ?_ ?_ ?_ ?_ ?_ ?_ ?_
    rotate_left 2
    · simp only [List.getElem?_toArray, List.getElem?_cons_succ, List.getElem?_cons_zero]; rfl
    · kernel_rfl
    · kernel_rfl
    · kernel_rfl
    · exact fun _ _ _ h => h
    · refine Or.inl ⟨by rfl, ?_⟩
      intro w' hSw
      (try dsimp only at hSw)
      go_simp
      all_goals (with_reducible rfl)
    · assumption
    try simp only [Act.put, List.setIfInBounds_toArray, List.set_cons_zero, List.set_cons_succ]
    refine wpAnyH_take (i := 10) (oi := ?_) (v := ?_) ?_ ?_ ?_ ?_ ?_ ?_ ?_ ?_
    rotate_left 2
    · simp only [List.getElem?_toArray, List.getElem?_cons_succ, List.getElem?_cons_zero]; rfl
    · kernel_rfl
    · kernel_rfl
    · kernel_rfl
    · exact fun _ _ _ h => h
    · refine Or.inl ⟨by rfl, ?_⟩
      intro w' hSw
      (try dsimp only at hSw)
      go_simp
      all_goals (with_reducible rfl)
    · assumption
    try simp only [Act.put, List.setIfInBounds_toArray, List.set_cons_zero, List.set_cons_succ]
    refine wpAnyH_done (by kernel_rfl) ?_ _
    go_wp2
    go_ret
    exact ⟨rfl, BL3.out.trans (z2.mono BL3.out.size)⟩
end Go.Proofs.Ytfpknklnbgmflaa
