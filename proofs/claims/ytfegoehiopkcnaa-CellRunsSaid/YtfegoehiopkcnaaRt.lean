/- The reference's cell (weighbridgeref09): Take, Wait. -/
import Derived.Test.YtfegoehiopkcnaaRo
namespace Go.Proofs.Ytfegoehiopkcnaa.R9
set_option linter.unusedSimpArgs false
set_option linter.unusedVariables false
set_option maxRecDepth 100000
open Go Go.ChangeShapes Go.WideShapes Go.ChangeAt Go.RowKit
section
variable {F S C D U W B L t cost : Int} (x1 x2 x3 x4 x5 : Int) (sm : Bool)
set_option maxHeartbeats 4000000 in
theorem take_low (hl : cost < 1) (b : Nat) (w : World) :
    Calls Try.prog 22 #[.pointer (some ⟨b, 0, none⟩), rvV L W B x1 x2 x3 x4 x5 sm, .int .i64 t, .int .i64 cost] w fun e w' => e = .returned (.bool false) ∧ Below w.heap.size w w' := by
  have u1 : decide (cost < 1) = true := by rw [decide_eq_true_iff]; exact hl
  obtain ⟨w1, hw1, k1, b1', s1⟩ := box9 w #[.int .i64 L, .int .i64 W, .int .i64 B, .int .i64 x1, .int .i64 x2, .int .i64 x3, .int .i64 x4, .int .i64 x5, .bool sm] 28
  have B1 := Lib.hid b1'
  clear hl k1 b1' s1
  go_enter Try.func22, Try.ntmps22
  go_upto_region 1 with (fail)
  clear hw1
  refine wp_region_held_drew (S := fun wx => True) (by kernel_rfl) trivial (fun hHeld => ?_)
  refine wpAnyH_take (i := 0) (oi := ?_) (v := ?_) ?_ ?_ ?_ ?_ ?_ ?_ ?_ ?_
  rotate_left 2
  · simp only [List.getElem?_toArray, List.getElem?_cons_succ, List.getElem?_cons_zero]; rfl
  · kernel_rfl
  · kernel_rfl
  · kernel_rfl
  · exact fun _ _ _ h => h
  · refine Or.inl ⟨by rfl, ?_⟩
    intro w' hSw
    (try dsimp only at hSw)
    go_simp
    all_goals (with_reducible rfl)
  · assumption
  try simp only [Act.put, List.setIfInBounds_toArray, List.set_cons_zero, List.set_cons_succ]
  refine wpAnyH_take (i := 1) (oi := ?_) (v := ?_) ?_ ?_ ?_ ?_ ?_ ?_ ?_ ?_
  rotate_left 2
  · simp only [List.getElem?_toArray, List.getElem?_cons_succ, List.getElem?_cons_zero]; rfl
  · kernel_rfl
  · kernel_rfl
  · kernel_rfl
  · exact fun _ _ _ h => h
  · refine Or.inl ⟨by rfl, ?_⟩
    intro w' hSw
    (try dsimp only at hSw)
    go_simp
    all_goals (with_reducible rfl)
  · assumption
  try simp only [Act.put, List.setIfInBounds_toArray, List.set_cons_zero, List.set_cons_succ]
  refine wpAnyH_take (i := 2) (oi := ?_) (v := ?_) ?_ ?_ ?_ ?_ ?_ ?_ ?_ ?_
  rotate_left 2
  · simp only [List.getElem?_toArray, List.getElem?_cons_succ, List.getElem?_cons_zero]; rfl
  · kernel_rfl
  · kernel_rfl
  · kernel_rfl
  · exact fun _ _ _ h => h
  · refine Or.inl ⟨by rfl, ?_⟩
    intro w' hSw
    (try dsimp only at hSw)
    go_simp
    all_goals (with_reducible rfl)
  · assumption
  try simp only [Act.put, List.setIfInBounds_toArray, List.set_cons_zero, List.set_cons_succ]
  refine wpAnyH_take (i := 3) (oi := ?_) (v := undef) ?_ ?_ ?_ ?_ ?_ ?_ ?_ ?_
  rotate_left 1
  · simp only [List.getElem?_toArray, List.getElem?_cons_succ, List.getElem?_cons_zero]; rfl
  · kernel_rfl
  · kernel_rfl
  · kernel_rfl
  · exact fun _ _ _ h => h
  · exact Or.inr ⟨by kernel_rfl, rfl⟩
  · assumption
  try simp only [Act.put, List.setIfInBounds_toArray, List.set_cons_zero, List.set_cons_succ]
  refine wpAnyH_take (i := 4) (oi := ?_) (v := undef) ?_ ?_ ?_ ?_ ?_ ?_ ?_ ?_
  rotate_left 1
  · simp only [List.getElem?_toArray, List.getElem?_cons_succ, List.getElem?_cons_zero]; rfl
  · kernel_rfl
  · kernel_rfl
  · kernel_rfl
  · exact fun _ _ _ h => h
  · exact Or.inr ⟨by kernel_rfl, rfl⟩
  · assumption
  try simp only [Act.put, List.setIfInBounds_toArray, List.set_cons_zero, List.set_cons_succ]
  refine wpAnyH_take (i := 5) (oi := ?_) (v := undef) ?_ ?_ ?_ ?_ ?_ ?_ ?_ ?_
  rotate_left 1
  · simp only [List.getElem?_toArray, List.getElem?_cons_succ, List.getElem?_cons_zero]; rfl
  · kernel_rfl
  · kernel_rfl
  · kernel_rfl
  · exact fun _ _ _ h => h
  · exact Or.inr ⟨by kernel_rfl, rfl⟩
  · assumption
  try simp only [Act.put, List.setIfInBounds_toArray, List.set_cons_zero, List.set_cons_succ]
  refine wpAnyH_take (i := 6) (oi := ?_) (v := undef) ?_ ?_ ?_ ?_ ?_ ?_ ?_ ?_
  rotate_left 1
  · simp only [List.getElem?_toArray, List.getElem?_cons_succ, List.getElem?_cons_zero]; rfl
  · kernel_rfl
  · kernel_rfl
  · kernel_rfl
  · exact fun _ _ _ h => h
  · exact Or.inr ⟨by kernel_rfl, rfl⟩
  · assumption
  try simp only [Act.put, List.setIfInBounds_toArray, List.set_cons_zero, List.set_cons_succ]
  refine wpAnyH_take (i := 7) (oi := ?_) (v := undef) ?_ ?_ ?_ ?_ ?_ ?_ ?_ ?_
  rotate_left 1
  · simp only [List.getElem?_toArray, List.getElem?_cons_succ, List.getElem?_cons_zero]; rfl
  · kernel_rfl
  · kernel_rfl
  · kernel_rfl
  · exact fun _ _ _ h => h
  · exact Or.inr ⟨by kernel_rfl, rfl⟩
  · assumption
  try simp only [Act.put, List.setIfInBounds_toArray, List.set_cons_zero, List.set_cons_succ]
  refine wpAnyH_take (i := 8) (oi := ?_) (v := undef) ?_ ?_ ?_ ?_ ?_ ?_ ?_ ?_
  rotate_left 1
  · simp only [List.getElem?_toArray, List.getElem?_cons_succ, List.getElem?_cons_zero]; rfl
  · kernel_rfl
  · kernel_rfl
  · kernel_rfl
  · exact fun _ _ _ h => h
  · exact Or.inr ⟨by kernel_rfl, rfl⟩
  · assumption
  try simp only [Act.put, List.setIfInBounds_toArray, List.set_cons_zero, List.set_cons_succ]
  refine wpAnyH_take (i := 9) (oi := ?_) (v := undef) ?_ ?_ ?_ ?_ ?_ ?_ ?_ ?_
  rotate_left 1
  · simp only [List.getElem?_toArray, List.getElem?_cons_succ, List.getElem?_cons_zero]; rfl
  · kernel_rfl
  · kernel_rfl
  · kernel_rfl
  · exact fun _ _ _ h => h
  · exact Or.inr ⟨by kernel_rfl, rfl⟩
  · assumption
  try simp only [Act.put, List.setIfInBounds_toArray, List.set_cons_zero, List.set_cons_succ]
  refine wpAnyH_take (i := 10) (oi := ?_) (v := undef) ?_ ?_ ?_ ?_ ?_ ?_ ?_ ?_
  rotate_left 1
  · simp only [List.getElem?_toArray, List.getElem?_cons_succ, List.getElem?_cons_zero]; rfl
  · kernel_rfl
  · kernel_rfl
  · kernel_rfl
  · exact fun _ _ _ h => h
  · exact Or.inr ⟨by kernel_rfl, rfl⟩
  · assumption
  try simp only [Act.put, List.setIfInBounds_toArray, List.set_cons_zero, List.set_cons_succ]
  refine wpAnyH_take (i := 11) (oi := ?_) (v := ?_) ?_ ?_ ?_ ?_ ?_ ?_ ?_ ?_
  rotate_left 2
  · simp only [List.getElem?_toArray, List.getElem?_cons_succ, List.getElem?_cons_zero]; rfl
  · kernel_rfl
  · kernel_rfl
  · kernel_rfl
  · exact fun _ _ _ h => h
  · refine Or.inl ⟨by rfl, ?_⟩
    intro w' hSw
    (try dsimp only at hSw)
    go_simp
    all_goals (with_reducible rfl)
  · assumption
  try simp only [Act.put, List.setIfInBounds_toArray, List.set_cons_zero, List.set_cons_succ]
  refine wpAnyH_done (by kernel_rfl) ?_ _
  clear hHeld
  go_wp2
  go_ret
  exact ⟨rfl, G.below_on B1.out (below_draws (Below.refl _ _) 1)⟩
set_option maxHeartbeats 4000000 in
theorem take_no (h : Ru U W B L) (hc : Ce F S C D t) (h1 : 1 ≤ cost) (hn : room F S C D U W B L t < cost) (b : Nat) (w : World) (ha : CAt w b F S C D) :
    Calls Try.prog 22 #[.pointer (some ⟨b, 0, none⟩), rvV L W B x1 x2 x3 x4 x5 sm, .int .i64 t, .int .i64 cost] w fun e w' => e = .returned (.bool false) ∧ Below w.heap.size w w' := by
  have u1 : decide (cost < 1) = false := by rw [decide_eq_false_iff_not]; omega
  have CR := Lib.hid (fun wx => room_any x1 x2 x3 x4 x5 sm h hc wx)
  obtain ⟨ro, hro⟩ : ∃ z, z = room F S C D U W B L t := ⟨_, rfl⟩
  rw [← hro] at CR hn
  have u2 : decide (ro < cost) = true := by rw [decide_eq_true_iff]; exact hn
  obtain ⟨w1, hw1, k1, b1', s1⟩ := box9 w #[.int .i64 L, .int .i64 W, .int .i64 B, .int .i64 x1, .int .i64 x2, .int .i64 x3, .int .i64 x4, .int .i64 x5, .bool sm] 28
  obtain ⟨rb, hrb⟩ : ∃ z, z = w.heap.size := ⟨_, rfl⟩
  have HRB := Lib.hid hrb
  rw [← hrb] at k1
  have KR := Lib.hid k1
  have KC := Lib.hid (ha.keep b1')
  have B1 := Lib.hid b1'
  clear h1 hn k1 b1' s1 hro ha hrb h hc
  go_enter Try.func22, Try.ntmps22
  go_upto_region 1 with (fail)
  rw [← HRB.out]
  clear hw1
  have KRD := Lib.hid (show Blk w1.drew rb 28 #[.int .i64 L, .int .i64 W, .int .i64 B, .int .i64 x1, .int .i64 x2, .int .i64 x3, .int .i64 x4, .int .i64 x5, .bool sm] from KR.out)
  have KCD := Lib.hid (show CAt w1.drew b F S C D from KC.out)
  have st : (∀ j, w1.drew.cell? ⟨rb, j, none⟩ = (#[.int .i64 L, .int .i64 W, .int .i64 B, .int .i64 x1, .int .i64 x2, .int .i64 x3, .int .i64 x4, .int .i64 x5, .bool sm] : Array Value)[j]?) ∧ ∀ j, w1.drew.cell? ⟨b, j, none⟩ = (#[.int .i64 F, .int .i64 S, .int .i64 C, .int .i64 D] : Array Value)[j]? := ⟨KRD.out.rd, KCD.out.rd⟩
  refine wp_region_held_drew (S := fun wx => (∀ j, wx.cell? ⟨rb, j, none⟩ = (#[.int .i64 L, .int .i64 W, .int .i64 B, .int .i64 x1, .int .i64 x2, .int .i64 x3, .int .i64 x4, .int .i64 x5, .bool sm] : Array Value)[j]?) ∧ ∀ j, wx.cell? ⟨b, j, none⟩ = (#[.int .i64 F, .int .i64 S, .int .i64 C, .int .i64 D] : Array Value)[j]?) (by kernel_rfl) st (fun hHeld => ?_)
  clear st
  refine wpAnyH_take (i := 0) (oi := ?_) (v := ?_) ?_ ?_ ?_ ?_ ?_ ?_ ?_ ?_
  rotate_left 2
  · simp only [List.getElem?_toArray, List.getElem?_cons_succ, List.getElem?_cons_zero]; rfl
  · kernel_rfl
  · kernel_rfl
  · kernel_rfl
  · exact fun _ _ _ h => h
  · refine Or.inl ⟨by rfl, ?_⟩
    intro w' hSw
    (try dsimp only at hSw)
    go_simp
    all_goals (with_reducible rfl)
  · assumption
  try simp only [Act.put, List.setIfInBounds_toArray, List.set_cons_zero, List.set_cons_succ]
  refine wpAnyH_take (i := 1) (oi := ?_) (v := ?_) ?_ ?_ ?_ ?_ ?_ ?_ ?_ ?_
  rotate_left 2
  · simp only [List.getElem?_toArray, List.getElem?_cons_succ, List.getElem?_cons_zero]; rfl
  · kernel_rfl
  · kernel_rfl
  · kernel_rfl
  · exact fun _ _ _ h => h
  · refine Or.inl ⟨by rfl, ?_⟩
    intro w' hSw
    (try dsimp only at hSw)
    go_simp
    all_goals (with_reducible rfl)
  · assumption
  try simp only [Act.put, List.setIfInBounds_toArray, List.set_cons_zero, List.set_cons_succ]
  refine wpAnyH_take (i := 2) (oi := ?_) (v := ?_) ?_ ?_ ?_ ?_ ?_ ?_ ?_ ?_
  rotate_left 2
  · simp only [List.getElem?_toArray, List.getElem?_cons_succ, List.getElem?_cons_zero]; rfl
  · kernel_rfl
  · kernel_rfl
  · kernel_rfl
  · exact fun _ _ _ h => h
  · refine Or.inl ⟨by rfl, ?_⟩
    intro w' hSw
    (try dsimp only at hSw)
    go_simp
    all_goals (with_reducible rfl)
  · assumption
  try simp only [Act.put, List.setIfInBounds_toArray, List.set_cons_zero, List.set_cons_succ]
  refine wpAnyH_take (i := 3) (oi := ?_) (v := ?_) ?_ ?_ ?_ ?_ ?_ ?_ ?_ ?_
  rotate_left 2
  · simp only [List.getElem?_toArray, List.getElem?_cons_succ, List.getElem?_cons_zero]; rfl
  · kernel_rfl
  · kernel_rfl
  · kernel_rfl
  · exact fun _ _ _ h => h
  · refine Or.inl ⟨by rfl, ?_⟩
    intro w' hSw
    (try dsimp only at hSw)
    go_simp
    all_goals (with_reducible rfl)
  · assumption
  try simp only [Act.put, List.setIfInBounds_toArray, List.set_cons_zero, List.set_cons_succ]
  refine wpAnyH_take (i := 4) (oi := ?_) (v := ?_) ?_ ?_ ?_ ?_ ?_ ?_ ?_ ?_
  rotate_left 2
  · simp only [List.getElem?_toArray, List.getElem?_cons_succ, List.getElem?_cons_zero]; rfl
  · kernel_rfl
  · kernel_rfl
  · kernel_rfl
  · exact fun _ _ _ h => h
  · refine Or.inl ⟨by rfl, ?_⟩
    intro w' hSw
    (try dsimp only at hSw)
    go_simp
    all_goals (with_reducible rfl)
  · assumption
  try simp only [Act.put, List.setIfInBounds_toArray, List.set_cons_zero, List.set_cons_succ]
  refine wpAnyH_take (i := 5) (oi := ?_) (v := ?_) ?_ ?_ ?_ ?_ ?_ ?_ ?_ ?_
  rotate_left 2
  · simp only [List.getElem?_toArray, List.getElem?_cons_succ, List.getElem?_cons_zero]; rfl
  · kernel_rfl
  · kernel_rfl
  · kernel_rfl
  · exact fun _ _ _ h => h
  · refine Or.inl ⟨by rfl, ?_⟩
    intro w' hSw
    (try dsimp only at hSw)
    go_simp
    all_goals (with_reducible rfl)
  · assumption
  try simp only [Act.put, List.setIfInBounds_toArray, List.set_cons_zero, List.set_cons_succ]
  refine wpAnyH_take (i := 6) (oi := ?_) (v := ?_) ?_ ?_ ?_ ?_ ?_ ?_ ?_ ?_
  rotate_left 2
  · simp only [List.getElem?_toArray, List.getElem?_cons_succ, List.getElem?_cons_zero]; rfl
  · kernel_rfl
  · kernel_rfl
  · kernel_rfl
  · exact fun _ _ _ h => h
  · refine Or.inl ⟨by rfl, ?_⟩
    intro w' hSw
    (try dsimp only at hSw)
    go_simp
    all_goals (with_reducible rfl)
  · assumption
  try simp only [Act.put, List.setIfInBounds_toArray, List.set_cons_zero, List.set_cons_succ]
  refine wpAnyH_take (i := 7) (oi := ?_) (v := ?_) ?_ ?_ ?_ ?_ ?_ ?_ ?_ ?_
  rotate_left 2
  · simp only [List.getElem?_toArray, List.getElem?_cons_succ, List.getElem?_cons_zero]; rfl
  · kernel_rfl
  · kernel_rfl
  · kernel_rfl
  · exact fun _ _ _ h => h
  · refine Or.inl ⟨by rfl, ?_⟩
    intro w' hSw
    (try dsimp only at hSw)
    go_simp
    all_goals (with_reducible rfl)
  · assumption
  try simp only [Act.put, List.setIfInBounds_toArray, List.set_cons_zero, List.set_cons_succ]
  refine wpAnyH_take (i := 8) (oi := ?_) (v := ?_) ?_ ?_ ?_ ?_ ?_ ?_ ?_ ?_
  rotate_left 2
  · simp only [List.getElem?_toArray, List.getElem?_cons_succ, List.getElem?_cons_zero]; rfl
  · kernel_rfl
  · kernel_rfl
  · kernel_rfl
  · exact fun _ _ _ h => h
  · refine Or.inl ⟨by rfl, ?_⟩
    intro w' hSw
    (try dsimp only at hSw)
    go_simp
    all_goals (with_reducible rfl)
  · assumption
  try simp only [Act.put, List.setIfInBounds_toArray, List.set_cons_zero, List.set_cons_succ]
  refine wpAnyH_ready (rs := [9]) (by kernel_rfl) (by simp) ?_
  refine AllReadyH.cons (o := ?_) ?_ ?_ ?_
  rotate_left 1
  · simp only [List.getElem?_toArray, List.getElem?_cons_succ, List.getElem?_cons_zero]; rfl
  rotate_left 1
  · exact AllReadyH.nil
  intro K hK
  go_simp
  refine (CR.out _).mono ?_; rintro e w2 ⟨rfl, b2⟩; have B2 := Lib.hid b2; clear b2
  refine hK.out _ _ ⟨(KRD.out.keep B2.out).rd, (KCD.out.keep B2.out).rd⟩ (fun hHeld => ?_)
  clear hK K
  try simp only [Act.put, List.setIfInBounds_toArray, List.set_cons_zero, List.set_cons_succ]
  refine wpAnyH_take (i := 10) (oi := ?_) (v := ?_) ?_ ?_ ?_ ?_ ?_ ?_ ?_ ?_
  rotate_left 2
  · simp only [List.getElem?_toArray, List.getElem?_cons_succ, List.getElem?_cons_zero]; rfl
  · kernel_rfl
  · kernel_rfl
  · kernel_rfl
  · exact fun _ _ _ h => h
  · refine Or.inl ⟨by rfl, ?_⟩
    intro w' hSw
    (try dsimp only at hSw)
    go_simp
    all_goals (with_reducible rfl)
  · assumption
  try simp only [Act.put, List.setIfInBounds_toArray, List.set_cons_zero, List.set_cons_succ]
  refine wpAnyH_take (i := 11) (oi := ?_) (v := ?_) ?_ ?_ ?_ ?_ ?_ ?_ ?_ ?_
  rotate_left 2
  · simp only [List.getElem?_toArray, List.getElem?_cons_succ, List.getElem?_cons_zero]; rfl
  · kernel_rfl
  · kernel_rfl
  · kernel_rfl
  · exact fun _ _ _ h => h
  · refine Or.inl ⟨by rfl, ?_⟩
    intro w' hSw
    (try dsimp only at hSw)
    go_simp
    all_goals (with_reducible rfl)
  · assumption
  try simp only [Act.put, List.setIfInBounds_toArray, List.set_cons_zero, List.set_cons_succ]
  refine wpAnyH_done (by kernel_rfl) ?_ _
  clear hHeld
  go_wp2
  go_ret
  exact ⟨rfl, G.below_on B1.out (G.below_on (below_draws (Below.refl _ _) 1) B2.out)⟩
set_option maxHeartbeats 8000000 in
theorem take_yes (h : Ru U W B L) (hc : Ce F S C D t) (h1 : 1 ≤ cost) (hy : cost ≤ room F S C D U W B L t) (b : Nat) (w : World) (ha : CAt w b F S C D) :
    Calls Try.prog 22 #[.pointer (some ⟨b, 0, none⟩), rvV L W B x1 x2 x3 x4 x5 sm, .int .i64 t, .int .i64 cost] w fun e w' => e = .returned (.bool true) ∧ CAt w' b (max F t + cost * U) S C (D + cost) ∧ Fr (fun k => k = b) w w' := by
  have hub := h.ub
  have hB := h.B
  have hL := h.L
  have hcb : cost ≤ base F U B t := Int.le_trans hy room_base
  have hcB : cost ≤ B := Int.le_trans hcb (base_hi (by omega))
  have hcr : cost ≤ 1048576 := by omega
  have u1 : decide (cost < 1) = false := by rw [decide_eq_false_iff_not]; omega
  have CR := Lib.hid (fun wx => room_any x1 x2 x3 x4 x5 sm h hc wx)
  obtain ⟨ro, hro⟩ : ∃ z, z = room F S C D U W B L t := ⟨_, rfl⟩
  rw [← hro] at CR hy
  have u2 : decide (ro < cost) = false := by rw [decide_eq_false_iff_not]; omega
  obtain ⟨w1, hw1, k1, b1', s1⟩ := box9 w #[.int .i64 L, .int .i64 W, .int .i64 B, .int .i64 x1, .int .i64 x2, .int .i64 x3, .int .i64 x4, .int .i64 x5, .bool sm] 28
  obtain ⟨rb, hrb⟩ : ∃ z, z = w.heap.size := ⟨_, rfl⟩
  have HRB := Lib.hid hrb
  have NE := Lib.hid (show rb ≠ b from by have := lt_of_block ha; omega)
  rw [← hrb] at k1
  have KR := Lib.hid k1
  have KC := Lib.hid (ha.keep b1')
  have B1 := Lib.hid b1'
  have HR := Lib.hid h
  have HC := Lib.hid hc
  have HCB := Lib.hid hcb
  have hD := hc.D
  clear hy k1 b1' s1 hro ha hrb h hc hcb
  go_enter Try.func22, Try.ntmps22
  go_upto_region 1 with (fail)
  rw [← HRB.out]
  clear hw1
  have KRD := Lib.hid (show Blk w1.drew rb 28 #[.int .i64 L, .int .i64 W, .int .i64 B, .int .i64 x1, .int .i64 x2, .int .i64 x3, .int .i64 x4, .int .i64 x5, .bool sm] from KR.out)
  have KCD := Lib.hid (show CAt w1.drew b F S C D from KC.out)
  have st : (∀ j, w1.drew.cell? ⟨rb, j, none⟩ = (#[.int .i64 L, .int .i64 W, .int .i64 B, .int .i64 x1, .int .i64 x2, .int .i64 x3, .int .i64 x4, .int .i64 x5, .bool sm] : Array Value)[j]?) ∧ ∀ j, w1.drew.cell? ⟨b, j, none⟩ = (#[.int .i64 F, .int .i64 S, .int .i64 C, .int .i64 D] : Array Value)[j]? := ⟨KRD.out.rd, KCD.out.rd⟩
  refine wp_region_held_drew (S := fun wx => (∀ j, wx.cell? ⟨rb, j, none⟩ = (#[.int .i64 L, .int .i64 W, .int .i64 B, .int .i64 x1, .int .i64 x2, .int .i64 x3, .int .i64 x4, .int .i64 x5, .bool sm] : Array Value)[j]?) ∧ ∀ j, wx.cell? ⟨b, j, none⟩ = (#[.int .i64 F, .int .i64 S, .int .i64 C, .int .i64 D] : Array Value)[j]?) (by kernel_rfl) st (fun hHeld => ?_)
  clear st
  refine wpAnyH_take (i := 0) (oi := ?_) (v := ?_) ?_ ?_ ?_ ?_ ?_ ?_ ?_ ?_
  rotate_left 2
  · simp only [List.getElem?_toArray, List.getElem?_cons_succ, List.getElem?_cons_zero]; rfl
  · kernel_rfl
  · kernel_rfl
  · kernel_rfl
  · exact fun _ _ _ h => h
  · refine Or.inl ⟨by rfl, ?_⟩
    intro w' hSw
    (try dsimp only at hSw)
    go_simp
    all_goals (with_reducible rfl)
  · assumption
  try simp only [Act.put, List.setIfInBounds_toArray, List.set_cons_zero, List.set_cons_succ]
  refine wpAnyH_take (i := 1) (oi := ?_) (v := ?_) ?_ ?_ ?_ ?_ ?_ ?_ ?_ ?_
  rotate_left 2
  · simp only [List.getElem?_toArray, List.getElem?_cons_succ, List.getElem?_cons_zero]; rfl
  · kernel_rfl
  · kernel_rfl
  · kernel_rfl
  · exact fun _ _ _ h => h
  · refine Or.inl ⟨by rfl, ?_⟩
    intro w' hSw
    (try dsimp only at hSw)
    go_simp
    all_goals (with_reducible rfl)
  · assumption
  try simp only [Act.put, List.setIfInBounds_toArray, List.set_cons_zero, List.set_cons_succ]
  refine wpAnyH_take (i := 2) (oi := ?_) (v := ?_) ?_ ?_ ?_ ?_ ?_ ?_ ?_ ?_
  rotate_left 2
  · simp only [List.getElem?_toArray, List.getElem?_cons_succ, List.getElem?_cons_zero]; rfl
  · kernel_rfl
  · kernel_rfl
  · kernel_rfl
  · exact fun _ _ _ h => h
  · refine Or.inl ⟨by rfl, ?_⟩
    intro w' hSw
    (try dsimp only at hSw)
    go_simp
    all_goals (with_reducible rfl)
  · assumption
  try simp only [Act.put, List.setIfInBounds_toArray, List.set_cons_zero, List.set_cons_succ]
  refine wpAnyH_take (i := 3) (oi := ?_) (v := ?_) ?_ ?_ ?_ ?_ ?_ ?_ ?_ ?_
  rotate_left 2
  · simp only [List.getElem?_toArray, List.getElem?_cons_succ, List.getElem?_cons_zero]; rfl
  · kernel_rfl
  · kernel_rfl
  · kernel_rfl
  · exact fun _ _ _ h => h
  · refine Or.inl ⟨by rfl, ?_⟩
    intro w' hSw
    (try dsimp only at hSw)
    go_simp
    all_goals (with_reducible rfl)
  · assumption
  try simp only [Act.put, List.setIfInBounds_toArray, List.set_cons_zero, List.set_cons_succ]
  refine wpAnyH_take (i := 4) (oi := ?_) (v := ?_) ?_ ?_ ?_ ?_ ?_ ?_ ?_ ?_
  rotate_left 2
  · simp only [List.getElem?_toArray, List.getElem?_cons_succ, List.getElem?_cons_zero]; rfl
  · kernel_rfl
  · kernel_rfl
  · kernel_rfl
  · exact fun _ _ _ h => h
  · refine Or.inl ⟨by rfl, ?_⟩
    intro w' hSw
    (try dsimp only at hSw)
    go_simp
    all_goals (with_reducible rfl)
  · assumption
  try simp only [Act.put, List.setIfInBounds_toArray, List.set_cons_zero, List.set_cons_succ]
  refine wpAnyH_take (i := 5) (oi := ?_) (v := ?_) ?_ ?_ ?_ ?_ ?_ ?_ ?_ ?_
  rotate_left 2
  · simp only [List.getElem?_toArray, List.getElem?_cons_succ, List.getElem?_cons_zero]; rfl
  · kernel_rfl
  · kernel_rfl
  · kernel_rfl
  · exact fun _ _ _ h => h
  · refine Or.inl ⟨by rfl, ?_⟩
    intro w' hSw
    (try dsimp only at hSw)
    go_simp
    all_goals (with_reducible rfl)
  · assumption
  try simp only [Act.put, List.setIfInBounds_toArray, List.set_cons_zero, List.set_cons_succ]
  refine wpAnyH_take (i := 6) (oi := ?_) (v := ?_) ?_ ?_ ?_ ?_ ?_ ?_ ?_ ?_
  rotate_left 2
  · simp only [List.getElem?_toArray, List.getElem?_cons_succ, List.getElem?_cons_zero]; rfl
  · kernel_rfl
  · kernel_rfl
  · kernel_rfl
  · exact fun _ _ _ h => h
  · refine Or.inl ⟨by rfl, ?_⟩
    intro w' hSw
    (try dsimp only at hSw)
    go_simp
    all_goals (with_reducible rfl)
  · assumption
  try simp only [Act.put, List.setIfInBounds_toArray, List.set_cons_zero, List.set_cons_succ]
  refine wpAnyH_take (i := 7) (oi := ?_) (v := ?_) ?_ ?_ ?_ ?_ ?_ ?_ ?_ ?_
  rotate_left 2
  · simp only [List.getElem?_toArray, List.getElem?_cons_succ, List.getElem?_cons_zero]; rfl
  · kernel_rfl
  · kernel_rfl
  · kernel_rfl
  · exact fun _ _ _ h => h
  · refine Or.inl ⟨by rfl, ?_⟩
    intro w' hSw
    (try dsimp only at hSw)
    go_simp
    all_goals (with_reducible rfl)
  · assumption
  try simp only [Act.put, List.setIfInBounds_toArray, List.set_cons_zero, List.set_cons_succ]
  refine wpAnyH_take (i := 8) (oi := ?_) (v := ?_) ?_ ?_ ?_ ?_ ?_ ?_ ?_ ?_
  rotate_left 2
  · simp only [List.getElem?_toArray, List.getElem?_cons_succ, List.getElem?_cons_zero]; rfl
  · kernel_rfl
  · kernel_rfl
  · kernel_rfl
  · exact fun _ _ _ h => h
  · refine Or.inl ⟨by rfl, ?_⟩
    intro w' hSw
    (try dsimp only at hSw)
    go_simp
    all_goals (with_reducible rfl)
  · assumption
  try simp only [Act.put, List.setIfInBounds_toArray, List.set_cons_zero, List.set_cons_succ]
  refine wpAnyH_ready (rs := [9]) (by kernel_rfl) (by simp) ?_
  refine AllReadyH.cons (o := ?_) ?_ ?_ ?_
  rotate_left 1
  · simp only [List.getElem?_toArray, List.getElem?_cons_succ, List.getElem?_cons_zero]; rfl
  rotate_left 1
  · exact AllReadyH.nil
  intro K hK
  go_simp
  refine (CR.out _).mono ?_; rintro e w2 ⟨rfl, b2⟩; have B2 := Lib.hid b2; clear b2
  refine hK.out _ _ ⟨(KRD.out.keep B2.out).rd, (KCD.out.keep B2.out).rd⟩ (fun hHeld => ?_)
  clear hK K
  try simp only [Act.put, List.setIfInBounds_toArray, List.set_cons_zero, List.set_cons_succ]
  refine wpAnyH_take (i := 10) (oi := ?_) (v := ?_) ?_ ?_ ?_ ?_ ?_ ?_ ?_ ?_
  rotate_left 2
  · simp only [List.getElem?_toArray, List.getElem?_cons_succ, List.getElem?_cons_zero]; rfl
  · kernel_rfl
  · kernel_rfl
  · kernel_rfl
  · exact fun _ _ _ h => h
  · refine Or.inl ⟨by rfl, ?_⟩
    intro w' hSw
    (try dsimp only at hSw)
    go_simp
    all_goals (with_reducible rfl)
  · assumption
  try simp only [Act.put, List.setIfInBounds_toArray, List.set_cons_zero, List.set_cons_succ]
  refine wpAnyH_take (i := 11) (oi := ?_) (v := ?_) ?_ ?_ ?_ ?_ ?_ ?_ ?_ ?_
  rotate_left 2
  · simp only [List.getElem?_toArray, List.getElem?_cons_succ, List.getElem?_cons_zero]; rfl
  · kernel_rfl
  · kernel_rfl
  · kernel_rfl
  · exact fun _ _ _ h => h
  · refine Or.inl ⟨by rfl, ?_⟩
    intro w' hSw
    (try dsimp only at hSw)
    go_simp
    all_goals (with_reducible rfl)
  · assumption
  try simp only [Act.put, List.setIfInBounds_toArray, List.set_cons_zero, List.set_cons_succ]
  refine wpAnyH_done (by kernel_rfl) ?_ _
  have K2 := Lib.hid (show CAt w2 b F S C D ∧ Blk w2 rb 28 #[.int .i64 L, .int .i64 W, .int .i64 B, .int .i64 x1, .int .i64 x2, .int .i64 x3, .int .i64 x4, .int .i64 x5, .bool sm] ∧ Fr (fun k => k = b) w w2 from ⟨KCD.out.keep B2.out, KRD.out.keep B2.out, (((Fr.of_below B1.out).trans (Fr.refl _ _).drew).trans (Fr.of_below B2.out))⟩)
  clear hHeld u1 u2 CR
  go_wp2
  go_loopg [9] cost.toNat (fun kk iv wq => ∃ i : Int, Hid (kk = (cost - i).toNat) ∧ Hid (0 ≤ i ∧ i ≤ cost) ∧ iv = .int .i64 i ∧ Hid (CAt wq b (fz F U t i) S C D) ∧ Hid (Blk wq rb 28 #[.int .i64 L, .int .i64 W, .int .i64 B, .int .i64 x1, .int .i64 x2, .int .i64 x3, .int .i64 x4, .int .i64 x5, .bool sm]) ∧ Hid (Fr (fun k => k = b) w wq))
  case atStart => exact ⟨0, Lib.hid (by rw [Int.sub_zero]), Lib.hid ⟨Int.le_refl _, by omega⟩, rfl, Lib.hid (by rw [fz_zero]; exact K2.out.1), Lib.hid K2.out.2.1, Lib.hid K2.out.2.2⟩
  case round =>
    obtain ⟨i, HK, HI, rfl, HD, HR2, HF⟩ := hrel
    have hib := HI.out
    have kr := HR2.out.rd
    by_cases hgo : i < cost
    · have hi := (one_iff (F := F) (t := t) (B := B) hub.1 hib.1).1 (Int.le_trans (by omega) HCB.out)
      have hfz := Lib.hid (fz_max (F := F) (t := t) (show 0 ≤ U by omega) hib.1)
      have CE := Lib.hid (show Ce (fz F U t i) S C D t from ⟨by
        have h1 := HC.out.F
        have h3 := HC.out.t
        have h5 : i = 0 ∨ 1 ≤ i := by omega
        rcases h5 with e | e
        · rw [e, fz_zero]; exact h1
        · have h6 := (base_iff (F := F) (t := t) (B := B) hub.1 e).1 (Int.le_trans (by omega) HCB.out)
          have h7 := HR.out.bu (Int.le_trans (by omega) hB.1) (Int.le_refl B)
          have h8 := Int.mul_nonneg hib.1 (show 0 ≤ U by omega)
          unfold fz
          rw [if_neg (by omega)]
          omega, HC.out.S, HC.out.C, HC.out.D, HC.out.t⟩)
      have u1 : decide (i < cost) = true := by rw [decide_eq_true_iff]; exact hgo
      have HGO := Lib.hid hgo
      have CO := Lib.hid (one_yes x1 x2 x3 x4 x5 sm HR.out CE.out b wr HD.out hi.2)
      have HFN := Lib.hid (show max (fz F U t i) t + U = fz F U t (i + 1) from by
        rw [hfz.out]
        unfold fz
        rw [if_neg (by omega), Int.add_mul, Int.one_mul]
        omega)
      clear hi hgo
      go_wp2_with (go_at_call 31; (refine CO.out.mono ?_; rintro e y1 ⟨rfl, a1, f1⟩; have A1 := Lib.hid a1; have F1 := Lib.hid f1; clear a1 f1))
      go_roundg (cost - (i + 1)).toNat
      case measure => have := HK.out; have := HGO.out; omega
      case rel => exact ⟨i + 1, Lib.hid rfl, Lib.hid ⟨by omega, HGO.out⟩, rfl, Lib.hid (by rw [← HFN.out]; exact A1.out), Lib.hid (HR2.out.fr F1.out NE.out), Lib.hid (HF.out.trans F1.out)⟩
    · have u1 : decide (i < cost) = false := by rw [decide_eq_false_iff_not]; exact hgo
      have hie : i = cost := by omega
      have HFZ := Lib.hid (show fz F U t i = max F t + cost * U from by rw [hie]; unfold fz; rw [if_neg (by omega)])
      obtain ⟨w5, hw5, k5, f5, z5⟩ := G.box_set HD.out 3 (.int .i64 (D + cost)) #[.int .i64 (fz F U t i), .int .i64 S, .int .i64 C, .int .i64 (D + cost)] rfl
      have H5 := Lib.hid (show CAt w5 b (max F t + cost * U) S C (D + cost) ∧ Fr (fun k => k = b) w w5 from ⟨by rw [← HFZ.out]; exact k5, HF.out.trans f5⟩)
      have kd := HD.out.rd
      have kw := HD.out.wr
      clear hgo hie k5 f5 z5
      go_wp2
      go_ret
      exact ⟨rfl, H5.out.1, H5.out.2⟩
set_option maxHeartbeats 8000000 in
theorem wait_any (h : Ru U W B L) (hc : Ce F S C D t) (h1 : 1 ≤ cost ∧ cost ≤ B) (w : World) :
    Calls Try.prog 20 #[cvV F S C D, rvV L W B x1 x2 x3 x4 x5 sm, .int .i64 t, .int .i64 cost] w fun e w' => e = .returned (.int .i64 (wait F S C D U W B L t cost)) ∧ Below w.heap.size w w' := by
  have hub := h.ub
  have hB := h.B
  have hL := h.L
  have CR := Lib.hid (fun wx => room_any x1 x2 x3 x4 x5 sm h hc wx)
  have CU := Lib.hid (fun wx => unit_any x1 x2 x3 x4 x5 sm h wx)
  have HZ := Lib.hid (fun hq => wait_zero (F := F) (S := S) (C := C) (D := D) (W := W) (B := B) (L := L) (t := t) hub.1 h1.1 hq)
  obtain ⟨ro, hro⟩ : ∃ z, z = room F S C D U W B L t := ⟨_, rfl⟩
  rw [← hro] at CR HZ
  obtain ⟨w1, hw1, k1, b1, s1⟩ := box9 w #[.int .i64 F, .int .i64 S, .int .i64 C, .int .i64 D] 38
  obtain ⟨w2, hw2, k2, b2, s2⟩ := box9 w1 #[.int .i64 L, .int .i64 W, .int .i64 B, .int .i64 x1, .int .i64 x2, .int .i64 x3, .int .i64 x4, .int .i64 x5, .bool sm] 28
  obtain ⟨cb, hcb⟩ : ∃ z, z = w.heap.size := ⟨_, rfl⟩
  obtain ⟨rb, hrb⟩ : ∃ z, z = w1.heap.size := ⟨_, rfl⟩
  have HBX := Lib.hid (And.intro hcb hrb)
  rw [← hcb] at k1
  rw [← hrb] at k2
  have KC := Lib.hid (Blk.keep k1 b2)
  have KR := Lib.hid k2
  have B2 := Lib.hid (G.below_on b1 b2)
  have kc := KC.out.rd
  have kr := KR.out.rd
  have hbu := h.bu (k := B - cost) (by omega) (by omega)
  have hF := hc.F
  have hS := hc.S
  have hCb := hc.C
  have hDb := hc.D
  have ht := hc.t
  have hWb := h.W
  clear k1 k2 b1 s1 b2 s2 hro hcb hrb h hc
  go_enter Try.func20, Try.ntmps20
  go_upto_region 1 with (fail)
  rw [← HBX.out.1, ← HBX.out.2]
  clear hw1 hw2
  by_cases hle : cost ≤ ro
  · have u1 : decide (cost ≤ ro) = true := by rw [decide_eq_true_iff]; exact hle
    have HZ0 := Lib.hid (HZ.out hle)
    clear hle
    go_wp2_with (go_at_call 18; (refine (CR.out _).mono ?_; rintro e y2 ⟨rfl, d2⟩; have B3 := Lib.hid (G.below_on B2.out d2); clear d2))
    go_ret
    exact ⟨by rw [HZ0.out]; rfl, B3.out⟩
  · have u1 : decide (cost ≤ ro) = false := by rw [decide_eq_false_iff_not]; exact hle
    clear hle
    go_upto_region 3 with (go_at_call 18; (refine (CR.out _).mono ?_; rintro e y2 ⟨rfl, d2⟩; have B3 := Lib.hid (G.below_on B2.out d2); have D2 := Lib.hid d2; clear d2))
    clear kc kr u1
    have KC3 := Lib.hid (KC.out.keep D2.out)
    have KR3 := Lib.hid (KR.out.keep D2.out)
    obtain ⟨d1, hd1⟩ : ∃ z, z = B - cost := ⟨_, rfl⟩
    obtain ⟨p1, hp1⟩ : ∃ z, z = d1 * U := ⟨_, rfl⟩
    rw [← hd1, ← hp1] at hbu
    obtain ⟨a0, ha0⟩ : ∃ z, z = F - p1 := ⟨_, rfl⟩
    have e1 : IntKind.i64.wrap (B - cost) = d1 := by rw [hd1]; exact IntWalk.i64_in _ (by omega)
    have e2 : IntKind.i64.wrap (d1 * U) = p1 := by rw [← hp1]; exact IntWalk.i64_in _ (by omega)
    have e3 : IntKind.i64.wrap (F - p1) = a0 := by rw [ha0]; exact IntWalk.i64_in _ (by omega)
    have ha0b : -1099512676352 ≤ a0 ∧ a0 ≤ 6917529027641081856 := by omega
    have HWT := Lib.hid (show wait F S C D U W B L t cost = (if max t a0 < S + W ∧ rest C D L < cost then S + W else max t a0) - t from by unfold wait; rw [← hd1, ← hp1, ← ha0])
    clear hd1 hp1 ha0 hbu
    have KRD := Lib.hid (show Blk y2.drew rb 28 #[.int .i64 L, .int .i64 W, .int .i64 B, .int .i64 x1, .int .i64 x2, .int .i64 x3, .int .i64 x4, .int .i64 x5, .bool sm] from KR3.out)
    have KCD := Lib.hid (show CAt y2.drew cb F S C D from KC3.out)
    have st : (∀ j, y2.drew.cell? ⟨rb, j, none⟩ = (#[.int .i64 L, .int .i64 W, .int .i64 B, .int .i64 x1, .int .i64 x2, .int .i64 x3, .int .i64 x4, .int .i64 x5, .bool sm] : Array Value)[j]?) ∧ ∀ j, y2.drew.cell? ⟨cb, j, none⟩ = (#[.int .i64 F, .int .i64 S, .int .i64 C, .int .i64 D] : Array Value)[j]? := ⟨KRD.out.rd, KCD.out.rd⟩
    refine wp_region_held_drew (S := fun wx => (∀ j, wx.cell? ⟨rb, j, none⟩ = (#[.int .i64 L, .int .i64 W, .int .i64 B, .int .i64 x1, .int .i64 x2, .int .i64 x3, .int .i64 x4, .int .i64 x5, .bool sm] : Array Value)[j]?) ∧ ∀ j, wx.cell? ⟨cb, j, none⟩ = (#[.int .i64 F, .int .i64 S, .int .i64 C, .int .i64 D] : Array Value)[j]?) (by kernel_rfl) st (fun hHeld => ?_)
    clear st
    refine wpAnyH_take (i := 0) (oi := ?_) (v := ?_) ?_ ?_ ?_ ?_ ?_ ?_ ?_ ?_
    rotate_left 2
    · simp only [List.getElem?_toArray, List.getElem?_cons_succ, List.getElem?_cons_zero]; rfl
    · kernel_rfl
    · kernel_rfl
    · kernel_rfl
    · exact fun _ _ _ h => h
    · refine Or.inl ⟨by rfl, ?_⟩
      intro w' hSw
      (try dsimp only at hSw)
      go_simp
      all_goals (with_reducible rfl)
    · assumption
    try simp only [Act.put, List.setIfInBounds_toArray, List.set_cons_zero, List.set_cons_succ]
    refine wpAnyH_take (i := 1) (oi := ?_) (v := ?_) ?_ ?_ ?_ ?_ ?_ ?_ ?_ ?_
    rotate_left 2
    · simp only [List.getElem?_toArray, List.getElem?_cons_succ, List.getElem?_cons_zero]; rfl
    · kernel_rfl
    · kernel_rfl
    · kernel_rfl
    · exact fun _ _ _ h => h
    · refine Or.inl ⟨by rfl, ?_⟩
      intro w' hSw
      (try dsimp only at hSw)
      go_simp
      all_goals (with_reducible rfl)
    · assumption
    try simp only [Act.put, List.setIfInBounds_toArray, List.set_cons_zero, List.set_cons_succ]
    refine wpAnyH_take (i := 2) (oi := ?_) (v := ?_) ?_ ?_ ?_ ?_ ?_ ?_ ?_ ?_
    rotate_left 2
    · simp only [List.getElem?_toArray, List.getElem?_cons_succ, List.getElem?_cons_zero]; rfl
    · kernel_rfl
    · kernel_rfl
    · kernel_rfl
    · exact fun _ _ _ h => h
    · refine Or.inl ⟨by rfl, ?_⟩
      intro w' hSw
      (try dsimp only at hSw)
      go_simp
      all_goals (with_reducible rfl)
    · assumption
    try simp only [Act.put, List.setIfInBounds_toArray, List.set_cons_zero, List.set_cons_succ]
    refine wpAnyH_take (i := 3) (oi := ?_) (v := ?_) ?_ ?_ ?_ ?_ ?_ ?_ ?_ ?_
    rotate_left 2
    · simp only [List.getElem?_toArray, List.getElem?_cons_succ, List.getElem?_cons_zero]; rfl
    · kernel_rfl
    · kernel_rfl
    · kernel_rfl
    · exact fun _ _ _ h => h
    · refine Or.inl ⟨by rfl, ?_⟩
      intro w' hSw
      (try dsimp only at hSw)
      go_simp
      all_goals (with_reducible rfl)
    · assumption
    try simp only [Act.put, List.setIfInBounds_toArray, List.set_cons_zero, List.set_cons_succ]
    refine wpAnyH_take (i := 4) (oi := ?_) (v := ?_) ?_ ?_ ?_ ?_ ?_ ?_ ?_ ?_
    rotate_left 2
    · simp only [List.getElem?_toArray, List.getElem?_cons_succ, List.getElem?_cons_zero]; rfl
    · kernel_rfl
    · kernel_rfl
    · kernel_rfl
    · exact fun _ _ _ h => h
    · refine Or.inl ⟨by rfl, ?_⟩
      intro w' hSw
      (try dsimp only at hSw)
      go_simp
      all_goals (with_reducible rfl)
    · assumption
    try simp only [Act.put, List.setIfInBounds_toArray, List.set_cons_zero, List.set_cons_succ]
    refine wpAnyH_take (i := 5) (oi := ?_) (v := ?_) ?_ ?_ ?_ ?_ ?_ ?_ ?_ ?_
    rotate_left 2
    · simp only [List.getElem?_toArray, List.getElem?_cons_succ, List.getElem?_cons_zero]; rfl
    · kernel_rfl
    · kernel_rfl
    · kernel_rfl
    · exact fun _ _ _ h => h
    · refine Or.inl ⟨by rfl, ?_⟩
      intro w' hSw
      (try dsimp only at hSw)
      go_simp
      all_goals (with_reducible rfl)
    · assumption
    try simp only [Act.put, List.setIfInBounds_toArray, List.set_cons_zero, List.set_cons_succ]
    refine wpAnyH_take (i := 6) (oi := ?_) (v := ?_) ?_ ?_ ?_ ?_ ?_ ?_ ?_ ?_
    rotate_left 2
    · simp only [List.getElem?_toArray, List.getElem?_cons_succ, List.getElem?_cons_zero]; rfl
    · kernel_rfl
    · kernel_rfl
    · kernel_rfl
    · exact fun _ _ _ h => h
    · refine Or.inl ⟨by rfl, ?_⟩
      intro w' hSw
      (try dsimp only at hSw)
      go_simp
      all_goals (with_reducible rfl)
    · assumption
    try simp only [Act.put, List.setIfInBounds_toArray, List.set_cons_zero, List.set_cons_succ]
    refine wpAnyH_ready (rs := [7]) (by kernel_rfl) (by simp) ?_
    refine AllReadyH.cons (o := ?_) ?_ ?_ ?_
    rotate_left 1
    · simp only [List.getElem?_toArray, List.getElem?_cons_succ, List.getElem?_cons_zero]; rfl
    rotate_left 1
    · exact AllReadyH.nil
    intro K hK
    go_simp
    refine (CU.out _).mono ?_; rintro e y5 ⟨rfl, d5⟩; have KR5 := Lib.hid (KRD.out.keep d5); have KC5 := Lib.hid (KCD.out.keep d5); have B5 := Lib.hid (G.below_on B3.out (G.below_on (below_draws (Below.refl _ _) 1) d5)); clear d5
    refine hK.out _ _ ⟨KR5.out.rd, KC5.out.rd⟩ (fun hHeld => ?_)
    clear hK K
    try simp only [Act.put, List.setIfInBounds_toArray, List.set_cons_zero, List.set_cons_succ]
    refine wpAnyH_take (i := 8) (oi := ?_) (v := ?_) ?_ ?_ ?_ ?_ ?_ ?_ ?_ ?_
    rotate_left 2
    · simp only [List.getElem?_toArray, List.getElem?_cons_succ, List.getElem?_cons_zero]; rfl
    · kernel_rfl
    · kernel_rfl
    · kernel_rfl
    · exact fun _ _ _ h => h
    · refine Or.inl ⟨by rfl, ?_⟩
      intro w' hSw
      (try dsimp only at hSw)
      go_simp
      all_goals (with_reducible rfl)
    · assumption
    try simp only [Act.put, List.setIfInBounds_toArray, List.set_cons_zero, List.set_cons_succ]
    refine wpAnyH_take (i := 9) (oi := ?_) (v := ?_) ?_ ?_ ?_ ?_ ?_ ?_ ?_ ?_
    rotate_left 2
    · simp only [List.getElem?_toArray, List.getElem?_cons_succ, List.getElem?_cons_zero]; rfl
    · kernel_rfl
    · kernel_rfl
    · kernel_rfl
    · exact fun _ _ _ h => h
    · refine Or.inl ⟨by rfl, ?_⟩
      intro w' hSw
      (try dsimp only at hSw)
      go_simp
      all_goals (with_reducible rfl)
    · assumption
    try simp only [Act.put, List.setIfInBounds_toArray, List.set_cons_zero, List.set_cons_succ]
    refine wpAnyH_take (i := 10) (oi := ?_) (v := ?_) ?_ ?_ ?_ ?_ ?_ ?_ ?_ ?_
    rotate_left 2
    · simp only [List.getElem?_toArray, List.getElem?_cons_succ, List.getElem?_cons_zero]; rfl
    · kernel_rfl
    · kernel_rfl
    · kernel_rfl
    · exact fun _ _ _ h => h
    · refine Or.inl ⟨by rfl, ?_⟩
      intro w' hSw
      (try dsimp only at hSw)
      go_simp
      all_goals (with_reducible rfl)
    · assumption
    try simp only [Act.put, List.setIfInBounds_toArray, List.set_cons_zero, List.set_cons_succ]
    refine wpAnyH_done (by kernel_rfl) ?_ _
    clear hHeld e1 e2 e3
    have kc5 := KC5.out.rd
    have kr5 := KR5.out.rd
    obtain ⟨q1, hq1⟩ : ∃ z, z = C + D := ⟨_, rfl⟩
    obtain ⟨q2, hq2⟩ : ∃ z, z = q1 + cost := ⟨_, rfl⟩
    have g1 : C + D = q1 := hq1.symm
    have g2 : q1 + cost = q2 := hq2.symm
    have hq1b : 0 ≤ q1 ∧ q1 ≤ 5764607523034234880 := by omega
    have hq2b : 0 ≤ q2 ∧ q2 ≤ 5764607523035283456 := by omega
    have HQ := Lib.hid (show rest C D L < cost ↔ L < q2 from by unfold rest; omega)
    obtain ⟨sw, hsw⟩ : ∃ z, z = S + W := ⟨_, rfl⟩
    have g3 : S + W = sw := hsw.symm
    have HSW := Lib.hid hsw
    have hswb : 1 ≤ sw ∧ sw ≤ 4611686018428436480 := by omega
    clear hq1 hq2 hsw
    by_cases hlt : a0 < t
    · have HMX := Lib.hid (show max t a0 = t by omega)
      have u1 : decide (a0 < t) = true := by rw [decide_eq_true_iff]; exact hlt
      have hAb : -1099512676352 ≤ t ∧ t ≤ 6917529027641081856 := by omega
      obtain ⟨y9, hy9⟩ : ∃ z, z = t - S := ⟨_, rfl⟩
      have g4 : t - S = y9 := hy9.symm
      clear hlt
      by_cases hy : t < S + W
      · have u2 : decide (y9 < W) = true := by rw [decide_eq_true_iff]; omega
        by_cases hl : L < q2
        · have u3 : decide (L < q2) = true := by rw [decide_eq_true_iff]; exact hl
          have HF := Lib.hid (show wait F S C D U W B L t cost = sw - t from by rw [HWT.out, HMX.out, if_pos ⟨hy, HQ.out.2 hl⟩, ← HSW.out])
          clear hy9 hy hl
          go_wp2
          go_ret
          exact ⟨by rw [HF.out]; rfl, B5.out⟩
        · have u3 : decide (L < q2) = false := by rw [decide_eq_false_iff_not]; exact hl
          have HF := Lib.hid (show wait F S C D U W B L t cost = t - t from by rw [HWT.out, HMX.out, if_neg (fun g => hl (HQ.out.1 g.2))])
          clear hy9 hy hl
          go_wp2
          go_ret
          exact ⟨by rw [HF.out]; first | rfl | simp, B5.out⟩
      · have u2 : decide (y9 < W) = false := by rw [decide_eq_false_iff_not]; omega
        have HF := Lib.hid (show wait F S C D U W B L t cost = t - t from by rw [HWT.out, HMX.out, if_neg (fun g => hy g.1)])
        clear hy9 hy
        go_wp2
        go_ret
        exact ⟨by rw [HF.out]; first | rfl | simp, B5.out⟩
    · have HMX := Lib.hid (show max t a0 = a0 by omega)
      have u1 : decide (a0 < t) = false := by rw [decide_eq_false_iff_not]; exact hlt
      have hAb : -1099512676352 ≤ a0 ∧ a0 ≤ 6917529027641081856 := by omega
      obtain ⟨y9, hy9⟩ : ∃ z, z = a0 - S := ⟨_, rfl⟩
      have g4 : a0 - S = y9 := hy9.symm
      clear hlt
      by_cases hy : a0 < S + W
      · have u2 : decide (y9 < W) = true := by rw [decide_eq_true_iff]; omega
        by_cases hl : L < q2
        · have u3 : decide (L < q2) = true := by rw [decide_eq_true_iff]; exact hl
          have HF := Lib.hid (show wait F S C D U W B L t cost = sw - t from by rw [HWT.out, HMX.out, if_pos ⟨hy, HQ.out.2 hl⟩, ← HSW.out])
          clear hy9 hy hl
          go_wp2
          go_ret
          exact ⟨by rw [HF.out]; rfl, B5.out⟩
        · have u3 : decide (L < q2) = false := by rw [decide_eq_false_iff_not]; exact hl
          have HF := Lib.hid (show wait F S C D U W B L t cost = a0 - t from by rw [HWT.out, HMX.out, if_neg (fun g => hl (HQ.out.1 g.2))])
          clear hy9 hy hl
          go_wp2
          go_ret
          exact ⟨by rw [HF.out]; first | rfl | simp, B5.out⟩
      · have u2 : decide (y9 < W) = false := by rw [decide_eq_false_iff_not]; omega
        have HF := Lib.hid (show wait F S C D U W B L t cost = a0 - t from by rw [HWT.out, HMX.out, if_neg (fun g => hy g.1)])
        clear hy9 hy
        go_wp2
        go_ret
        exact ⟨by rw [HF.out]; first | rfl | simp, B5.out⟩
end
end Go.Proofs.Ytfegoehiopkcnaa.R9
