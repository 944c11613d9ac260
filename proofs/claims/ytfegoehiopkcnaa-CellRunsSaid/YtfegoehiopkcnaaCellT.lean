/- The contracts of layer 9 (cell): Take. -/
import Derived.Test.YtfegoehiopkcnaaCellB
namespace Go.Proofs.Ytfegoehiopkcnaa
set_option linter.unusedSimpArgs false
set_option linter.unusedVariables false
set_option maxRecDepth 100000
open Go.ChangeShapes Go.WideShapes Go.ChangeAt Go.RowKit
open Ar (inR)

/-- a cell in its block. -/
def CellAt (w : World) (b : Nat) (F S C D : Int) : Prop := w.heap[b]? = some (.cells #[.int .i64 F, .int .i64 S, .int .i64 C, .int .i64 D] 36 (0, 0))
theorem CellAt.lt {w : World} {b : Nat} {F S C D : Int} (h : CellAt w b F S C D) : b < w.heap.size := lt_of_block h
theorem CellAt.below {W w : World} {b : Nat} {F S C D : Int} (h : CellAt W b F S C D) (hb : Below W.heap.size W w) : CellAt w b F S C D := by
  unfold CellAt; rw [hb.block b h.lt]; exact h
theorem box_at (w : World) (U W B L : Int) : ∃ w1, w.alloc (.cells #[.int .i64 U, .int .i64 W, .int .i64 B, .int .i64 L] 31) = w1 ∧ w1.heap[w.heap.size]? = some (.cells #[.int .i64 U, .int .i64 W, .int .i64 B, .int .i64 L] 31 (0, 0)) ∧ Below w.heap.size w w1 :=
  ⟨_, rfl, heap_alloc_new w _, (Below.refl _ _).alloc (Nat.le_refl _) _⟩
set_option maxHeartbeats 1000000 in
set_option maxRecDepth 100000 in
theorem take_no (F S C D U W B L now cost : Int) (hS : inR S) (hC : inR C) (hD : inR D) (hU : 1 ≤ U ∧ U ≤ 9223372036854775807) (hW : inR W) (hB : inR B) (hL : inR L) (hnow : inR now)
    (hn : inR (-clamp (C + D))) (hd : inR (clamp (now + clamp (B * U)) - max F now)) (g : 1 ≤ cost) (hno : roomZ F S C D U W B L now < cost) (w : World) (bc : Nat) (hc : CellAt w bc F S C D) :
    Calls Try.prog 21 #[.pointer (some ⟨bc, 0, none⟩), pv U W B L, .int .i64 now, .int .i64 cost] w fun e w' => e = .returned (.bool false) ∧ Below w.heap.size w w' := by
  have c1 := fun w => room_any F S C D U W B L now hS hC hD hU hW hB hL hnow hn hd w
  obtain ⟨r, hr⟩ : ∃ z, z = roomZ F S C D U W B L now := ⟨_, rfl⟩
  rw [← hr] at c1 hno
  have C1 := Lib.hid c1
  have HC := Lib.hid hc
  have g2 : r < cost := by omega
  have t1 : decide (cost < 1) = false := by rw [decide_eq_false_iff_not]; omega
  have t2 : decide (r < cost) = true := by rw [decide_eq_true_eq]; omega
  clear c1 hr hS hC hD hW hB hL hnow hn hd hc hno g g2
  go_enter Try.func21, Try.ntmps21
  go_upto_region 1 with (fail)
  obtain ⟨w1, hw1, h1, b1⟩ := box_at w U W B L
  rw [hw1]
  have hcc := cell_at (i := 0) (HC.out.below b1)
  have k0 : w1.drew.cell? ⟨bc, 0, none⟩ = some (.int .i64 F) := cell_at (HC.out.below b1)
  have k1 : w1.drew.cell? ⟨bc, 1, none⟩ = some (.int .i64 S) := cell_at (HC.out.below b1)
  have k2 : w1.drew.cell? ⟨bc, 2, none⟩ = some (.int .i64 C) := cell_at (HC.out.below b1)
  have k3 : w1.drew.cell? ⟨bc, 3, none⟩ = some (.int .i64 D) := cell_at (HC.out.below b1)
  have p0 : w1.drew.cell? ⟨w.heap.size, 0, none⟩ = some (.int .i64 U) := cell_at h1
  have p1 : w1.drew.cell? ⟨w.heap.size, 1, none⟩ = some (.int .i64 W) := cell_at h1
  have p2 : w1.drew.cell? ⟨w.heap.size, 2, none⟩ = some (.int .i64 B) := cell_at h1
  have p3 : w1.drew.cell? ⟨w.heap.size, 3, none⟩ = some (.int .i64 L) := cell_at h1
  have B1 := Lib.hid b1
  clear b1 h1 hw1 hcc HC
  have pb : Below w1.heap.size w1 w1.drew := below_draws (Below.refl _ _) 1
  have D1 := Lib.hid (fun w' hb => (Calls.heldC (W2 := w1) C1.out w' hb).mono (fun e w'' (h : _ ∧ Below w1.heap.size w1 w'') => (⟨h.1, cell_kept h.2 k0, cell_kept h.2 k1, cell_kept h.2 k2, cell_kept h.2 k3, cell_kept h.2 p0, cell_kept h.2 p1, cell_kept h.2 p2, cell_kept h.2 p3, h.2⟩ : e = _ ∧ w''.cell? ⟨bc, 0, none⟩ = some (.int .i64 F) ∧ w''.cell? ⟨bc, 1, none⟩ = some (.int .i64 S) ∧ w''.cell? ⟨bc, 2, none⟩ = some (.int .i64 C) ∧ w''.cell? ⟨bc, 3, none⟩ = some (.int .i64 D) ∧ w''.cell? ⟨w.heap.size, 0, none⟩ = some (.int .i64 U) ∧ w''.cell? ⟨w.heap.size, 1, none⟩ = some (.int .i64 W) ∧ w''.cell? ⟨w.heap.size, 2, none⟩ = some (.int .i64 B) ∧ w''.cell? ⟨w.heap.size, 3, none⟩ = some (.int .i64 L) ∧ Below w1.heap.size w1 w'')))
  go_region_held3 (fun w' => w'.cell? ⟨bc, 0, none⟩ = some (.int .i64 F) ∧ w'.cell? ⟨bc, 1, none⟩ = some (.int .i64 S) ∧ w'.cell? ⟨bc, 2, none⟩ = some (.int .i64 C) ∧ w'.cell? ⟨bc, 3, none⟩ = some (.int .i64 D) ∧ w'.cell? ⟨w.heap.size, 0, none⟩ = some (.int .i64 U) ∧ w'.cell? ⟨w.heap.size, 1, none⟩ = some (.int .i64 W) ∧ w'.cell? ⟨w.heap.size, 2, none⟩ = some (.int .i64 B) ∧ w'.cell? ⟨w.heap.size, 3, none⟩ = some (.int .i64 L) ∧ Below w1.heap.size w1 w') (first | (refine ⟨?_, ?_, ?_, ?_, ?_, ?_, ?_, ?_, ?_⟩ <;> assumption) | go_keep)
    (first | (go_at_call 17; ((with_reducible refine (D1.out _ (by assumption)).mono ?_); rintro e w' ⟨rfl, z0, z1, z2, z3, z4, z5, z6, z7, z⟩)))
  go_wp2
  go_ret
  exact ⟨rfl, below_from B1.out (by assumption)⟩
set_option maxHeartbeats 1000000 in
set_option maxRecDepth 100000 in
theorem take_yes (F S C D U W B L now cost : Int) (hS : inR S) (hC : inR C) (hD : inR D) (hU : 1 ≤ U ∧ U ≤ 9223372036854775807) (hW : inR W) (hB : inR B) (hL : inR L) (hnow : inR now)
    (hn : inR (-clamp (C + D))) (hd : inR (clamp (now + clamp (B * U)) - max F now)) (hF : inR F) (hcost : inR cost) (hDc : inR (D + cost)) (hno : 1 ≤ cost ∧ cost ≤ roomZ F S C D U W B L now) (w : World) (bc : Nat) (hc : CellAt w bc F S C D) :
    Calls Try.prog 21 #[.pointer (some ⟨bc, 0, none⟩), pv U W B L, .int .i64 now, .int .i64 cost] w fun e w' => e = .returned (.bool true) ∧ CellAt w' bc (clamp (max F now + clamp (cost * U))) S C (D + cost) ∧ Fr (fun k => k = bc) w w' := by
  have c1 := fun w => room_any F S C D U W B L now hS hC hD hU hW hB hL hnow hn hd w
  obtain ⟨r, hr⟩ : ∃ z, z = roomZ F S C D U W B L now := ⟨_, rfl⟩
  rw [← hr] at c1 hno
  have C1 := Lib.hid c1
  have HC := Lib.hid hc
  have c2 := fun w => product_any cost U hcost (by unfold inR; omega) w
  obtain ⟨q, hq⟩ : ∃ z, z = clamp (cost * U) := ⟨_, rfl⟩
  rw [← hq] at c2 ⊢
  have e1 : (if F < now then now else F) = max F now := max_if _ _
  have c3 := fun w => sum_any (if F < now then now else F) q (by split <;> assumption) (by rw [hq]; exact clamp_inR _) w
  rw [e1] at c3
  obtain ⟨F', hF'⟩ : ∃ z, z = clamp (max F now + q) := ⟨_, rfl⟩
  rw [← hF'] at c3 ⊢
  rw [← e1] at c3
  have e2 : IntKind.i64.wrap (D + cost) = D + cost := by rw [IntKind.wrap_i64]; unfold inR at hDc; omega
  have hdc : -9223372036854775808 ≤ D + cost ∧ D + cost ≤ 9223372036854775807 := hDc
  have t1 : decide (cost < 1) = false := by rw [decide_eq_false_iff_not]; omega
  have t2 : decide (r < cost) = false := by rw [decide_eq_false_iff_not]; omega
  have C2 := Lib.hid c2
  have C3 := Lib.hid c3
  have HDC := Lib.hid hdc
  clear e1 hF' hdc
  clear c1 c2 c3 hr hS hC hD hW hB hL hnow hn hd hc hno hq hcost hF hDc
  go_enter Try.func21, Try.ntmps21
  go_upto_region 1 with (fail)
  obtain ⟨w1, hw1, h1, b1⟩ := box_at w U W B L
  rw [hw1]
  have hcc := cell_at (i := 0) (HC.out.below b1)
  have k0 : w1.drew.cell? ⟨bc, 0, none⟩ = some (.int .i64 F) := cell_at (HC.out.below b1)
  have k1 : w1.drew.cell? ⟨bc, 1, none⟩ = some (.int .i64 S) := cell_at (HC.out.below b1)
  have k2 : w1.drew.cell? ⟨bc, 2, none⟩ = some (.int .i64 C) := cell_at (HC.out.below b1)
  have k3 : w1.drew.cell? ⟨bc, 3, none⟩ = some (.int .i64 D) := cell_at (HC.out.below b1)
  have p0 : w1.drew.cell? ⟨w.heap.size, 0, none⟩ = some (.int .i64 U) := cell_at h1
  have p1 : w1.drew.cell? ⟨w.heap.size, 1, none⟩ = some (.int .i64 W) := cell_at h1
  have p2 : w1.drew.cell? ⟨w.heap.size, 2, none⟩ = some (.int .i64 B) := cell_at h1
  have p3 : w1.drew.cell? ⟨w.heap.size, 3, none⟩ = some (.int .i64 L) := cell_at h1
  have B1 := Lib.hid b1
  have HC1 := Lib.hid (HC.out.below b1)
  clear b1 h1 hw1 hcc
  have pb : Below w1.heap.size w1 w1.drew := below_draws (Below.refl _ _) 1
  have D1 := Lib.hid (fun w' hb => (Calls.heldC (W2 := w1) C1.out w' hb).mono (fun e w'' (h : _ ∧ Below w1.heap.size w1 w'') => (⟨h.1, cell_kept h.2 k0, cell_kept h.2 k1, cell_kept h.2 k2, cell_kept h.2 k3, cell_kept h.2 p0, cell_kept h.2 p1, cell_kept h.2 p2, cell_kept h.2 p3, h.2⟩ : e = _ ∧ w''.cell? ⟨bc, 0, none⟩ = some (.int .i64 F) ∧ w''.cell? ⟨bc, 1, none⟩ = some (.int .i64 S) ∧ w''.cell? ⟨bc, 2, none⟩ = some (.int .i64 C) ∧ w''.cell? ⟨bc, 3, none⟩ = some (.int .i64 D) ∧ w''.cell? ⟨w.heap.size, 0, none⟩ = some (.int .i64 U) ∧ w''.cell? ⟨w.heap.size, 1, none⟩ = some (.int .i64 W) ∧ w''.cell? ⟨w.heap.size, 2, none⟩ = some (.int .i64 B) ∧ w''.cell? ⟨w.heap.size, 3, none⟩ = some (.int .i64 L) ∧ Below w1.heap.size w1 w'')))
  go_region_held3 (fun w' => w'.cell? ⟨bc, 0, none⟩ = some (.int .i64 F) ∧ w'.cell? ⟨bc, 1, none⟩ = some (.int .i64 S) ∧ w'.cell? ⟨bc, 2, none⟩ = some (.int .i64 C) ∧ w'.cell? ⟨bc, 3, none⟩ = some (.int .i64 D) ∧ w'.cell? ⟨w.heap.size, 0, none⟩ = some (.int .i64 U) ∧ w'.cell? ⟨w.heap.size, 1, none⟩ = some (.int .i64 W) ∧ w'.cell? ⟨w.heap.size, 2, none⟩ = some (.int .i64 B) ∧ w'.cell? ⟨w.heap.size, 3, none⟩ = some (.int .i64 L) ∧ Below w1.heap.size w1 w') (first | (refine ⟨?_, ?_, ?_, ?_, ?_, ?_, ?_, ?_, ?_⟩ <;> assumption) | go_keep)
    (first | (go_at_call 17; ((with_reducible refine (D1.out _ (by assumption)).mono ?_); rintro e w' ⟨rfl, z0, z1, z2, z3, z4, z5, z6, z7, z⟩)))
  go_upto_region 3 with (fail)
  have hcw := HC1.out.below z
  have HCW := Lib.hid hcw
  have BW := Lib.hid (below_from B1.out z)
  have HL := Lib.hid HC.out.lt
  generalize hb5 : w.heap.size = b5 at *
  clear k0 k1 k2 k3 p0 p1 p2 p3 pb D1 hcw t1 t2 HC HC1 C1 B1 z z1 z2 z5 z6 z7
  go_still_tail 14, (by kernel_rfl)
  still_call ((C2.out _).mono fun _ _ h => ⟨h.1, h.2.symm⟩)
  repeat still_step
  still_call ((C3.out _).mono fun _ _ h => ⟨h.1, h.2.symm⟩)
  repeat still_step
  refine wpStill_nil ?_
  change wpList _ _ _ _ _ w'.drew
  have s0 : w'.drew.cell? ⟨bc, 0, none⟩ = some (.int .i64 F) := cell_at HCW.out
  have s1 : w'.drew.frozen? ⟨bc, 0, none⟩ = false := free_at HCW.out
  clear z0 z3 z4
  go_upto_region 4 with (fail)
  have so : (w'.setCell ⟨bc, 0, none⟩ (.int .i64 F')) = setObj w' bc (.cells #[.int .i64 F', .int .i64 S, .int .i64 C, .int .i64 D] 36 (0, 0)) := setCell_obj HCW.out _
  rw [so]
  have hlt : bc < w'.heap.size := lt_of_block HCW.out
  have hx : (setObj w' bc (.cells #[.int .i64 F', .int .i64 S, .int .i64 C, .int .i64 D] 36 (0, 0))).drew.heap[bc]? = some (.cells #[.int .i64 F', .int .i64 S, .int .i64 C, .int .i64 D] 36 (0, 0)) := setObj_at hlt _
  have hf : Fr (fun k => k = bc) w (setObj w' bc (.cells #[.int .i64 F', .int .i64 S, .int .i64 C, .int .i64 D] 36 (0, 0))).drew := Fr.drew (Fr.setObj (F := fun k => k = bc) (b := bc) (Fr.of_below (by rw [hb5]; exact BW.out)) rfl _)
  generalize (setObj w' bc (.cells #[.int .i64 F', .int .i64 S, .int .i64 C, .int .i64 D] 36 (0, 0))).drew = wx at hx hf ⊢
  have s3 : wx.cell? ⟨bc, 3, none⟩ = some (.int .i64 D) := cell_at hx
  have s4 : wx.frozen? ⟨bc, 3, none⟩ = false := free_at hx
  have HX := Lib.hid hx
  have HF := Lib.hid hf
  clear hx hf so hlt s0 s1
  go_wp2
  all_goals
    go_ret
    refine ⟨rfl, ?_, ?_⟩
    · rw [setCell_obj HX.out]
      exact setObj_at (lt_of_block HX.out) _
    · rw [setCell_obj HX.out]
      exact Fr.setObj (F := fun k => k = bc) (b := bc) HF.out rfl _
end Go.Proofs.Ytfegoehiopkcnaa
