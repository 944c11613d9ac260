import Derived.Test.YtannniobeanhlaaGreatCell
import Derived.StillTailTactics
import Derived.Laws.CopyOwn
import Derived.Test.YtannniobeanhlaaGreatBits
import Derived.Test.YtannniobeanhlaaGreatZObj
import Derived.Test.YtannniobeanhlaaGreatZArSum
import Derived.Test.YtannniobeanhlaaGreatLift
import Derived.Deep.RegionHeld3
import Derived.BigQuiet
import Derived.Below
import Derived.Deep.QuietTactic
import Derived.Outline
import Derived.Deep.Cut
/- The contracts of layer 9 (cell): New, Of, Wait, Take, and a plan's rule. -/
namespace Go.Proofs.YtannniobeanhlaaGreat
set_option linter.unusedSimpArgs false
set_option linter.unusedVariables false
set_option maxRecDepth 100000
open Go.ChangeShapes Go.WideShapes Go.ChangeAt Go.RowKit
open Ar (inR)

/-- the pace of a rule. -/
def unitZ (W n : Int) : Int := if W < 0 ∨ n < 1 then 0 else if W % n = 0 then W / n else W / n + 1
set_option maxRecDepth 100000 in
set_option maxHeartbeats 4000000 in
theorem of_any (L W B s1 s2 s3 s4 s5 : Int) (sm : Bool) (hW : inR W) (h1 : inR (L + 1)) (h2 : inR (L + 1 - B)) (w : World) :
    Calls Tryz.prog 91 #[.agg #[.int .i64 L, .int .i64 W, .int .i64 B, .int .i64 s1, .int .i64 s2, .int .i64 s3, .int .i64 s4, .int .i64 s5, .bool sm]] w fun e w' => e = .returned (pv (unitZ W (L + 1 - B)) W B L) ∧ Below w.heap.size w w' := by
  have e1 : IntKind.i64.wrap (L + 1) = L + 1 := by rw [IntKind.wrap_i64]; unfold inR at h1; omega
  have e2 : IntKind.i64.wrap (L + 1 - B) = L + 1 - B := by rw [IntKind.wrap_i64]; unfold inR at h2; omega
  have c1 := fun w => ceil_any W (IntKind.i64.wrap (IntKind.i64.wrap (L + 1) - B)) hW (by rw [e1, e2]; exact h2) w
  rw [e1, e2] at c1
  change ∀ w, Calls Tryz.prog 117 #[.int .i64 W, .int .i64 (L + 1 - B)] w fun e w' => e = .returned (.int .i64 (unitZ W (L + 1 - B))) ∧ w = w' at c1
  obtain ⟨U, hU⟩ : ∃ z, z = unitZ W (L + 1 - B) := ⟨_, rfl⟩
  rw [← hU] at c1 ⊢
  have c2 := c1
  rw [← e2, ← e1] at c2
  have C1 := Lib.hid c1
  have C2 := Lib.hid c2
  clear c1 c2 hU
  go_enter Tryz.func91, Tryz.ntmps91
  go_wp2_with (fail)
  have h0 := heap_alloc_new w (.cells #[.int .i64 L, .int .i64 W, .int .i64 B, .int .i64 s1, .int .i64 s2, .int .i64 s3, .int .i64 s4, .int .i64 s5, .bool sm] 52)
  have b1 : Below w.heap.size w (w.alloc (.cells #[.int .i64 L, .int .i64 W, .int .i64 B, .int .i64 s1, .int .i64 s2, .int .i64 s3, .int .i64 s4, .int .i64 s5, .bool sm] 52)) := (Below.refl _ _).alloc (Nat.le_refl _) _
  have hs : (w.alloc (.cells #[.int .i64 L, .int .i64 W, .int .i64 B, .int .i64 s1, .int .i64 s2, .int .i64 s3, .int .i64 s4, .int .i64 s5, .bool sm] 52)).heap.size = w.heap.size + 1 := by simp
  generalize w.alloc (.cells #[.int .i64 L, .int .i64 W, .int .i64 B, .int .i64 s1, .int .i64 s2, .int .i64 s3, .int .i64 s4, .int .i64 s5, .bool sm] 52) = w1 at *
  have h1 := heap_alloc_new w1 (.cells #[.int .i64 0, .int .i64 0, .int .i64 0, .int .i64 0] 138)
  have b2 : Below w1.heap.size w1 (w1.alloc (.cells #[.int .i64 0, .int .i64 0, .int .i64 0, .int .i64 0] 138)) := (Below.refl _ _).alloc (Nat.le_refl _) _
  have hlt : w.heap.size < w1.heap.size := by omega
  rw [← b2.block _ hlt] at h0
  have b3 := below_from b1 b2
  rw [hs] at h1
  generalize w1.alloc (.cells #[.int .i64 0, .int .i64 0, .int .i64 0, .int .i64 0] 138) = w2 at *
  have B3 := Lib.hid b3
  have H1 := Lib.hid h1
  have HL := Lib.hid (lt_of_block h1)
  have HS := Lib.hid hs
  clear b1 b2 b3 hs hlt
  obtain ⟨b0, hb0⟩ : ∃ z, z = w.heap.size := ⟨_, rfl⟩
  rw [← hb0] at h0 h1 H1 HL ⊢
  have HB := Lib.hid hb0
  clear hb0
  have d0 : w2.cell? ⟨b0, 0, none⟩ = some (.int .i64 L) := cell_at h0
  have d1 : w2.cell? ⟨b0, 1, none⟩ = some (.int .i64 W) := cell_at h0
  have d2 : w2.cell? ⟨b0, 2, none⟩ = some (.int .i64 B) := cell_at h0
  clear h0 h1
  go_still_tail 16, (by kernel_rfl)
  still_call ((C1.out _).mono fun _ _ h => ⟨h.1, h.2.symm⟩)
  repeat still_step
  refine wpStill_nil ?_
  change wpList _ _ _ _ _ w2.drew
  refine wpList_store_row rfl _ _ _ rfl (b0 + 1) _ rfl rfl _ _ H1.out (by kernel_rfl) rfl (by simp [Value.oneCell']) ?_
  go_wp2
  (try simp only [Exit.inBlock, Exit.then])
  refine bodyPost_ret (results_cell_row rfl _ _ (b0 + 1) _ _ (0, 0) _ rfl (setRow_heap w2.drew (b0 + 1) _ _ _ _ H1.out) Tryz.underlying138 rfl (by kernel_rfl)) rfl ?_
  exact ⟨rfl, below_setRow (below_draws B3.out 1) (by have := HB.out; omega) _⟩
end Go.Proofs.YtannniobeanhlaaGreat
/- The contracts of layer 9 (cell): Take. -/
namespace Go.Proofs.YtannniobeanhlaaGreat
set_option linter.unusedSimpArgs false
set_option linter.unusedVariables false
set_option maxRecDepth 100000
open Go.ChangeShapes Go.WideShapes Go.ChangeAt Go.RowKit
open Ar (inR)

/-- a cell in its block. -/
def CellAt (w : World) (b : Nat) (F S C D : Int) : Prop := w.heap[b]? = some (.cells #[.int .i64 F, .int .i64 S, .int .i64 C, .int .i64 D] 105 (0, 0))
theorem CellAt.lt {w : World} {b : Nat} {F S C D : Int} (h : CellAt w b F S C D) : b < w.heap.size := lt_of_block h
theorem CellAt.below {W w : World} {b : Nat} {F S C D : Int} (h : CellAt W b F S C D) (hb : Below W.heap.size W w) : CellAt w b F S C D := by
  unfold CellAt; rw [hb.block b h.lt]; exact h
end Go.Proofs.YtannniobeanhlaaGreat
/- The contracts of layer 9 (cell): Take of a cost below 1. -/
namespace Go.Proofs.YtannniobeanhlaaGreat
set_option linter.unusedSimpArgs false
set_option linter.unusedVariables false
set_option maxRecDepth 100000
open Go.ChangeShapes Go.WideShapes Go.ChangeAt Go.RowKit
open Ar (inR)
end Go.Proofs.YtannniobeanhlaaGreat
/- Cells of small plans, and whatever a ring carries over (XCellR and XCellG with wider bounds; made of them once by hand). -/
namespace Go.Proofs.YtannniobeanhlaaGreat
set_option linter.unusedSimpArgs false
set_option linter.unusedVariables false
set_option maxRecDepth 100000
open Go.ChangeShapes Go.WideShapes Go.ChangeAt Go.RowKit
open Ar (inR)
structure Rng (F S C D U W B L t : Int) : Prop where
  F : 0 ≤ F ∧ F ≤ 6917529027641081856
  S : 0 ≤ S ∧ S ≤ 4611686018427387904
  C : 0 ≤ C ∧ C ≤ 4611686018427387904
  D : 0 ≤ D ∧ D ≤ 1152921504606846976
  U : 1 ≤ U ∧ U ≤ 1048576
  W : 1 ≤ W ∧ W ≤ 1048576
  B : 1 ≤ B ∧ B ≤ 1048576
  L : 1 ≤ L ∧ L ≤ 1048576
  t : 0 ≤ t ∧ t ≤ 4611686018427387904
section
variable {F S C D U W B L t : Int}
theorem Rng.bu (h : Rng F S C D U W B L t) : 0 ≤ B * U ∧ B * U ≤ 1099511627776 :=
  ⟨Int.mul_nonneg (by have := h.B; omega) (by have := h.U; omega), Int.mul_le_mul h.B.2 h.U.2 (by have := h.U; omega) (by omega)⟩
theorem Rng.kb {k : Int} (h : Rng F S C D U W B L t) (hk : 1 ≤ k ∧ k ≤ B) : 0 ≤ (B - k) * U ∧ (B - k) * U ≤ 1099511627776 ∧ (B - k) * U = B * U - k * U ∧ 1 ≤ k * U := by
  have hb := h.bu
  have h1 : 0 ≤ (B - k) * U := Int.mul_nonneg (by omega) (by have := h.U; omega)
  have h2 : (B - k) * U = B * U - k * U := Int.sub_mul _ _ _
  have h3 : 1 * U ≤ k * U := Int.mul_le_mul_of_nonneg_right hk.1 (by have := h.U; omega)
  have := h.U
  refine ⟨h1, by omega, h2, by omega⟩
end
section
variable {F S C D U W B L t : Int}
end
end Go.Proofs.YtannniobeanhlaaGreat
/- The contracts of layer 9 (cell): Take of a cell that lies in a row (XCellT's, with a place). -/
namespace Go.Proofs.YtannniobeanhlaaGreat
set_option linter.unusedSimpArgs false
set_option linter.unusedVariables false
set_option maxRecDepth 100000
open Go.ChangeShapes Go.WideShapes Go.ChangeAt Go.RowKit
open Ar (inR)
end Go.Proofs.YtannniobeanhlaaGreat
/- The contracts of layer 17 (config): which rules may be. -/
namespace Go.Proofs.YtannniobeanhlaaGreat
set_option linter.unusedSimpArgs false
set_option linter.unusedVariables false
set_option maxRecDepth 100000
open Go.ChangeShapes Go.WideShapes Go.ChangeAt Go.RowKit
open Ar (inR)
abbrev ruC (L W B Sl Ce Ro Wi Tr : Int) (sm : Bool) : Array Value := #[.int .i64 L, .int .i64 W, .int .i64 B, .int .i64 Sl, .int .i64 Ce, .int .i64 Ro, .int .i64 Wi, .int .i64 Tr, .bool sm]
abbrev ruV (L W B Sl Ce Ro Wi Tr : Int) (sm : Bool) : Value := .agg (ruC L W B Sl Ce Ro Wi Tr sm)
abbrev pvK (U W B L : Int) : Value := .agg #[.int .i64 U, .int .i64 W, .int .i64 B, .int .i64 L]
theorem below_fromK {W0 w w' : World} (h : Below W0.heap.size W0 w) (b : Below w.heap.size w w') : Below W0.heap.size W0 w' := h.trans (b.mono h.size)
/-- the pace of a rule. -/
def unitZK (W n : Int) : Int := if W < 0 ∨ n < 1 then 0 else if W % n = 0 then W / n else W / n + 1
theorem within_yes (x m : Int) (h : 1 ≤ x ∧ x ≤ m) (w : World) : Calls Tryz.prog 38 #[.int .i64 x, .int .i64 m] w fun e w' => e = .returned (.bool true) ∧ w = w' := by
  obtain ⟨h1, h2⟩ := h
  have t1 : decide (1 ≤ x) = true := by simpa using h1
  have t2 : decide (x ≤ m) = true := by simpa using h2
  go_enter Tryz.func38, Tryz.ntmps38
  go_wp2
  go_ret
  exact ⟨rfl, rfl⟩
theorem within_no (x m : Int) (h : ¬ (1 ≤ x ∧ x ≤ m)) (w : World) : Calls Tryz.prog 38 #[.int .i64 x, .int .i64 m] w fun e w' => e = .returned (.bool false) ∧ w = w' := by
  by_cases h1 : 1 ≤ x
  · have h2 : ¬ x ≤ m := fun g => h ⟨h1, g⟩
    have t1 : decide (1 ≤ x) = true := by simpa using h1
    have t2 : decide (x ≤ m) = false := by simpa using h2
    clear h
    go_enter Tryz.func38, Tryz.ntmps38
    go_wp2
    go_ret
    exact ⟨rfl, rfl⟩
  · have t1 : decide (1 ≤ x) = false := by simpa using h1
    clear h
    go_enter Tryz.func38, Tryz.ntmps38
    go_wp2
    go_ret
    exact ⟨rfl, rfl⟩
set_option maxHeartbeats 1000000 in
theorem of_anyK (L W B s1 s2 s3 s4 s5 : Int) (sm : Bool) (hW : inR W) (h1 : inR (L + 1)) (h2 : inR (L + 1 - B)) (w : World) :
    Calls Tryz.prog 91 #[.agg #[.int .i64 L, .int .i64 W, .int .i64 B, .int .i64 s1, .int .i64 s2, .int .i64 s3, .int .i64 s4, .int .i64 s5, .bool sm]] w fun e w' => e = .returned (pvK (unitZK W (L + 1 - B)) W B L) ∧ Below w.heap.size w w' := by
  have e1 : IntKind.i64.wrap (L + 1) = L + 1 := by rw [IntKind.wrap_i64]; unfold inR at h1; omega
  have e2 : IntKind.i64.wrap (L + 1 - B) = L + 1 - B := by rw [IntKind.wrap_i64]; unfold inR at h2; omega
  have c1 := fun w => ceil_any W (IntKind.i64.wrap (IntKind.i64.wrap (L + 1) - B)) hW (by rw [e1, e2]; exact h2) w
  rw [e1, e2] at c1
  change ∀ w, Calls Tryz.prog 117 #[.int .i64 W, .int .i64 (L + 1 - B)] w fun e w' => e = .returned (.int .i64 (unitZK W (L + 1 - B))) ∧ w = w' at c1
  obtain ⟨U, hU⟩ : ∃ z, z = unitZK W (L + 1 - B) := ⟨_, rfl⟩
  rw [← hU] at c1 ⊢
  have c2 := c1
  rw [← e2, ← e1] at c2
  have C1 := Lib.hid c1
  have C2 := Lib.hid c2
  clear c1 c2 hU
  go_enter Tryz.func91, Tryz.ntmps91
  go_wp2_with (fail)
  have h0 := heap_alloc_new w (.cells #[.int .i64 L, .int .i64 W, .int .i64 B, .int .i64 s1, .int .i64 s2, .int .i64 s3, .int .i64 s4, .int .i64 s5, .bool sm] 52)
  have b1 : Below w.heap.size w (w.alloc (.cells #[.int .i64 L, .int .i64 W, .int .i64 B, .int .i64 s1, .int .i64 s2, .int .i64 s3, .int .i64 s4, .int .i64 s5, .bool sm] 52)) := (Below.refl _ _).alloc (Nat.le_refl _) _
  have hs : (w.alloc (.cells #[.int .i64 L, .int .i64 W, .int .i64 B, .int .i64 s1, .int .i64 s2, .int .i64 s3, .int .i64 s4, .int .i64 s5, .bool sm] 52)).heap.size = w.heap.size + 1 := by simp
  generalize w.alloc (.cells #[.int .i64 L, .int .i64 W, .int .i64 B, .int .i64 s1, .int .i64 s2, .int .i64 s3, .int .i64 s4, .int .i64 s5, .bool sm] 52) = w1 at *
  have h1 := heap_alloc_new w1 (.cells #[.int .i64 0, .int .i64 0, .int .i64 0, .int .i64 0] 138)
  have b2 : Below w1.heap.size w1 (w1.alloc (.cells #[.int .i64 0, .int .i64 0, .int .i64 0, .int .i64 0] 138)) := (Below.refl _ _).alloc (Nat.le_refl _) _
  have hlt : w.heap.size < w1.heap.size := by omega
  rw [← b2.block _ hlt] at h0
  have b3 := below_fromK b1 b2
  rw [hs] at h1
  generalize w1.alloc (.cells #[.int .i64 0, .int .i64 0, .int .i64 0, .int .i64 0] 138) = w2 at *
  have B3 := Lib.hid b3
  have H1 := Lib.hid h1
  have HL := Lib.hid (lt_of_block h1)
  have HS := Lib.hid hs
  clear b1 b2 b3 hs hlt
  obtain ⟨b0, hb0⟩ : ∃ z, z = w.heap.size := ⟨_, rfl⟩
  rw [← hb0] at h0 h1 H1 HL ⊢
  have HB := Lib.hid hb0
  clear hb0
  have d0 : w2.cell? ⟨b0, 0, none⟩ = some (.int .i64 L) := cell_at h0
  have d1 : w2.cell? ⟨b0, 1, none⟩ = some (.int .i64 W) := cell_at h0
  have d2 : w2.cell? ⟨b0, 2, none⟩ = some (.int .i64 B) := cell_at h0
  clear h0 h1
  go_still_tail 16, (by kernel_rfl)
  still_call ((C1.out _).mono fun _ _ h => ⟨h.1, h.2.symm⟩)
  repeat still_step
  refine wpStill_nil ?_
  change wpList _ _ _ _ _ w2.drew
  refine wpList_store_row rfl _ _ _ rfl (b0 + 1) _ rfl rfl _ _ H1.out (by kernel_rfl) rfl (by simp [Value.oneCell']) ?_
  go_wp2
  (try simp only [Exit.inBlock, Exit.then])
  refine bodyPost_ret (results_cell_row rfl _ _ (b0 + 1) _ _ (0, 0) _ rfl (setRow_heap w2.drew (b0 + 1) _ _ _ _ H1.out) Tryz.underlying138 rfl (by kernel_rfl)) rfl ?_
  exact ⟨rfl, below_setRow (below_draws B3.out 1) (by have := HB.out; omega) _⟩
def ruleP (L W B Sl Ce Ro Wi Tr : Int) (sm : Bool) : Prop :=
  (1 ≤ L ∧ L ≤ 2147483648) ∧ (1 ≤ W ∧ W ≤ 1099511627776) ∧ (1 ≤ B ∧ B ≤ L) ∧ (1 ≤ Sl ∧ Sl ≤ 64) ∧ W % Sl = 0 ∧ (1 ≤ Ce ∧ Ce ≤ 1024) ∧ (1 ≤ Ro ∧ Ro ≤ 8) ∧ (1 ≤ Wi ∧ Wi ≤ 4096) ∧ (1 ≤ Tr ∧ Tr ≤ 64) ∧ (2 ≤ Sl ∨ sm = false) ∧ unitZK W (L + 1 - B) ≤ 1152921504606846976 / B
theorem unit_bd (W n : Int) (hW : 1 ≤ W) (hn : 1 ≤ n) : 0 ≤ unitZK W n ∧ unitZK W n ≤ W := by
  unfold unitZK
  rw [if_neg (by omega)]
  have e1 := Int.ediv_nonneg (show 0 ≤ W by omega) (show 0 ≤ n by omega)
  have e2 := Int.ediv_le_self n (show 0 ≤ W by omega)
  split
  · omega
  · refine ⟨by omega, ?_⟩
    by_cases h1 : n = 1
    · subst h1; omega
    · have : W / n < W := Int.ediv_lt_self_of_pos_of_ne_one (by omega) (by omega)
      omega
set_option maxHeartbeats 1000000 in
theorem paced_any (L W B Sl Ce Ro Wi Tr : Int) (sm : Bool) (hL : 1 ≤ L ∧ L ≤ 2147483648) (hW : 1 ≤ W ∧ W ≤ 1099511627776) (hB : 1 ≤ B ∧ B ≤ L) (w : World) :
    Calls Tryz.prog 67 #[ruV L W B Sl Ce Ro Wi Tr sm] w fun e w' => e = .returned (.bool (decide (unitZK W (L + 1 - B) ≤ 1152921504606846976 / B))) ∧ Below w.heap.size w w' := by
  have CO := Lib.hid (fun w => of_anyK L W B Sl Ce Ro Wi Tr sm (by unfold inR; omega) (by unfold inR; omega) (by unfold inR; omega) w)
  obtain ⟨U, hU⟩ : ∃ U, U = unitZK W (L + 1 - B) := ⟨_, rfl⟩
  rw [← hU] at CO ⊢
  obtain ⟨Q, hQ⟩ : ∃ Q : Int, Q = 1152921504606846976 / B := ⟨_, rfl⟩
  rw [← hQ]
  have e1 : (1152921504606846976 : Int).tdiv B = Q := by rw [Int.tdiv_eq_ediv_of_nonneg (by omega)]; exact hQ.symm
  have e0 : (1152921504606846976 : Int) / B = Q := hQ.symm
  have e2 : IntKind.i64.wrap Q = Q := by
    have h1 := Int.ediv_nonneg (show (0 : Int) ≤ 1152921504606846976 by omega) (show 0 ≤ B by omega)
    have h2 := Int.ediv_le_self B (show (0 : Int) ≤ 1152921504606846976 by omega)
    rw [IntKind.wrap_i64]; omega
  have nb : ¬ B = 0 := by omega
  have b1 : 1 ≤ B := hB.1
  clear hU hQ hL hW hB
  go_enter Tryz.func67, Tryz.ntmps67
  go_upto_region 1 with (fail)
  obtain ⟨w1, hw1, hbk, hbl, hsz1⟩ := box_new w (ruC L W B Sl Ce Ro Wi Tr sm) 52
  change Code.wp _ _ _ _ (w.alloc (.cells (ruC L W B Sl Ce Ro Wi Tr sm) 52))
  rw [hw1]
  obtain ⟨b0, hb0⟩ : ∃ b0, b0 = w.heap.size := ⟨_, rfl⟩
  rw [← hb0] at hbk ⊢
  have BK := Lib.hid hbk
  have BL := Lib.hid hbl
  clear hbk hbl hsz1 hw1 hb0
  have hfl : ∀ wx, (Instr.field 138 (pvK U W B L) 0).run Tryz.prog wx = .ok (.int .i64 U) wx := fun wx => by rfl
  have y1 : ∀ i, w1.drew.cell? ⟨b0, i, none⟩ = (ruC L W B Sl Ce Ro Wi Tr sm)[i]? := (Blk.drew BK.out).rd
  have y3 : Below w1.heap.size w1 w1.drew := below_draws (Below.refl _ _) 1
  have GO := Lib.hid (fun (wx : World) (hx : Below w1.heap.size w1 wx) => show Calls Tryz.prog 91 #[ruV L W B Sl Ce Ro Wi Tr sm] wx (fun e w' => e = .returned (pvK U W B L) ∧ (∀ i, w'.cell? ⟨b0, i, none⟩ = (ruC L W B Sl Ce Ro Wi Tr sm)[i]?) ∧ Below w1.heap.size w1 w') from (CO.out wx).mono (fun e w' hh => ⟨hh.1, (BK.out.keep (hx.trans (hh.2.mono hx.size))).rd, hx.trans (hh.2.mono hx.size)⟩))
  go_region_held3 (fun w' => (∀ i, w'.cell? ⟨b0, i, none⟩ = (ruC L W B Sl Ce Ro Wi Tr sm)[i]?) ∧ Below w1.heap.size w1 w') (first | (refine ⟨?_, ?_⟩ <;> assumption) | go_keep)
    (first | (go_at_call 91; ((with_reducible refine (GO.out _ (by assumption)).mono ?_); rintro e w2 ⟨rfl, z0, z2⟩)))
  go_wp2
  go_ret
  exact ⟨rfl, BL.out.trans (z2.mono BL.out.size)⟩
end Go.Proofs.YtannniobeanhlaaGreat
/- The contracts of layer 17 (config): how many bytes a rule takes. -/
namespace Go.Proofs.YtannniobeanhlaaGreat
set_option linter.unusedSimpArgs false
set_option linter.unusedVariables false
set_option maxRecDepth 100000
open Go.ChangeShapes Go.WideShapes Go.ChangeAt Go.RowKit
open Ar (inR)
theorem sum_x (a b s : Int) (ha : inR a) (hb : inR b) (h : a + b = s) (hs : inR s) (w : World) : Calls Tryz.prog 61 #[.int .i64 a, .int .i64 b] w fun e w' => e = .returned (.int .i64 s) ∧ w = w' := by
  have := sum_any a b ha hb w
  rw [h, show clamp s = s from by unfold inR at hs; unfold clamp; rw [if_neg (by omega), if_neg (by omega)]] at this
  exact this
theorem product_x (a b s : Int) (ha : inR a) (hb : inR b) (h : a * b = s) (hs : inR s) (w : World) : Calls Tryz.prog 120 #[.int .i64 a, .int .i64 b] w fun e w' => e = .returned (.int .i64 s) ∧ w = w' := by
  have := product_any a b ha hb w
  rw [h, show clamp s = s from by unfold inR at hs; unfold clamp; rw [if_neg (by omega), if_neg (by omega)]] at this
  exact this
theorem same_sym {f : Nat} {args : Array Value} {w : World} {v : Value} (h : Calls Tryz.prog f args w fun e w' => e = .returned v ∧ w = w') : Calls Tryz.prog f args w fun e w' => e = .returned v ∧ w' = w := h.mono fun _ _ h => ⟨h.1, h.2.symm⟩
theorem keysB_any (n : Int) (hn : 1 ≤ n ∧ n ≤ 4096) (w : World) : Calls Tryz.prog 123 #[.int .i64 n] w fun e w' => e = .returned (.int .i64 (69 * n)) ∧ w = w' := by
  go_enter Tryz.func123, Tryz.ntmps123
  go_wp2
  go_ret
  exact ⟨rfl, rfl⟩
theorem size_any (n : Int) (hn : 1 ≤ n ∧ n ≤ 4096) (w : World) : Calls Tryz.prog 150 #[.int .i64 n] w fun e w' => e = .returned (.int .i64 (2 * n + 1)) ∧ w = w' := by
  go_enter Tryz.func150, Tryz.ntmps150
  go_wp2
  go_ret
  exact ⟨rfl, rfl⟩
theorem indexB_any (n : Int) (hn : 1 ≤ n ∧ n ≤ 4096) (w : World) : Calls Tryz.prog 124 #[.int .i64 n] w fun e w' => e = .returned (.int .i64 (4 * (2 * n + 1))) ∧ w = w' := by
  go_enter Tryz.func124, Tryz.ntmps124
  go_wp2_with (go_at_call 150; ((with_reducible refine (size_any _ hn _).mono ?_); rintro e w' ⟨rfl, rfl⟩))
  go_ret
  exact ⟨ret_i (by first | rfl | omega), rfl⟩
theorem poolB_any (n : Int) (hn : 1 ≤ n ∧ n ≤ 4096) (w : World) : Calls Tryz.prog 95 #[.int .i64 n] w fun e w' => e = .returned (.int .i64 (69 * n + 4 * (2 * n + 1) + 32 * n)) ∧ w = w' := by
  go_enter Tryz.func95, Tryz.ntmps95
  go_wp2_with (first
    | (go_at_call 123; ((with_reducible refine (keysB_any _ hn _).mono ?_); rintro e w' ⟨rfl, rfl⟩))
    | (go_at_call 124; ((with_reducible refine (indexB_any _ hn _).mono ?_); rintro e w' ⟨rfl, rfl⟩)))
  go_ret
  exact ⟨ret_i (by first | rfl | omega), rfl⟩
theorem summaryB_any (n : Int) (hn : 1 ≤ n ∧ n ≤ 4096) (w : World) : Calls Tryz.prog 97 #[.int .i64 n] w fun e w' => e = .returned (.int .i64 (69 * n + 4 * (2 * n + 1) + 24 * n)) ∧ w = w' := by
  go_enter Tryz.func97, Tryz.ntmps97
  go_wp2_with (first
    | (go_at_call 123; ((with_reducible refine (keysB_any _ hn _).mono ?_); rintro e w' ⟨rfl, rfl⟩))
    | (go_at_call 124; ((with_reducible refine (indexB_any _ hn _).mono ?_); rintro e w' ⟨rfl, rfl⟩)))
  go_ret
  exact ⟨ret_i (by first | rfl | omega), rfl⟩
theorem slotB_any (ro wi p : Int) (h1 : 1 ≤ ro ∧ ro ≤ 8) (h2 : 1 ≤ wi ∧ wi ≤ 4096) (hp : ro * wi = p) (hpb : 1 ≤ p ∧ p ≤ 32768) (w : World) : Calls Tryz.prog 121 #[.int .i64 ro, .int .i64 wi] w fun e w' => e = .returned (.int .i64 (8 * p)) ∧ w = w' := by
  have C1 := Lib.hid (fun w => product_x ro wi p (by unfold inR; omega) (by unfold inR; omega) hp (by unfold inR; omega) w)
  have C2 := Lib.hid (fun w => product_x 8 p (8 * p) (by unfold inR; omega) (by unfold inR; omega) rfl (by unfold inR; omega) w)
  clear hp
  go_enter Tryz.func121, Tryz.ntmps121
  go_wp2_with (first
    | (go_at_call 120; ((with_reducible refine (C1.out _).mono ?_); rintro e w' ⟨rfl, rfl⟩))
    | (go_at_call 120; ((with_reducible refine (C2.out _).mono ?_); rintro e w' ⟨rfl, rfl⟩)))
  go_ret
  exact ⟨rfl, rfl⟩
/-- what a rule takes. -/
def bytesZ (Sl Ce Ro Wi Tr : Int) : Int := (69 * Ce + 4 * (2 * Ce + 1) + 32 * Ce) + (Sl + 1) * (16 + 8 * (Ro * Wi)) + (69 * Tr + 4 * (2 * Tr + 1) + 24 * Tr) + 24 * (Ro + 1)
theorem mul_bd {a b A B : Int} (h1 : 1 ≤ a ∧ a ≤ A) (h2 : 1 ≤ b ∧ b ≤ B) : 1 ≤ a * b ∧ a * b ≤ A * B := by
  constructor
  · have := Int.mul_le_mul h1.1 h2.1 (by omega) (by omega); omega
  · exact Int.mul_le_mul h1.2 h2.2 (by omega) (by omega)
set_option maxHeartbeats 2000000 in
theorem ringB_any (L W B Sl Ce Ro Wi Tr : Int) (sm : Bool) (p m : Int) (h3 : 1 ≤ Sl ∧ Sl ≤ 64) (h1 : 1 ≤ Ro ∧ Ro ≤ 8) (h2 : 1 ≤ Wi ∧ Wi ≤ 4096) (hp : Ro * Wi = p) (hpb : 1 ≤ p ∧ p ≤ 32768) (hm : (Sl + 1) * (16 + 8 * p) = m) (hmb : 1 ≤ m ∧ m ≤ 20000000) (w : World) :
    Calls Tryz.prog 96 #[ruV L W B Sl Ce Ro Wi Tr sm] w fun e w' => e = .returned (.int .i64 m) ∧ Below w.heap.size w w' := by
  have C1 := Lib.hid (fun w => same_sym (sum_x Sl 1 (Sl + 1) (by unfold inR; omega) (by unfold inR; omega) rfl (by unfold inR; omega) w))
  have C2 := Lib.hid (fun w => same_sym (slotB_any Ro Wi p h1 h2 hp hpb w))
  have C3 := Lib.hid (fun w => same_sym (sum_x 16 (8 * p) (16 + 8 * p) (by unfold inR; omega) (by unfold inR; omega) rfl (by unfold inR; omega) w))
  have C4 := Lib.hid (fun w => same_sym (product_x (Sl + 1) (16 + 8 * p) m (by unfold inR; omega) (by unfold inR; omega) hm (by unfold inR; omega) w))
  clear hp hm
  go_enter Tryz.func96, Tryz.ntmps96
  go_upto_region 1 with (fail)
  obtain ⟨w1, hw1, hbk, hbl, hsz1⟩ := box_new w (ruC L W B Sl Ce Ro Wi Tr sm) 52
  change Code.wp _ _ _ _ (w.alloc (.cells (ruC L W B Sl Ce Ro Wi Tr sm) 52))
  rw [hw1]
  obtain ⟨b0, hb0⟩ : ∃ b0, b0 = w.heap.size := ⟨_, rfl⟩
  rw [← hb0] at hbk ⊢
  have k0 := hbk.rd
  have BL := Lib.hid hbl
  clear hbk hbl hsz1 hw1 hb0
  go_quiet ((first
    | (go_at_call 61; (with_reducible exact Calls.quiet_of_same (C1.out _)))
    | (go_at_call 121; (with_reducible exact Calls.quiet_of_same (C2.out _)))
    | (go_at_call 61; (with_reducible exact Calls.quiet_of_same (C3.out _)))
    | (go_at_call 120; (with_reducible exact Calls.quiet_of_same (C4.out _)))))
  go_wp2
  go_ret
  exact ⟨rfl, below_draws BL.out _⟩
set_option maxHeartbeats 4000000 in
theorem limB_any (L W B Sl Ce Ro Wi Tr : Int) (sm : Bool) (h3 : 1 ≤ Sl ∧ Sl ≤ 64) (h1 : 1 ≤ Ro ∧ Ro ≤ 8) (h2 : 1 ≤ Wi ∧ Wi ≤ 4096) (h4 : 1 ≤ Ce ∧ Ce ≤ 1024) (h5 : 1 ≤ Tr ∧ Tr ≤ 64) (w : World) :
    Calls Tryz.prog 70 #[ruV L W B Sl Ce Ro Wi Tr sm] w fun e w' => e = .returned (.int .i64 (bytesZ Sl Ce Ro Wi Tr)) ∧ Below w.heap.size w w' := by
  obtain ⟨p, hp⟩ : ∃ p, Ro * Wi = p := ⟨_, rfl⟩
  have hpb : 1 ≤ p ∧ p ≤ 32768 := by rw [← hp]; exact mul_bd h1 h2
  obtain ⟨m, hm⟩ : ∃ m, (Sl + 1) * (16 + 8 * p) = m := ⟨_, rfl⟩
  have hmb : 1 ≤ m ∧ m ≤ 20000000 := by
    rw [← hm]
    have := mul_bd (a := Sl + 1) (b := 16 + 8 * p) (A := 65) (B := 262160) (by omega) (by omega)
    omega
  have HZ := Lib.hid (show bytesZ Sl Ce Ro Wi Tr = (69 * Ce + 4 * (2 * Ce + 1) + 32 * Ce) + m + (69 * Tr + 4 * (2 * Tr + 1) + 24 * Tr) + 24 * (Ro + 1) from by unfold bytesZ; rw [hp, hm])
  have CP := Lib.hid (fun w => poolB_any Ce (by omega) w)
  have CR := Lib.hid (fun w => ringB_any L W B Sl Ce Ro Wi Tr sm p m h3 h1 h2 hp hpb hm hmb w)
  have CS := Lib.hid (fun w => summaryB_any Tr (by omega) w)
  clear hp hm
  go_enter Tryz.func70, Tryz.ntmps70
  go_upto_region 1 with (fail)
  obtain ⟨w1, hw1, hbk, hbl, hsz1⟩ := box_new w (ruC L W B Sl Ce Ro Wi Tr sm) 52
  change Code.wp _ _ _ _ (w.alloc (.cells (ruC L W B Sl Ce Ro Wi Tr sm) 52))
  rw [hw1]
  obtain ⟨b0, hb0⟩ : ∃ b0, b0 = w.heap.size := ⟨_, rfl⟩
  rw [← hb0] at hbk ⊢
  have BK := Lib.hid hbk
  have BL := Lib.hid hbl
  clear hbk hbl hsz1 hw1 hb0
  have y1 : ∀ i, w1.drew.cell? ⟨b0, i, none⟩ = (ruC L W B Sl Ce Ro Wi Tr sm)[i]? := (Blk.drew BK.out).rd
  have y3 : Below w1.heap.size w1 w1.drew := below_draws (Below.refl _ _) 1
  have GP := Lib.hid (fun (wx : World) (hd : ∀ i, wx.cell? ⟨b0, i, none⟩ = (ruC L W B Sl Ce Ro Wi Tr sm)[i]?) (hx : Below w1.heap.size w1 wx) => show Calls Tryz.prog 95 #[.int .i64 Ce] wx (fun e w' => e = .returned (.int .i64 (69 * Ce + 4 * (2 * Ce + 1) + 32 * Ce)) ∧ (∀ i, w'.cell? ⟨b0, i, none⟩ = (ruC L W B Sl Ce Ro Wi Tr sm)[i]?) ∧ Below w1.heap.size w1 w') from (CP.out wx).mono (fun e w' hh => ⟨hh.1, by rw [← hh.2]; exact hd, by rw [← hh.2]; exact hx⟩))
  have GS := Lib.hid (fun (wx : World) (hd : ∀ i, wx.cell? ⟨b0, i, none⟩ = (ruC L W B Sl Ce Ro Wi Tr sm)[i]?) (hx : Below w1.heap.size w1 wx) => show Calls Tryz.prog 97 #[.int .i64 Tr] wx (fun e w' => e = .returned (.int .i64 (69 * Tr + 4 * (2 * Tr + 1) + 24 * Tr)) ∧ (∀ i, w'.cell? ⟨b0, i, none⟩ = (ruC L W B Sl Ce Ro Wi Tr sm)[i]?) ∧ Below w1.heap.size w1 w') from (CS.out wx).mono (fun e w' hh => ⟨hh.1, by rw [← hh.2]; exact hd, by rw [← hh.2]; exact hx⟩))
  have GR := Lib.hid (fun (wx : World) (hx : Below w1.heap.size w1 wx) => show Calls Tryz.prog 96 #[ruV L W B Sl Ce Ro Wi Tr sm] wx (fun e w' => e = .returned (.int .i64 m) ∧ (∀ i, w'.cell? ⟨b0, i, none⟩ = (ruC L W B Sl Ce Ro Wi Tr sm)[i]?) ∧ Below w1.heap.size w1 w') from (CR.out wx).mono (fun e w' hh => ⟨hh.1, (BK.out.keep (hx.trans (hh.2.mono hx.size))).rd, hx.trans (hh.2.mono hx.size)⟩))
  go_region_held3 (fun w' => (∀ i, w'.cell? ⟨b0, i, none⟩ = (ruC L W B Sl Ce Ro Wi Tr sm)[i]?) ∧ Below w1.heap.size w1 w') (first | (refine ⟨?_, ?_⟩ <;> assumption) | go_keep)
    (first
      | (go_at_call 95; ((with_reducible refine (GP.out _ (by assumption) (by assumption)).mono ?_); rintro e w2 ⟨rfl, z0, z2⟩; have Z2 := Lib.hid z2))
      | (go_at_call 96; ((with_reducible refine (GR.out _ (by assumption)).mono ?_); rintro e w3 ⟨rfl, z0, z2⟩; have Z3 := Lib.hid z2))
      | (go_at_call 97; ((with_reducible refine (GS.out _ (by assumption) (by assumption)).mono ?_); rintro e w4 ⟨rfl, z0, z2⟩; have Z4 := Lib.hid z2)))
  clear GP GS GR y1 y3
  go_wp2
  go_ret
  refine ⟨ret_i ?_, BL.out.trans (z2.mono BL.out.size)⟩
  rw [HZ.out]
  simp only [IntKind.wrap_i64]
  omega
end Go.Proofs.YtannniobeanhlaaGreat
/- The contracts of layer 17 (config): the largest answer. -/
namespace Go.Proofs.YtannniobeanhlaaGreat
set_option linter.unusedSimpArgs false
set_option linter.unusedVariables false
set_option maxRecDepth 100000
open Go.ChangeShapes Go.WideShapes Go.ChangeAt Go.RowKit
open Ar (inR)
/-- a request that says only what it asks, and of how many. -/
abbrev rqVK (op k : Int) : Value := .agg #[.int .i64 op, .int .i64 0, .int .u32 0, .string ⟨#[]⟩, .int .i64 k]
abbrev rqCK (op k : Int) : Array Value := #[.int .i64 op, .int .i64 0, .int .u32 0, .string ⟨#[]⟩, .int .i64 k]
set_option maxHeartbeats 2000000 in
theorem large_check (t : Int) (w : World) : Calls Tryz.prog 68 #[rqVK 1 0, .int .i64 t] w fun e w' => e = .returned (.int .i64 22) ∧ Below w.heap.size w w' := by
  go_enter Tryz.func68, Tryz.ntmps68
  go_upto_region 1 with (fail)
  obtain ⟨w1, hw1, hbk, hbl, hsz1⟩ := box_new w (rqCK 1 0) 76
  change Code.wp _ _ _ _ (w.alloc (.cells (rqCK 1 0) 76))
  rw [hw1]
  obtain ⟨b0, hb0⟩ : ∃ b0, b0 = w.heap.size := ⟨_, rfl⟩
  rw [← hb0] at hbk ⊢
  have k0 := hbk.rd
  have BL := Lib.hid hbl
  clear hbk hbl hsz1 hw1 hb0
  go_wp2
  go_ret
  exact ⟨rfl, BL.out⟩
set_option maxHeartbeats 2000000 in
theorem large_stats (t : Int) (w : World) : Calls Tryz.prog 68 #[rqVK 3 0, .int .i64 t] w fun e w' => e = .returned (.int .i64 46) ∧ Below w.heap.size w w' := by
  go_enter Tryz.func68, Tryz.ntmps68
  go_upto_region 1 with (fail)
  obtain ⟨w1, hw1, hbk, hbl, hsz1⟩ := box_new w (rqCK 3 0) 76
  change Code.wp _ _ _ _ (w.alloc (.cells (rqCK 3 0) 76))
  rw [hw1]
  obtain ⟨b0, hb0⟩ : ∃ b0, b0 = w.heap.size := ⟨_, rfl⟩
  rw [← hb0] at hbk ⊢
  have k0 := hbk.rd
  have BL := Lib.hid hbl
  clear hbk hbl hsz1 hw1 hb0
  go_wp2
  go_ret
  exact ⟨rfl, BL.out⟩
set_option maxHeartbeats 2000000 in
theorem large_top (t : Int) (ht : 1 ≤ t ∧ t ≤ 64) (w : World) : Calls Tryz.prog 68 #[rqVK 4 t, .int .i64 t] w fun e w' => e = .returned (.int .i64 (7 + 81 * t)) ∧ Below w.heap.size w w' := by
  have e1 : (t < t) = False := by simp
  have e2 : (t < 1) = False := eq_false (by omega)
  go_enter Tryz.func68, Tryz.ntmps68
  go_upto_region 1 with (fail)
  obtain ⟨w1, hw1, hbk, hbl, hsz1⟩ := box_new w (rqCK 4 t) 76
  change Code.wp _ _ _ _ (w.alloc (.cells (rqCK 4 t) 76))
  rw [hw1]
  obtain ⟨b0, hb0⟩ : ∃ b0, b0 = w.heap.size := ⟨_, rfl⟩
  rw [← hb0] at hbk ⊢
  have k0 := hbk.rd
  have BL := Lib.hid hbl
  clear hbk hbl hsz1 hw1 hb0
  go_wp2
  all_goals
    go_ret
    exact ⟨ret_i (by omega), BL.out⟩
end Go.Proofs.YtannniobeanhlaaGreat
/- The contracts of layer 17 (config): RuleRight, and the document's. -/
namespace Go.Proofs.YtannniobeanhlaaGreat
set_option linter.unusedSimpArgs false
set_option linter.unusedVariables false
set_option maxRecDepth 100000
open Go.ChangeShapes Go.WideShapes Go.ChangeAt Go.RowKit
open Ar (inR)
set_option maxHeartbeats 8000000 in
set_option maxRecDepth 100000 in
theorem rr_any (L W B Sl Ce Ro Wi Tr : Int) (sm : Bool) (w : World) :
    (ruleP L W B Sl Ce Ro Wi Tr sm → Calls Tryz.prog 40 #[ruV L W B Sl Ce Ro Wi Tr sm] w fun e w' => e = .returned (.bool true) ∧ Below w.heap.size w w') ∧
    (¬ ruleP L W B Sl Ce Ro Wi Tr sm → Calls Tryz.prog 40 #[ruV L W B Sl Ce Ro Wi Tr sm] w fun e w' => e = .returned (.bool false) ∧ Below w.heap.size w w') := by
  by_cases p0 : ¬ (1 ≤ L ∧ L ≤ 2147483648)
  · refine ⟨fun h => absurd h (fun ⟨h1, h2, h3, h4, h5, h6, h7, h8, h9, h10, h11⟩ => p0 h1), fun _ => ?_⟩
    have C0 := Lib.hid (fun w => within_no L 2147483648 p0 w)
    clear p0
    go_enter Tryz.func40, Tryz.ntmps40
    go_upto_region 1 with (fail)
    obtain ⟨w1, hw1, hbk, hbl, hsz1⟩ := box_new w (ruC L W B Sl Ce Ro Wi Tr sm) 52
    change Code.wp _ _ _ _ (w.alloc (.cells (ruC L W B Sl Ce Ro Wi Tr sm) 52))
    rw [hw1]
    obtain ⟨b0, hb0⟩ : ∃ b0, b0 = w.heap.size := ⟨_, rfl⟩
    rw [← hb0] at hbk ⊢
    have k0 := hbk.rd
    have BK := Lib.hid hbk
    have BL := Lib.hid hbl
    clear hbk hbl hsz1 hw1 hb0
    go_wp2_with (first
      | (go_at_call 38; ((with_reducible refine (C0.out _).mono ?_); rintro e w' ⟨rfl, rfl⟩)))
    go_ret
    exact ⟨rfl, BL.out⟩
  have q0 := Classical.not_not.1 p0
  clear p0
  have C0 := Lib.hid (fun w => within_yes L 2147483648 q0 w)
  by_cases p1 : ¬ (1 ≤ W ∧ W ≤ 1099511627776)
  · refine ⟨fun h => absurd h (fun ⟨h1, h2, h3, h4, h5, h6, h7, h8, h9, h10, h11⟩ => p1 h2), fun _ => ?_⟩
    have C1 := Lib.hid (fun w => within_no W 1099511627776 p1 w)
    clear p1
    go_enter Tryz.func40, Tryz.ntmps40
    go_upto_region 1 with (fail)
    obtain ⟨w1, hw1, hbk, hbl, hsz1⟩ := box_new w (ruC L W B Sl Ce Ro Wi Tr sm) 52
    change Code.wp _ _ _ _ (w.alloc (.cells (ruC L W B Sl Ce Ro Wi Tr sm) 52))
    rw [hw1]
    obtain ⟨b0, hb0⟩ : ∃ b0, b0 = w.heap.size := ⟨_, rfl⟩
    rw [← hb0] at hbk ⊢
    have k0 := hbk.rd
    have BK := Lib.hid hbk
    have BL := Lib.hid hbl
    clear hbk hbl hsz1 hw1 hb0
    go_wp2_with (first
      | (go_at_call 38; ((with_reducible refine (C0.out _).mono ?_); rintro e w' ⟨rfl, rfl⟩))
      | (go_at_call 38; ((with_reducible refine (C1.out _).mono ?_); rintro e w' ⟨rfl, rfl⟩)))
    go_ret
    exact ⟨rfl, BL.out⟩
  have q1 := Classical.not_not.1 p1
  clear p1
  have C1 := Lib.hid (fun w => within_yes W 1099511627776 q1 w)
  by_cases p2 : ¬ (1 ≤ B ∧ B ≤ L)
  · refine ⟨fun h => absurd h (fun ⟨h1, h2, h3, h4, h5, h6, h7, h8, h9, h10, h11⟩ => p2 h3), fun _ => ?_⟩
    have C2 := Lib.hid (fun w => within_no B L p2 w)
    clear p2
    go_enter Tryz.func40, Tryz.ntmps40
    go_upto_region 1 with (fail)
    obtain ⟨w1, hw1, hbk, hbl, hsz1⟩ := box_new w (ruC L W B Sl Ce Ro Wi Tr sm) 52
    change Code.wp _ _ _ _ (w.alloc (.cells (ruC L W B Sl Ce Ro Wi Tr sm) 52))
    rw [hw1]
    obtain ⟨b0, hb0⟩ : ∃ b0, b0 = w.heap.size := ⟨_, rfl⟩
    rw [← hb0] at hbk ⊢
    have k0 := hbk.rd
    have BK := Lib.hid hbk
    have BL := Lib.hid hbl
    clear hbk hbl hsz1 hw1 hb0
    go_wp2_with (first
      | (go_at_call 38; ((with_reducible refine (C0.out _).mono ?_); rintro e w' ⟨rfl, rfl⟩))
      | (go_at_call 38; ((with_reducible refine (C1.out _).mono ?_); rintro e w' ⟨rfl, rfl⟩))
      | (go_at_call 38; ((with_reducible refine (C2.out _).mono ?_); rintro e w' ⟨rfl, rfl⟩)))
    go_ret
    exact ⟨rfl, BL.out⟩
  have q2 := Classical.not_not.1 p2
  clear p2
  have C2 := Lib.hid (fun w => within_yes B L q2 w)
  by_cases p3 : ¬ (1 ≤ Sl ∧ Sl ≤ 64)
  · refine ⟨fun h => absurd h (fun ⟨h1, h2, h3, h4, h5, h6, h7, h8, h9, h10, h11⟩ => p3 h4), fun _ => ?_⟩
    have C3 := Lib.hid (fun w => within_no Sl 64 p3 w)
    clear p3
    go_enter Tryz.func40, Tryz.ntmps40
    go_upto_region 1 with (fail)
    obtain ⟨w1, hw1, hbk, hbl, hsz1⟩ := box_new w (ruC L W B Sl Ce Ro Wi Tr sm) 52
    change Code.wp _ _ _ _ (w.alloc (.cells (ruC L W B Sl Ce Ro Wi Tr sm) 52))
    rw [hw1]
    obtain ⟨b0, hb0⟩ : ∃ b0, b0 = w.heap.size := ⟨_, rfl⟩
    rw [← hb0] at hbk ⊢
    have k0 := hbk.rd
    have BK := Lib.hid hbk
    have BL := Lib.hid hbl
    clear hbk hbl hsz1 hw1 hb0
    go_wp2_with (first
      | (go_at_call 38; ((with_reducible refine (C0.out _).mono ?_); rintro e w' ⟨rfl, rfl⟩))
      | (go_at_call 38; ((with_reducible refine (C1.out _).mono ?_); rintro e w' ⟨rfl, rfl⟩))
      | (go_at_call 38; ((with_reducible refine (C2.out _).mono ?_); rintro e w' ⟨rfl, rfl⟩))
      | (go_at_call 38; ((with_reducible refine (C3.out _).mono ?_); rintro e w' ⟨rfl, rfl⟩)))
    go_ret
    exact ⟨rfl, BL.out⟩
  have q3 := Classical.not_not.1 p3
  clear p3
  have C3 := Lib.hid (fun w => within_yes Sl 64 q3 w)
  have hsl0 : ¬ Sl = 0 := by omega
  have em : W.tmod Sl = W % Sl := Int.tmod_eq_emod_of_nonneg (by omega)
  have hsl1 : 1 ≤ Sl := q3.1
  have hw0 : 0 ≤ W := by omega
  by_cases p4 : ¬ (W % Sl = 0)
  · refine ⟨fun h => absurd h (fun ⟨h1, h2, h3, h4, h5, h6, h7, h8, h9, h10, h11⟩ => p4 h5), fun _ => ?_⟩
    have tm : (W % Sl == 0) = false := by simpa using p4
    clear p4
    go_enter Tryz.func40, Tryz.ntmps40
    go_upto_region 1 with (fail)
    obtain ⟨w1, hw1, hbk, hbl, hsz1⟩ := box_new w (ruC L W B Sl Ce Ro Wi Tr sm) 52
    change Code.wp _ _ _ _ (w.alloc (.cells (ruC L W B Sl Ce Ro Wi Tr sm) 52))
    rw [hw1]
    obtain ⟨b0, hb0⟩ : ∃ b0, b0 = w.heap.size := ⟨_, rfl⟩
    rw [← hb0] at hbk ⊢
    have k0 := hbk.rd
    have BK := Lib.hid hbk
    have BL := Lib.hid hbl
    clear hbk hbl hsz1 hw1 hb0
    go_wp2_with (first
      | (go_at_call 38; ((with_reducible refine (C0.out _).mono ?_); rintro e w' ⟨rfl, rfl⟩))
      | (go_at_call 38; ((with_reducible refine (C1.out _).mono ?_); rintro e w' ⟨rfl, rfl⟩))
      | (go_at_call 38; ((with_reducible refine (C2.out _).mono ?_); rintro e w' ⟨rfl, rfl⟩))
      | (go_at_call 38; ((with_reducible refine (C3.out _).mono ?_); rintro e w' ⟨rfl, rfl⟩)))
    go_ret
    exact ⟨rfl, BL.out⟩
  have q4 := Classical.not_not.1 p4
  clear p4
  have tm : (W % Sl == 0) = true := by simpa using q4
  have Q4 := Lib.hid q4
  clear q4
  by_cases p5 : ¬ (1 ≤ Ce ∧ Ce ≤ 1024)
  · refine ⟨fun h => absurd h (fun ⟨h1, h2, h3, h4, h5, h6, h7, h8, h9, h10, h11⟩ => p5 h6), fun _ => ?_⟩
    have C5 := Lib.hid (fun w => within_no Ce 1024 p5 w)
    clear p5
    go_enter Tryz.func40, Tryz.ntmps40
    go_upto_region 1 with (fail)
    obtain ⟨w1, hw1, hbk, hbl, hsz1⟩ := box_new w (ruC L W B Sl Ce Ro Wi Tr sm) 52
    change Code.wp _ _ _ _ (w.alloc (.cells (ruC L W B Sl Ce Ro Wi Tr sm) 52))
    rw [hw1]
    obtain ⟨b0, hb0⟩ : ∃ b0, b0 = w.heap.size := ⟨_, rfl⟩
    rw [← hb0] at hbk ⊢
    have k0 := hbk.rd
    have BK := Lib.hid hbk
    have BL := Lib.hid hbl
    clear hbk hbl hsz1 hw1 hb0
    go_wp2_with (first
      | (go_at_call 38; ((with_reducible refine (C0.out _).mono ?_); rintro e w' ⟨rfl, rfl⟩))
      | (go_at_call 38; ((with_reducible refine (C1.out _).mono ?_); rintro e w' ⟨rfl, rfl⟩))
      | (go_at_call 38; ((with_reducible refine (C2.out _).mono ?_); rintro e w' ⟨rfl, rfl⟩))
      | (go_at_call 38; ((with_reducible refine (C3.out _).mono ?_); rintro e w' ⟨rfl, rfl⟩))
      | (go_at_call 38; ((with_reducible refine (C5.out _).mono ?_); rintro e w' ⟨rfl, rfl⟩)))
    go_ret
    exact ⟨rfl, BL.out⟩
  have q5 := Classical.not_not.1 p5
  clear p5
  have C5 := Lib.hid (fun w => within_yes Ce 1024 q5 w)
  by_cases p6 : ¬ (1 ≤ Ro ∧ Ro ≤ 8)
  · refine ⟨fun h => absurd h (fun ⟨h1, h2, h3, h4, h5, h6, h7, h8, h9, h10, h11⟩ => p6 h7), fun _ => ?_⟩
    have C6 := Lib.hid (fun w => within_no Ro 8 p6 w)
    clear p6
    go_enter Tryz.func40, Tryz.ntmps40
    go_upto_region 1 with (fail)
    obtain ⟨w1, hw1, hbk, hbl, hsz1⟩ := box_new w (ruC L W B Sl Ce Ro Wi Tr sm) 52
    change Code.wp _ _ _ _ (w.alloc (.cells (ruC L W B Sl Ce Ro Wi Tr sm) 52))
    rw [hw1]
    obtain ⟨b0, hb0⟩ : ∃ b0, b0 = w.heap.size := ⟨_, rfl⟩
    rw [← hb0] at hbk ⊢
    have k0 := hbk.rd
    have BK := Lib.hid hbk
    have BL := Lib.hid hbl
    clear hbk hbl hsz1 hw1 hb0
    go_wp2_with (first
      | (go_at_call 38; ((with_reducible refine (C0.out _).mono ?_); rintro e w' ⟨rfl, rfl⟩))
      | (go_at_call 38; ((with_reducible refine (C1.out _).mono ?_); rintro e w' ⟨rfl, rfl⟩))
      | (go_at_call 38; ((with_reducible refine (C2.out _).mono ?_); rintro e w' ⟨rfl, rfl⟩))
      | (go_at_call 38; ((with_reducible refine (C3.out _).mono ?_); rintro e w' ⟨rfl, rfl⟩))
      | (go_at_call 38; ((with_reducible refine (C5.out _).mono ?_); rintro e w' ⟨rfl, rfl⟩))
      | (go_at_call 38; ((with_reducible refine (C6.out _).mono ?_); rintro e w' ⟨rfl, rfl⟩)))
    go_ret
    exact ⟨rfl, BL.out⟩
  have q6 := Classical.not_not.1 p6
  clear p6
  have C6 := Lib.hid (fun w => within_yes Ro 8 q6 w)
  by_cases p7 : ¬ (1 ≤ Wi ∧ Wi ≤ 4096)
  · refine ⟨fun h => absurd h (fun ⟨h1, h2, h3, h4, h5, h6, h7, h8, h9, h10, h11⟩ => p7 h8), fun _ => ?_⟩
    have C7 := Lib.hid (fun w => within_no Wi 4096 p7 w)
    clear p7
    go_enter Tryz.func40, Tryz.ntmps40
    go_upto_region 1 with (fail)
    obtain ⟨w1, hw1, hbk, hbl, hsz1⟩ := box_new w (ruC L W B Sl Ce Ro Wi Tr sm) 52
    change Code.wp _ _ _ _ (w.alloc (.cells (ruC L W B Sl Ce Ro Wi Tr sm) 52))
    rw [hw1]
    obtain ⟨b0, hb0⟩ : ∃ b0, b0 = w.heap.size := ⟨_, rfl⟩
    rw [← hb0] at hbk ⊢
    have k0 := hbk.rd
    have BK := Lib.hid hbk
    have BL := Lib.hid hbl
    clear hbk hbl hsz1 hw1 hb0
    go_wp2_with (first
      | (go_at_call 38; ((with_reducible refine (C0.out _).mono ?_); rintro e w' ⟨rfl, rfl⟩))
      | (go_at_call 38; ((with_reducible refine (C1.out _).mono ?_); rintro e w' ⟨rfl, rfl⟩))
      | (go_at_call 38; ((with_reducible refine (C2.out _).mono ?_); rintro e w' ⟨rfl, rfl⟩))
      | (go_at_call 38; ((with_reducible refine (C3.out _).mono ?_); rintro e w' ⟨rfl, rfl⟩))
      | (go_at_call 38; ((with_reducible refine (C5.out _).mono ?_); rintro e w' ⟨rfl, rfl⟩))
      | (go_at_call 38; ((with_reducible refine (C6.out _).mono ?_); rintro e w' ⟨rfl, rfl⟩))
      | (go_at_call 38; ((with_reducible refine (C7.out _).mono ?_); rintro e w' ⟨rfl, rfl⟩)))
    go_ret
    exact ⟨rfl, BL.out⟩
  have q7 := Classical.not_not.1 p7
  clear p7
  have C7 := Lib.hid (fun w => within_yes Wi 4096 q7 w)
  by_cases p8 : ¬ (1 ≤ Tr ∧ Tr ≤ 64)
  · refine ⟨fun h => absurd h (fun ⟨h1, h2, h3, h4, h5, h6, h7, h8, h9, h10, h11⟩ => p8 h9), fun _ => ?_⟩
    have C8 := Lib.hid (fun w => within_no Tr 64 p8 w)
    clear p8
    go_enter Tryz.func40, Tryz.ntmps40
    go_upto_region 1 with (fail)
    obtain ⟨w1, hw1, hbk, hbl, hsz1⟩ := box_new w (ruC L W B Sl Ce Ro Wi Tr sm) 52
    change Code.wp _ _ _ _ (w.alloc (.cells (ruC L W B Sl Ce Ro Wi Tr sm) 52))
    rw [hw1]
    obtain ⟨b0, hb0⟩ : ∃ b0, b0 = w.heap.size := ⟨_, rfl⟩
    rw [← hb0] at hbk ⊢
    have k0 := hbk.rd
    have BK := Lib.hid hbk
    have BL := Lib.hid hbl
    clear hbk hbl hsz1 hw1 hb0
    go_wp2_with (first
      | (go_at_call 38; ((with_reducible refine (C0.out _).mono ?_); rintro e w' ⟨rfl, rfl⟩))
      | (go_at_call 38; ((with_reducible refine (C1.out _).mono ?_); rintro e w' ⟨rfl, rfl⟩))
      | (go_at_call 38; ((with_reducible refine (C2.out _).mono ?_); rintro e w' ⟨rfl, rfl⟩))
      | (go_at_call 38; ((with_reducible refine (C3.out _).mono ?_); rintro e w' ⟨rfl, rfl⟩))
      | (go_at_call 38; ((with_reducible refine (C5.out _).mono ?_); rintro e w' ⟨rfl, rfl⟩))
      | (go_at_call 38; ((with_reducible refine (C6.out _).mono ?_); rintro e w' ⟨rfl, rfl⟩))
      | (go_at_call 38; ((with_reducible refine (C7.out _).mono ?_); rintro e w' ⟨rfl, rfl⟩))
      | (go_at_call 38; ((with_reducible refine (C8.out _).mono ?_); rintro e w' ⟨rfl, rfl⟩)))
    go_ret
    exact ⟨rfl, BL.out⟩
  have q8 := Classical.not_not.1 p8
  clear p8
  have C8 := Lib.hid (fun w => within_yes Tr 64 q8 w)
  by_cases p9 : ¬ (2 ≤ Sl ∨ sm = false)
  · refine ⟨fun h => absurd h (fun ⟨h1, h2, h3, h4, h5, h6, h7, h8, h9, h10, h11⟩ => p9 h10), fun _ => ?_⟩
    have t2 : decide (2 ≤ Sl) = false := by simp; omega
    have hs : sm = true := by cases sm; exact absurd (Or.inr rfl) p9; rfl
    subst hs
    clear p9
    go_enter Tryz.func40, Tryz.ntmps40
    go_upto_region 1 with (fail)
    obtain ⟨w1, hw1, hbk, hbl, hsz1⟩ := box_new w (ruC L W B Sl Ce Ro Wi Tr true) 52
    change Code.wp _ _ _ _ (w.alloc (.cells (ruC L W B Sl Ce Ro Wi Tr true) 52))
    rw [hw1]
    obtain ⟨b0, hb0⟩ : ∃ b0, b0 = w.heap.size := ⟨_, rfl⟩
    rw [← hb0] at hbk ⊢
    have k0 := hbk.rd
    have BK := Lib.hid hbk
    have BL := Lib.hid hbl
    clear hbk hbl hsz1 hw1 hb0
    go_wp2_with (first
      | (go_at_call 38; ((with_reducible refine (C0.out _).mono ?_); rintro e w' ⟨rfl, rfl⟩))
      | (go_at_call 38; ((with_reducible refine (C1.out _).mono ?_); rintro e w' ⟨rfl, rfl⟩))
      | (go_at_call 38; ((with_reducible refine (C2.out _).mono ?_); rintro e w' ⟨rfl, rfl⟩))
      | (go_at_call 38; ((with_reducible refine (C3.out _).mono ?_); rintro e w' ⟨rfl, rfl⟩))
      | (go_at_call 38; ((with_reducible refine (C5.out _).mono ?_); rintro e w' ⟨rfl, rfl⟩))
      | (go_at_call 38; ((with_reducible refine (C6.out _).mono ?_); rintro e w' ⟨rfl, rfl⟩))
      | (go_at_call 38; ((with_reducible refine (C7.out _).mono ?_); rintro e w' ⟨rfl, rfl⟩))
      | (go_at_call 38; ((with_reducible refine (C8.out _).mono ?_); rintro e w' ⟨rfl, rfl⟩)))
    go_ret
    exact ⟨rfl, BL.out⟩
  have q9 := Classical.not_not.1 p9
  clear p9
  have Q9 := Lib.hid q9
  have CP0 := Lib.hid (fun w => paced_any L W B Sl Ce Ro Wi Tr sm q0 q1 q2 w)
  by_cases p10 : unitZK W (L + 1 - B) ≤ 1152921504606846976 / B
  · refine ⟨fun _ => ?_, fun h => absurd ⟨q0, q1, q2, q3, Q4.out, q5, q6, q7, q8, q9, p10⟩ h⟩
    have CP := CP0
    rw [decide_eq_true p10] at CP
    clear CP0 p10 q0 q1 q2 q3 q5 q6 q7 q8 q9
    rcases Q9.out with h2 | h2
    · have t2 : decide (2 ≤ Sl) = true := by simpa using h2
      clear h2
      go_enter Tryz.func40, Tryz.ntmps40
      go_upto_region 1 with (fail)
      obtain ⟨w1, hw1, hbk, hbl, hsz1⟩ := box_new w (ruC L W B Sl Ce Ro Wi Tr sm) 52
      change Code.wp _ _ _ _ (w.alloc (.cells (ruC L W B Sl Ce Ro Wi Tr sm) 52))
      rw [hw1]
      obtain ⟨b0, hb0⟩ : ∃ b0, b0 = w.heap.size := ⟨_, rfl⟩
      rw [← hb0] at hbk ⊢
      have k0 := hbk.rd
      have BK := Lib.hid hbk
      have BL := Lib.hid hbl
      clear hbk hbl hsz1 hw1 hb0
      go_wp2_with (first
      | (go_at_call 38; ((with_reducible refine (C0.out _).mono ?_); rintro e w' ⟨rfl, rfl⟩))
      | (go_at_call 38; ((with_reducible refine (C1.out _).mono ?_); rintro e w' ⟨rfl, rfl⟩))
      | (go_at_call 38; ((with_reducible refine (C2.out _).mono ?_); rintro e w' ⟨rfl, rfl⟩))
      | (go_at_call 38; ((with_reducible refine (C3.out _).mono ?_); rintro e w' ⟨rfl, rfl⟩))
      | (go_at_call 38; ((with_reducible refine (C5.out _).mono ?_); rintro e w' ⟨rfl, rfl⟩))
      | (go_at_call 38; ((with_reducible refine (C6.out _).mono ?_); rintro e w' ⟨rfl, rfl⟩))
      | (go_at_call 38; ((with_reducible refine (C7.out _).mono ?_); rintro e w' ⟨rfl, rfl⟩))
      | (go_at_call 38; ((with_reducible refine (C8.out _).mono ?_); rintro e w' ⟨rfl, rfl⟩))
      | (go_at_call 67; ((with_reducible refine (CP.out _).mono ?_); rintro e w2 ⟨rfl, b2⟩; have B2 := Lib.hid (BL.out.trans (b2.mono BL.out.size)); clear b2)))
      go_ret
      exact ⟨rfl, B2.out⟩
    · by_cases h3 : 2 ≤ Sl
      · have t2 : decide (2 ≤ Sl) = true := by simpa using h3
        clear h3 h2
        go_enter Tryz.func40, Tryz.ntmps40
        go_upto_region 1 with (fail)
        obtain ⟨w1, hw1, hbk, hbl, hsz1⟩ := box_new w (ruC L W B Sl Ce Ro Wi Tr sm) 52
        change Code.wp _ _ _ _ (w.alloc (.cells (ruC L W B Sl Ce Ro Wi Tr sm) 52))
        rw [hw1]
        obtain ⟨b0, hb0⟩ : ∃ b0, b0 = w.heap.size := ⟨_, rfl⟩
        rw [← hb0] at hbk ⊢
        have k0 := hbk.rd
        have BK := Lib.hid hbk
        have BL := Lib.hid hbl
        clear hbk hbl hsz1 hw1 hb0
        go_wp2_with (first
      | (go_at_call 38; ((with_reducible refine (C0.out _).mono ?_); rintro e w' ⟨rfl, rfl⟩))
      | (go_at_call 38; ((with_reducible refine (C1.out _).mono ?_); rintro e w' ⟨rfl, rfl⟩))
      | (go_at_call 38; ((with_reducible refine (C2.out _).mono ?_); rintro e w' ⟨rfl, rfl⟩))
      | (go_at_call 38; ((with_reducible refine (C3.out _).mono ?_); rintro e w' ⟨rfl, rfl⟩))
      | (go_at_call 38; ((with_reducible refine (C5.out _).mono ?_); rintro e w' ⟨rfl, rfl⟩))
      | (go_at_call 38; ((with_reducible refine (C6.out _).mono ?_); rintro e w' ⟨rfl, rfl⟩))
      | (go_at_call 38; ((with_reducible refine (C7.out _).mono ?_); rintro e w' ⟨rfl, rfl⟩))
      | (go_at_call 38; ((with_reducible refine (C8.out _).mono ?_); rintro e w' ⟨rfl, rfl⟩))
      | (go_at_call 67; ((with_reducible refine (CP.out _).mono ?_); rintro e w2 ⟨rfl, b2⟩; have B2 := Lib.hid (BL.out.trans (b2.mono BL.out.size)); clear b2)))
        go_ret
        exact ⟨rfl, B2.out⟩
      · have t2 : decide (2 ≤ Sl) = false := by simpa using h3
        subst h2
        clear h3
        go_enter Tryz.func40, Tryz.ntmps40
        go_upto_region 1 with (fail)
        obtain ⟨w1, hw1, hbk, hbl, hsz1⟩ := box_new w (ruC L W B Sl Ce Ro Wi Tr false) 52
        change Code.wp _ _ _ _ (w.alloc (.cells (ruC L W B Sl Ce Ro Wi Tr false) 52))
        rw [hw1]
        obtain ⟨b0, hb0⟩ : ∃ b0, b0 = w.heap.size := ⟨_, rfl⟩
        rw [← hb0] at hbk ⊢
        have k0 := hbk.rd
        have BK := Lib.hid hbk
        have BL := Lib.hid hbl
        clear hbk hbl hsz1 hw1 hb0
        go_wp2_with (first
      | (go_at_call 38; ((with_reducible refine (C0.out _).mono ?_); rintro e w' ⟨rfl, rfl⟩))
      | (go_at_call 38; ((with_reducible refine (C1.out _).mono ?_); rintro e w' ⟨rfl, rfl⟩))
      | (go_at_call 38; ((with_reducible refine (C2.out _).mono ?_); rintro e w' ⟨rfl, rfl⟩))
      | (go_at_call 38; ((with_reducible refine (C3.out _).mono ?_); rintro e w' ⟨rfl, rfl⟩))
      | (go_at_call 38; ((with_reducible refine (C5.out _).mono ?_); rintro e w' ⟨rfl, rfl⟩))
      | (go_at_call 38; ((with_reducible refine (C6.out _).mono ?_); rintro e w' ⟨rfl, rfl⟩))
      | (go_at_call 38; ((with_reducible refine (C7.out _).mono ?_); rintro e w' ⟨rfl, rfl⟩))
      | (go_at_call 38; ((with_reducible refine (C8.out _).mono ?_); rintro e w' ⟨rfl, rfl⟩))
      | (go_at_call 67; ((with_reducible refine (CP.out _).mono ?_); rintro e w2 ⟨rfl, b2⟩; have B2 := Lib.hid (BL.out.trans (b2.mono BL.out.size)); clear b2)))
        go_ret
        exact ⟨rfl, B2.out⟩
  · refine ⟨fun h => absurd h (fun ⟨h1, h2, h3, h4, h5, h6, h7, h8, h9, h10, h11⟩ => p10 h11), fun _ => ?_⟩
    have CP := CP0
    rw [decide_eq_false p10] at CP
    clear CP0 p10 q0 q1 q2 q3 q5 q6 q7 q8 q9
    rcases Q9.out with h2 | h2
    · have t2 : decide (2 ≤ Sl) = true := by simpa using h2
      clear h2
      go_enter Tryz.func40, Tryz.ntmps40
      go_upto_region 1 with (fail)
      obtain ⟨w1, hw1, hbk, hbl, hsz1⟩ := box_new w (ruC L W B Sl Ce Ro Wi Tr sm) 52
      change Code.wp _ _ _ _ (w.alloc (.cells (ruC L W B Sl Ce Ro Wi Tr sm) 52))
      rw [hw1]
      obtain ⟨b0, hb0⟩ : ∃ b0, b0 = w.heap.size := ⟨_, rfl⟩
      rw [← hb0] at hbk ⊢
      have k0 := hbk.rd
      have BK := Lib.hid hbk
      have BL := Lib.hid hbl
      clear hbk hbl hsz1 hw1 hb0
      go_wp2_with (first
      | (go_at_call 38; ((with_reducible refine (C0.out _).mono ?_); rintro e w' ⟨rfl, rfl⟩))
      | (go_at_call 38; ((with_reducible refine (C1.out _).mono ?_); rintro e w' ⟨rfl, rfl⟩))
      | (go_at_call 38; ((with_reducible refine (C2.out _).mono ?_); rintro e w' ⟨rfl, rfl⟩))
      | (go_at_call 38; ((with_reducible refine (C3.out _).mono ?_); rintro e w' ⟨rfl, rfl⟩))
      | (go_at_call 38; ((with_reducible refine (C5.out _).mono ?_); rintro e w' ⟨rfl, rfl⟩))
      | (go_at_call 38; ((with_reducible refine (C6.out _).mono ?_); rintro e w' ⟨rfl, rfl⟩))
      | (go_at_call 38; ((with_reducible refine (C7.out _).mono ?_); rintro e w' ⟨rfl, rfl⟩))
      | (go_at_call 38; ((with_reducible refine (C8.out _).mono ?_); rintro e w' ⟨rfl, rfl⟩))
      | (go_at_call 67; ((with_reducible refine (CP.out _).mono ?_); rintro e w2 ⟨rfl, b2⟩; have B2 := Lib.hid (BL.out.trans (b2.mono BL.out.size)); clear b2)))
      go_ret
      exact ⟨rfl, B2.out⟩
    · by_cases h3 : 2 ≤ Sl
      · have t2 : decide (2 ≤ Sl) = true := by simpa using h3
        clear h3 h2
        go_enter Tryz.func40, Tryz.ntmps40
        go_upto_region 1 with (fail)
        obtain ⟨w1, hw1, hbk, hbl, hsz1⟩ := box_new w (ruC L W B Sl Ce Ro Wi Tr sm) 52
        change Code.wp _ _ _ _ (w.alloc (.cells (ruC L W B Sl Ce Ro Wi Tr sm) 52))
        rw [hw1]
        obtain ⟨b0, hb0⟩ : ∃ b0, b0 = w.heap.size := ⟨_, rfl⟩
        rw [← hb0] at hbk ⊢
        have k0 := hbk.rd
        have BK := Lib.hid hbk
        have BL := Lib.hid hbl
        clear hbk hbl hsz1 hw1 hb0
        go_wp2_with (first
      | (go_at_call 38; ((with_reducible refine (C0.out _).mono ?_); rintro e w' ⟨rfl, rfl⟩))
      | (go_at_call 38; ((with_reducible refine (C1.out _).mono ?_); rintro e w' ⟨rfl, rfl⟩))
      | (go_at_call 38; ((with_reducible refine (C2.out _).mono ?_); rintro e w' ⟨rfl, rfl⟩))
      | (go_at_call 38; ((with_reducible refine (C3.out _).mono ?_); rintro e w' ⟨rfl, rfl⟩))
      | (go_at_call 38; ((with_reducible refine (C5.out _).mono ?_); rintro e w' ⟨rfl, rfl⟩))
      | (go_at_call 38; ((with_reducible refine (C6.out _).mono ?_); rintro e w' ⟨rfl, rfl⟩))
      | (go_at_call 38; ((with_reducible refine (C7.out _).mono ?_); rintro e w' ⟨rfl, rfl⟩))
      | (go_at_call 38; ((with_reducible refine (C8.out _).mono ?_); rintro e w' ⟨rfl, rfl⟩))
      | (go_at_call 67; ((with_reducible refine (CP.out _).mono ?_); rintro e w2 ⟨rfl, b2⟩; have B2 := Lib.hid (BL.out.trans (b2.mono BL.out.size)); clear b2)))
        go_ret
        exact ⟨rfl, B2.out⟩
      · have t2 : decide (2 ≤ Sl) = false := by simpa using h3
        subst h2
        clear h3
        go_enter Tryz.func40, Tryz.ntmps40
        go_upto_region 1 with (fail)
        obtain ⟨w1, hw1, hbk, hbl, hsz1⟩ := box_new w (ruC L W B Sl Ce Ro Wi Tr false) 52
        change Code.wp _ _ _ _ (w.alloc (.cells (ruC L W B Sl Ce Ro Wi Tr false) 52))
        rw [hw1]
        obtain ⟨b0, hb0⟩ : ∃ b0, b0 = w.heap.size := ⟨_, rfl⟩
        rw [← hb0] at hbk ⊢
        have k0 := hbk.rd
        have BK := Lib.hid hbk
        have BL := Lib.hid hbl
        clear hbk hbl hsz1 hw1 hb0
        go_wp2_with (first
      | (go_at_call 38; ((with_reducible refine (C0.out _).mono ?_); rintro e w' ⟨rfl, rfl⟩))
      | (go_at_call 38; ((with_reducible refine (C1.out _).mono ?_); rintro e w' ⟨rfl, rfl⟩))
      | (go_at_call 38; ((with_reducible refine (C2.out _).mono ?_); rintro e w' ⟨rfl, rfl⟩))
      | (go_at_call 38; ((with_reducible refine (C3.out _).mono ?_); rintro e w' ⟨rfl, rfl⟩))
      | (go_at_call 38; ((with_reducible refine (C5.out _).mono ?_); rintro e w' ⟨rfl, rfl⟩))
      | (go_at_call 38; ((with_reducible refine (C6.out _).mono ?_); rintro e w' ⟨rfl, rfl⟩))
      | (go_at_call 38; ((with_reducible refine (C7.out _).mono ?_); rintro e w' ⟨rfl, rfl⟩))
      | (go_at_call 38; ((with_reducible refine (C8.out _).mono ?_); rintro e w' ⟨rfl, rfl⟩))
      | (go_at_call 67; ((with_reducible refine (CP.out _).mono ?_); rintro e w2 ⟨rfl, b2⟩; have B2 := Lib.hid (BL.out.trans (b2.mono BL.out.size)); clear b2)))
        go_ret
        exact ⟨rfl, B2.out⟩
end Go.Proofs.YtannniobeanhlaaGreat
