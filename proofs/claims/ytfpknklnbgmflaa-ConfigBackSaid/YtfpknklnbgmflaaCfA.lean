/- The contracts of layer 17 (config): which rules may be. -/
import Derived.Test.YtfpknklnbgmflaaArCeil
import Derived.Test.YtfpknklnbgmflaaBlk
import Derived.Test.YtfpknklnbgmflaaLift
import Derived.Deep.RegionHeld3
import Derived.StillTailTactics
import Derived.BigQuiet
import Derived.Below
import Derived.Laws.CopyOwn
import Derived.Deep.QuietTactic
import Derived.Outline
import Derived.Deep.Cut
namespace Go.Proofs.Ytfpknklnbgmflaa
set_option linter.unusedSimpArgs false
set_option linter.unusedVariables false
open Go.ChangeShapes Go.WideShapes Go.ChangeAt Go.RowKit
open Ar (inR)
abbrev ruC (L W B Sl Ce Ro Wi Tr : Int) (sm : Bool) : Array Value := #[.int .i64 L, .int .i64 W, .int .i64 B, .int .i64 Sl, .int .i64 Ce, .int .i64 Ro, .int .i64 Wi, .int .i64 Tr, .bool sm]
abbrev ruV (L W B Sl Ce Ro Wi Tr : Int) (sm : Bool) : Value := .agg (ruC L W B Sl Ce Ro Wi Tr sm)
abbrev pv (U W B L : Int) : Value := .agg #[.int .i64 U, .int .i64 W, .int .i64 B, .int .i64 L]
theorem below_from {W0 w w' : World} (h : Below W0.heap.size W0 w) (b : Below w.heap.size w w') : Below W0.heap.size W0 w' := h.trans (b.mono h.size)
/-- the pace of a rule. -/
def unitZ (W n : Int) : Int := if W < 0 ∨ n < 1 then 0 else if W % n = 0 then W / n else W / n + 1
theorem within_yes (x m : Int) (h : 1 ≤ x ∧ x ≤ m) (w : World) : Calls Try.prog 23 #[.int .i64 x, .int .i64 m] w fun e w' => e = .returned (.bool true) ∧ w = w' := by
  obtain ⟨h1, h2⟩ := h
  have t1 : decide (1 ≤ x) = true := by simpa using h1
  have t2 : decide (x ≤ m) = true := by simpa using h2
  go_enter Try.func23, Try.ntmps23
  go_wp2
  go_ret
  exact ⟨rfl, rfl⟩
theorem within_no (x m : Int) (h : ¬ (1 ≤ x ∧ x ≤ m)) (w : World) : Calls Try.prog 23 #[.int .i64 x, .int .i64 m] w fun e w' => e = .returned (.bool false) ∧ w = w' := by
  by_cases h1 : 1 ≤ x
  · have h2 : ¬ x ≤ m := fun g => h ⟨h1, g⟩
    have t1 : decide (1 ≤ x) = true := by simpa using h1
    have t2 : decide (x ≤ m) = false := by simpa using h2
    clear h
    go_enter Try.func23, Try.ntmps23
    go_wp2
    go_ret
    exact ⟨rfl, rfl⟩
  · have t1 : decide (1 ≤ x) = false := by simpa using h1
    clear h
    go_enter Try.func23, Try.ntmps23
    go_wp2
    go_ret
    exact ⟨rfl, rfl⟩
set_option maxHeartbeats 1000000 in
theorem of_any (L W B s1 s2 s3 s4 s5 : Int) (sm : Bool) (hW : inR W) (h1 : inR (L + 1)) (h2 : inR (L + 1 - B)) (w : World) :
    Calls Try.prog 33 #[.agg #[.int .i64 L, .int .i64 W, .int .i64 B, .int .i64 s1, .int .i64 s2, .int .i64 s3, .int .i64 s4, .int .i64 s5, .bool sm]] w fun e w' => e = .returned (pv (unitZ W (L + 1 - B)) W B L) ∧ Below w.heap.size w w' := by
  have e1 : IntKind.i64.wrap (L + 1) = L + 1 := by rw [IntKind.wrap_i64]; unfold inR at h1; omega
  have e2 : IntKind.i64.wrap (L + 1 - B) = L + 1 - B := by rw [IntKind.wrap_i64]; unfold inR at h2; omega
  have c1 := fun w => ceil_any W (IntKind.i64.wrap (IntKind.i64.wrap (L + 1) - B)) hW (by rw [e1, e2]; exact h2) w
  rw [e1, e2] at c1
  change ∀ w, Calls Try.prog 39 #[.int .i64 W, .int .i64 (L + 1 - B)] w fun e w' => e = .returned (.int .i64 (unitZ W (L + 1 - B))) ∧ w = w' at c1
  obtain ⟨U, hU⟩ : ∃ z, z = unitZ W (L + 1 - B) := ⟨_, rfl⟩
  rw [← hU] at c1 ⊢
  have c2 := c1
  rw [← e2, ← e1] at c2
  have C1 := Lib.hid c1
  have C2 := Lib.hid c2
  clear c1 c2 hU
  go_enter Try.func33, Try.ntmps33
  go_wp2_with (fail)
  have h0 := heap_alloc_new w (.cells #[.int .i64 L, .int .i64 W, .int .i64 B, .int .i64 s1, .int .i64 s2, .int .i64 s3, .int .i64 s4, .int .i64 s5, .bool sm] 23)
  have b1 : Below w.heap.size w (w.alloc (.cells #[.int .i64 L, .int .i64 W, .int .i64 B, .int .i64 s1, .int .i64 s2, .int .i64 s3, .int .i64 s4, .int .i64 s5, .bool sm] 23)) := (Below.refl _ _).alloc (Nat.le_refl _) _
  have hs : (w.alloc (.cells #[.int .i64 L, .int .i64 W, .int .i64 B, .int .i64 s1, .int .i64 s2, .int .i64 s3, .int .i64 s4, .int .i64 s5, .bool sm] 23)).heap.size = w.heap.size + 1 := by simp
  generalize w.alloc (.cells #[.int .i64 L, .int .i64 W, .int .i64 B, .int .i64 s1, .int .i64 s2, .int .i64 s3, .int .i64 s4, .int .i64 s5, .bool sm] 23) = w1 at *
  have h1 := heap_alloc_new w1 (.cells #[.int .i64 0, .int .i64 0, .int .i64 0, .int .i64 0] 55)
  have b2 : Below w1.heap.size w1 (w1.alloc (.cells #[.int .i64 0, .int .i64 0, .int .i64 0, .int .i64 0] 55)) := (Below.refl _ _).alloc (Nat.le_refl _) _
  have hlt : w.heap.size < w1.heap.size := by omega
  rw [← b2.block _ hlt] at h0
  have b3 := below_from b1 b2
  rw [hs] at h1
  generalize w1.alloc (.cells #[.int .i64 0, .int .i64 0, .int .i64 0, .int .i64 0] 55) = w2 at *
  have B3 := Lib.hid b3
  have H1 := Lib.hid h1
  have HL := Lib.hid (lt_of_block h1)
  have HS := Lib.hid hs
  clear b1 b2 b3 hs hlt
  obtain ⟨b0, hb0⟩ : ∃ z, z = w.heap.size := ⟨_, rfl⟩
  rw [← hb0] at h0 h1 H1 HL ⊢
  have HB := Lib.hid hb0
  clear hb0
  have d0 : w2.cell? ⟨b0, 0, none⟩ = some (.int .i64 L) := cell_at h0
  have d1 : w2.cell? ⟨b0, 1, none⟩ = some (.int .i64 W) := cell_at h0
  have d2 : w2.cell? ⟨b0, 2, none⟩ = some (.int .i64 B) := cell_at h0
  clear h0 h1
  go_still_tail 16, (by kernel_rfl)
  still_call ((C1.out _).mono fun _ _ h => ⟨h.1, h.2.symm⟩)
  repeat still_step
  refine wpStill_nil ?_
  change wpList _ _ _ _ _ w2.drew
  refine wpList_store_row rfl _ _ _ rfl (b0 + 1) _ rfl rfl _ _ H1.out (by kernel_rfl) rfl (by simp [Value.oneCell']) ?_
  go_wp2
  (try simp only [Exit.inBlock, Exit.then])
  refine bodyPost_ret (results_cell_row rfl _ _ (b0 + 1) _ _ (0, 0) _ rfl (setRow_heap w2.drew (b0 + 1) _ _ _ _ H1.out) Try.underlying55 rfl (by kernel_rfl)) rfl ?_
  exact ⟨rfl, below_setRow (below_draws B3.out 1) (by have := HB.out; omega) _⟩
def ruleP (L W B Sl Ce Ro Wi Tr : Int) (sm : Bool) : Prop :=
  (1 ≤ L ∧ L ≤ 2147483648) ∧ (1 ≤ W ∧ W ≤ 1099511627776) ∧ (1 ≤ B ∧ B ≤ L) ∧ (1 ≤ Sl ∧ Sl ≤ 64) ∧ W % Sl = 0 ∧ (1 ≤ Ce ∧ Ce ≤ 1024) ∧ (1 ≤ Ro ∧ Ro ≤ 8) ∧ (1 ≤ Wi ∧ Wi ≤ 4096) ∧ (1 ≤ Tr ∧ Tr ≤ 64) ∧ (2 ≤ Sl ∨ sm = false) ∧ unitZ W (L + 1 - B) ≤ 1152921504606846976 / B
theorem unit_bd (W n : Int) (hW : 1 ≤ W) (hn : 1 ≤ n) : 0 ≤ unitZ W n ∧ unitZ W n ≤ W := by
  unfold unitZ
  rw [if_neg (by omega)]
  have e1 := Int.ediv_nonneg (show 0 ≤ W by omega) (show 0 ≤ n by omega)
  have e2 := Int.ediv_le_self n (show 0 ≤ W by omega)
  split
  · omega
  · refine ⟨by omega, ?_⟩
    by_cases h1 : n = 1
    · subst h1; omega
    · have : W / n < W := Int.ediv_lt_self_of_pos_of_ne_one (by omega) (by omega)
      omega
set_option maxHeartbeats 1000000 in
theorem paced_any (L W B Sl Ce Ro Wi Tr : Int) (sm : Bool) (hL : 1 ≤ L ∧ L ≤ 2147483648) (hW : 1 ≤ W ∧ W ≤ 1099511627776) (hB : 1 ≤ B ∧ B ≤ L) (w : World) :
    Calls Try.prog 24 #[ruV L W B Sl Ce Ro Wi Tr sm] w fun e w' => e = .returned (.bool (decide (unitZ W (L + 1 - B) ≤ 1152921504606846976 / B))) ∧ Below w.heap.size w w' := by
  have CO := Lib.hid (fun w => of_any L W B Sl Ce Ro Wi Tr sm (by unfold inR; omega) (by unfold inR; omega) (by unfold inR; omega) w)
  obtain ⟨U, hU⟩ : ∃ U, U = unitZ W (L + 1 - B) := ⟨_, rfl⟩
  rw [← hU] at CO ⊢
  obtain ⟨Q, hQ⟩ : ∃ Q : Int, Q = 1152921504606846976 / B := ⟨_, rfl⟩
  rw [← hQ]
  have e1 : (1152921504606846976 : Int).tdiv B = Q := by rw [Int.tdiv_eq_ediv_of_nonneg (by omega)]; exact hQ.symm
  have e0 : (1152921504606846976 : Int) / B = Q := hQ.symm
  have e2 : IntKind.i64.wrap Q = Q := by
    have h1 := Int.ediv_nonneg (show (0 : Int) ≤ 1152921504606846976 by omega) (show 0 ≤ B by omega)
    have h2 := Int.ediv_le_self B (show (0 : Int) ≤ 1152921504606846976 by omega)
    rw [IntKind.wrap_i64]; omega
  have nb : ¬ B = 0 := by omega
  have b1 : 1 ≤ B := hB.1
  clear hU hQ hL hW hB
  go_enter Try.func24, Try.ntmps24
  go_upto_region 1 with (fail)
  obtain ⟨w1, hw1, hbk, hbl, hsz1⟩ := box_new w (ruC L W B Sl Ce Ro Wi Tr sm) 23
  change Code.wp _ _ _ _ (w.alloc (.cells (ruC L W B Sl Ce Ro Wi Tr sm) 23))
  rw [hw1]
  obtain ⟨b0, hb0⟩ : ∃ b0, b0 = w.heap.size := ⟨_, rfl⟩
  rw [← hb0] at hbk ⊢
  have BK := Lib.hid hbk
  have BL := Lib.hid hbl
  clear hbk hbl hsz1 hw1 hb0
  have hfl : ∀ wx, (Instr.field 55 (pv U W B L) 0).run Try.prog wx = .ok (.int .i64 U) wx := fun wx => by rfl
  have y1 : ∀ i, w1.drew.cell? ⟨b0, i, none⟩ = (ruC L W B Sl Ce Ro Wi Tr sm)[i]? := (Blk.drew BK.out).rd
  have y3 : Below w1.heap.size w1 w1.drew := below_draws (Below.refl _ _) 1
  have GO := Lib.hid (fun (wx : World) (hx : Below w1.heap.size w1 wx) => show Calls Try.prog 33 #[ruV L W B Sl Ce Ro Wi Tr sm] wx (fun e w' => e = .returned (pv U W B L) ∧ (∀ i, w'.cell? ⟨b0, i, none⟩ = (ruC L W B Sl Ce Ro Wi Tr sm)[i]?) ∧ Below w1.heap.size w1 w') from (CO.out wx).mono (fun e w' hh => ⟨hh.1, (BK.out.keep (hx.trans (hh.2.mono hx.size))).rd, hx.trans (hh.2.mono hx.size)⟩))
  go_region_held3 (fun w' => (∀ i, w'.cell? ⟨b0, i, none⟩ = (ruC L W B Sl Ce Ro Wi Tr sm)[i]?) ∧ Below w1.heap.size w1 w') (first | (refine ⟨?_, ?_⟩ <;> assumption) | go_keep)
    (first | (go_at_call 33; ((with_reducible refine (GO.out _ (by assumption)).mono ?_); rintro e w2 ⟨rfl, z0, z2⟩)))
  go_wp2
  go_ret
  exact ⟨rfl, BL.out.trans (z2.mono BL.out.size)⟩
end Go.Proofs.Ytfpknklnbgmflaa
