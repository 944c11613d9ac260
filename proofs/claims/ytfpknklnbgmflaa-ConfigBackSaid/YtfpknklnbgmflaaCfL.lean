/- The laws of layer 17 (config), walked: the example, units. -/
import Derived.Test.YtfpknklnbgmflaaCfB
import Derived.Test.YtfpknklnbgmflaaBits
namespace Go.Proofs.Ytfpknklnbgmflaa
set_option linter.unusedSimpArgs false
set_option linter.unusedVariables false
open Go.ChangeShapes Go.WideShapes Go.ChangeAt Go.RowKit
open Ar (inR)
theorem mask31 (n : Int) : bits .and .i64 n 2147483647 = n % 2147483648 := by
  have hm : (BitVec.ofInt 64 2147483647).toNat = 2 ^ 31 - 1 := by decide
  have key : (BitVec.ofInt 64 n &&& BitVec.ofInt 64 2147483647).toNat = (n % ((2 ^ 64 : Nat) : Int)).toNat % 2 ^ 31 := by
    rw [BitVec.toNat_and, BitVec.toNat_ofInt, hm, Nat.and_two_pow_sub_one_eq_mod]
  show IntKind.i64.wrap ((BitVec.ofInt 64 n &&& BitVec.ofInt 64 2147483647).toNat : Nat) = n % 2147483648
  rw [key, IntKind.wrap_i64]
  omega
theorem mask40 (n : Int) : bits .and .i64 n 1099511627775 = n % 1099511627776 := by
  have hm : (BitVec.ofInt 64 1099511627775).toNat = 2 ^ 40 - 1 := by decide
  have key : (BitVec.ofInt 64 n &&& BitVec.ofInt 64 1099511627775).toNat = (n % ((2 ^ 64 : Nat) : Int)).toNat % 2 ^ 40 := by
    rw [BitVec.toNat_and, BitVec.toNat_ofInt, hm, Nat.and_two_pow_sub_one_eq_mod]
  show IntKind.i64.wrap ((BitVec.ofInt 64 n &&& BitVec.ofInt 64 1099511627775).toNat : Nat) = n % 1099511627776
  rw [key, IntKind.wrap_i64]
  omega
theorem small_rule {L W B : Int} (hL : 1 ≤ L ∧ L ≤ 2147483648) (hW : 1 ≤ W ∧ W ≤ 1099511627776) (hB : 1 ≤ B ∧ B ≤ L) : ruleP L W B 1 1 1 1 1 false ↔ unitZ W (L + 1 - B) ≤ 1152921504606846976 / B := by
  unfold ruleP
  constructor
  · intro h; exact h.2.2.2.2.2.2.2.2.2.2
  · intro h
    exact ⟨hL, hW, hB, by omega, Int.emod_one W, by omega, by omega, by omega, by omega, .inr rfl, h⟩
theorem rule_one {L W : Int} (hL : 1 ≤ L ∧ L ≤ 2147483648) (hW : 1 ≤ W ∧ W ≤ 1099511627776) : ruleP L W 1 1 1 1 1 1 false := by
  rw [small_rule hL hW (by omega)]
  have := unit_bd W (L + 1 - 1) hW.1 (by omega)
  omega
set_option maxHeartbeats 1000000 in
theorem fit_any (w : World) : Calls Try.prog 9 #[] w fun e w' => e = .returned (.bool true) ∧ Below w.heap.size w w' := by
  have C1 := Lib.hid (fun w => (rr_any 10 10 11 1 1 1 1 1 false w).2 (fun h => by have := h.2.2.1.2; omega))
  have C2 := Lib.hid (fun w => (rr_any 10 10 10 1 1 1 1 1 false w).1 ((small_rule (by omega) (by omega) (by omega)).2 (by
    have h := unit_bd 10 (10 + 1 - 10) (by omega) (by omega)
    omega)))
  go_enter Try.func9, Try.ntmps9
  go_upto_region 2 with (fail)
  obtain ⟨w1, hw1, hbk, hbl, hsz1⟩ := box_new w (ruC 10 10 11 1 1 1 1 1 false) 23
  change Code.wp _ _ _ _ (w.alloc (.cells (ruC 10 10 11 1 1 1 1 1 false) 23))
  rw [hw1]
  obtain ⟨b0, hb0⟩ : ∃ b0, b0 = w.heap.size := ⟨_, rfl⟩
  rw [← hb0] at hbk ⊢
  have k0 := hbk.rd
  have BK := Lib.hid hbk
  have BL := Lib.hid hbl
  have HB0 := Lib.hid hb0
  clear hbk hbl hsz1 hw1 hb0
  go_upto_region 4 with (go_at_call 10; ((with_reducible refine (C1.out _).mono ?_); rintro e w2 ⟨rfl, b2⟩; have BK2 := Lib.hid (BK.out.keep b2); have BL2 := Lib.hid (BL.out.trans (b2.mono BL.out.size)); have k2 := BK2.out.rd; have q2 := BK2.out.wr; clear b2))
  have BK3 := Lib.hid (show Blk (w2.setCell ⟨b0, 2, none⟩ (.int .i64 10)) b0 23 (ruC 10 10 10 1 1 1 1 1 false) from by rw [setCell_obj BK2.out]; exact setObj_at (lt_of_block BK2.out) _)
  have BL3 := Lib.hid (show Below w.heap.size w (w2.setCell ⟨b0, 2, none⟩ (.int .i64 10)) from by
    rw [setCell_obj BK2.out]
    exact BL2.out.trans ((Fr.setObj (F := fun k => k = b0) (Fr.refl _ _) rfl _).below BL2.out.size (fun k hk => by have := HB0.out; omega)))
  obtain ⟨w3, hw3⟩ : ∃ w3, w3 = w2.setCell ⟨b0, 2, none⟩ (.int .i64 10) := ⟨_, rfl⟩
  rw [← hw3] at BK3 BL3 ⊢
  clear k0 k2 q2 hw3
  have k3 := BK3.out.rd
  go_wp2_with (go_at_call 10; ((with_reducible refine (C2.out _).mono ?_); rintro e w4 ⟨rfl, b4⟩; have BL4 := Lib.hid (BL3.out.trans (b4.mono BL3.out.size)); clear b4))
  go_ret
  exact ⟨rfl, BL4.out⟩
set_option maxHeartbeats 4000000 in
set_option maxRecDepth 100000 in
theorem units_law (w : World) (limit window burst : Int) (hl : -9223372036854775808 ≤ limit ∧ limit ≤ 9223372036854775807) (hw : -9223372036854775808 ≤ window ∧ window ≤ 9223372036854775807) (hb : -9223372036854775808 ≤ burst ∧ burst ≤ 9223372036854775807) :
    Calls Try.prog 7 #[.int .i64 limit, .int .i64 window, .int .i64 burst] w fun e w' => e = .returned (.bool true) ∧ Below w.heap.size w w' := by
  obtain ⟨l0, hl0⟩ : ∃ z, z = limit % 2147483648 := ⟨_, rfl⟩
  obtain ⟨v0, hv0⟩ : ∃ z, z = window % 1099511627776 := ⟨_, rfl⟩
  obtain ⟨c0, hc0⟩ : ∃ z, z = burst % 2147483648 := ⟨_, rfl⟩
  have e1 : bits .and .i64 limit 2147483647 = l0 := by rw [hl0]; exact mask31 limit
  have e2 : bits .and .i64 window 1099511627775 = v0 := by rw [hv0]; exact mask40 window
  have e3 : bits .and .i64 burst 2147483647 = c0 := by rw [hc0]; exact mask31 burst
  have r1 : 0 ≤ l0 ∧ l0 < 2147483648 := by omega
  have r2 : 0 ≤ v0 ∧ v0 < 1099511627776 := by omega
  have r3 : 0 ≤ c0 ∧ c0 < 2147483648 := by omega
  obtain ⟨L, hL⟩ : ∃ L, l0 + 1 = L := ⟨_, rfl⟩
  obtain ⟨W, hW⟩ : ∃ W, v0 + 1 = W := ⟨_, rfl⟩
  obtain ⟨m, hm⟩ : ∃ m, c0 % L = m := ⟨_, rfl⟩
  have hmb : 0 ≤ m ∧ m < L := by rw [← hm]; exact ⟨Int.emod_nonneg _ (by omega), Int.emod_lt_of_pos _ (by omega)⟩
  obtain ⟨B, hB⟩ : ∃ B, m + 1 = B := ⟨_, rfl⟩
  have e4 : IntKind.i64.wrap (l0 + 1) = L := by rw [IntKind.wrap_i64]; omega
  have e5 : IntKind.i64.wrap (v0 + 1) = W := by rw [IntKind.wrap_i64]; omega
  have e6 : c0.tmod L = m := by rw [Int.tmod_eq_emod_of_nonneg r3.1]; exact hm
  have e7 : IntKind.i64.wrap (m + 1) = B := by rw [IntKind.wrap_i64]; omega
  have bL : 1 ≤ L ∧ L ≤ 2147483648 := by omega
  have bW : 1 ≤ W ∧ W ≤ 1099511627776 := by omega
  have bB : 1 ≤ B ∧ B ≤ L := by omega
  have nL : ¬ L = 0 := by omega
  have nB : ¬ B = 0 := by omega
  obtain ⟨U, hU⟩ : ∃ U, U = unitZ W (L + 1 - B) := ⟨_, rfl⟩
  obtain ⟨Q, hQ⟩ : ∃ Q : Int, Q = 1152921504606846976 / B := ⟨_, rfl⟩
  have f1 : (1152921504606846976 : Int).tdiv B = Q := by rw [Int.tdiv_eq_ediv_of_nonneg (by omega)]; exact hQ.symm
  have f0 : (1152921504606846976 : Int) / B = Q := hQ.symm
  have f2 : IntKind.i64.wrap Q = Q := by
    have h1 := Int.ediv_nonneg (show (0 : Int) ≤ 1152921504606846976 by omega) (show 0 ≤ B by omega)
    have h2 := Int.ediv_le_self B (show (0 : Int) ≤ 1152921504606846976 by omega)
    rw [IntKind.wrap_i64]; omega
  have CU := Lib.hid (fun w => unit_any L W B 1 1 1 1 1 false bL bW bB w)
  rw [← hU] at CU
  have CR := Lib.hid (fun w => show Calls Try.prog 10 #[ruV L W B 1 1 1 1 1 false] w (fun e w' => e = .returned (.bool (decide (U ≤ Q))) ∧ Below w.heap.size w w') from by
    by_cases hu : U ≤ Q
    · rw [decide_eq_true hu]
      exact (rr_any L W B 1 1 1 1 1 false w).1 ((small_rule bL bW bB).2 (by rw [← hU, ← hQ]; exact hu))
    · rw [decide_eq_false hu]
      exact (rr_any L W B 1 1 1 1 1 false w).2 (fun h => hu (by rw [hU, hQ]; exact (small_rule bL bW bB).1 h)))
  have C1 := Lib.hid (fun w => (rr_any L W 1 1 1 1 1 1 false w).1 (rule_one bL bW))
  clear hl hw hb hl0 hv0 hc0 hm hU hQ bW
  obtain ⟨dq, hdq⟩ : ∃ dq, decide (U ≤ Q) = dq := ⟨_, rfl⟩
  rw [hdq] at CR
  go_enter Try.func7, Try.ntmps7
  go_upto_region 4 with (go_at_call 9; ((with_reducible refine (fit_any _).mono ?_); rintro e w0 ⟨rfl, b0⟩; have B0 := Lib.hid b0; clear b0))
  obtain ⟨w1, hw1, hbk, hbl, hsz1⟩ := box_new w0 (ruC L W 0 1 1 1 1 1 false) 23
  change Code.wp _ _ _ _ (w0.alloc (.cells (ruC L W 0 1 1 1 1 1 false) 23))
  rw [hw1]
  obtain ⟨b0, hb0⟩ : ∃ b0, b0 = w0.heap.size := ⟨_, rfl⟩
  rw [← hb0] at hbk ⊢
  have BK := Lib.hid hbk
  have BL := Lib.hid (B0.out.trans (hbl.mono B0.out.size))
  have HB0 := Lib.hid (show w.heap.size ≤ b0 by have := B0.out.size; omega)
  clear hbl hsz1 hw1 hb0 B0
  have k0 := hbk.rd
  have q0 := hbk.wr
  clear hbk
  go_upto_region 5 with (fail)
  have BK3 := Lib.hid (show Blk (w1.setCell ⟨b0, 2, none⟩ (.int .i64 B)) b0 23 (ruC L W B 1 1 1 1 1 false) from by rw [setCell_obj BK.out]; exact setObj_at (lt_of_block BK.out) _)
  have BL3 := Lib.hid (show Below w.heap.size w (w1.setCell ⟨b0, 2, none⟩ (.int .i64 B)) from by
    rw [setCell_obj BK.out]
    exact BL.out.trans ((Fr.setObj (F := fun k => k = b0) (Fr.refl _ _) rfl _).below BL.out.size (fun k hk => by have := HB0.out; omega)))
  obtain ⟨w3, hw3⟩ : ∃ w3, w3 = w1.setCell ⟨b0, 2, none⟩ (.int .i64 B) := ⟨_, rfl⟩
  rw [← hw3] at BK3 BL3 ⊢
  clear k0 q0 hw3 BK BL
  have k3 := BK3.out.rd
  go_upto_region 6 with (go_at_call 22; ((with_reducible refine (CU.out _).mono ?_); rintro e w4 ⟨rfl, b4⟩; have BK4 := Lib.hid (BK3.out.keep b4); have BL4 := Lib.hid (BL3.out.trans (b4.mono BL3.out.size)); have k4 := BK4.out.rd; clear b4))
  clear k3
  have sq : (dq != dq) = false := by cases dq <;> rfl
  have y1 : ∀ i, w4.drew.cell? ⟨b0, i, none⟩ = (ruC L W B 1 1 1 1 1 false)[i]? := (Blk.drew BK4.out).rd
  have y3 : Below w4.heap.size w4 w4.drew := below_draws (Below.refl _ _) 1
  have GO := Lib.hid (fun (wx : World) (hx : Below w4.heap.size w4 wx) => show Calls Try.prog 10 #[ruV L W B 1 1 1 1 1 false] wx (fun e w' => e = .returned (.bool dq) ∧ (∀ i, w'.cell? ⟨b0, i, none⟩ = (ruC L W B 1 1 1 1 1 false)[i]?) ∧ Below w4.heap.size w4 w') from (CR.out wx).mono (fun e w' hh => ⟨hh.1, (BK4.out.keep (hx.trans (hh.2.mono hx.size))).rd, hx.trans (hh.2.mono hx.size)⟩))
  go_region_held3 (fun w' => (∀ i, w'.cell? ⟨b0, i, none⟩ = (ruC L W B 1 1 1 1 1 false)[i]?) ∧ Below w4.heap.size w4 w') (first | (refine ⟨?_, ?_⟩ <;> assumption) | go_keep)
    (first | (go_at_call 10; ((with_reducible refine (GO.out _ (by assumption)).mono ?_); rintro e w5 ⟨rfl, z0, z2⟩)))
  have BK5 := Lib.hid (BK4.out.keep z2)
  have BL5 := Lib.hid (BL4.out.trans (z2.mono BL4.out.size))
  clear k4 y1 y3 z0 z2 GO
  have k5 := BK5.out.rd
  have q5 := BK5.out.wr
  go_upto_region 9 with (fail)
  have BK6 := Lib.hid (show Blk (w5.setCell ⟨b0, 2, none⟩ (.int .i64 1)) b0 23 (ruC L W 1 1 1 1 1 1 false) from by rw [setCell_obj BK5.out]; exact setObj_at (lt_of_block BK5.out) _)
  have BL6 := Lib.hid (show Below w.heap.size w (w5.setCell ⟨b0, 2, none⟩ (.int .i64 1)) from by
    rw [setCell_obj BK5.out]
    exact BL5.out.trans ((Fr.setObj (F := fun k => k = b0) (Fr.refl _ _) rfl _).below BL5.out.size (fun k hk => by have := HB0.out; omega)))
  obtain ⟨w6, hw6⟩ : ∃ w6, w6 = w5.setCell ⟨b0, 2, none⟩ (.int .i64 1) := ⟨_, rfl⟩
  rw [← hw6] at BK6 BL6 ⊢
  clear k5 q5 hw6 BK5 BL5
  have k6 := BK6.out.rd
  go_wp2_with (go_at_call 10; ((with_reducible refine (C1.out _).mono ?_); rintro e w7 ⟨rfl, b7⟩; have BL7 := Lib.hid (BL6.out.trans (b7.mono BL6.out.size)); clear b7))
  go_ret
  exact ⟨rfl, BL7.out⟩
end Go.Proofs.Ytfpknklnbgmflaa
