/- The contracts of layer 17 (config): the document's rules, part 5. -/
import Derived.Test.YtfpknklnbgmflaaCfB
namespace Go.Proofs.Ytfpknklnbgmflaa
set_option linter.unusedSimpArgs false
set_option linter.unusedVariables false
open Go.ChangeShapes Go.WideShapes Go.ChangeAt Go.RowKit
open Ar (inR)
set_option linter.unusedVariables false
set_option maxHeartbeats 4000000 in
set_option maxRecDepth 100000 in
theorem rl_t1 (L W B Sl Ce Ro Wi Tr : Int) (w : World) (u0 : decide (L < 1) = false) (v0 : decide (2147483648 < L) = false) (u1 : decide (W < 1) = false) (v1 : decide (1099511627776 < W) = false) (u2 : decide (B < 1) = false) (v2 : decide (L < B) = false) (u3 : decide (Sl < 1) = false) (v3 : decide (64 < Sl) = false) (hsl0 : ¬ Sl = 0) (em : W.tmod Sl = W % Sl) (tm : (W % Sl != 0) = false) (u5 : decide (Ce < 1) = false) (v5 : decide (1024 < Ce) = false) (u6 : decide (Ro < 1) = false) (v6 : decide (8 < Ro) = false) (u7 : decide (Wi < 1) = false) (v7 : decide (4096 < Wi) = false) (u8 : decide (Tr < 1) = false) (v8 : decide (64 < Tr) = false) (t2 : decide (Sl < 2) = false) (U Q : Int) (dq : Bool) (CU : Hid (∀ w : World, Calls Try.prog 22 #[ruV L W B Sl Ce Ro Wi Tr true] w fun e w' => e = .returned (.int .i64 U) ∧ Below w.heap.size w w')) (e1 : (1152921504606846976 : Int).tdiv B = Q) (e0 : (1152921504606846976 : Int) / B = Q) (e2 : IntKind.i64.wrap Q = Q) (nb : ¬ B = 0) (hdq : decide (U ≤ Q) = dq) : Calls Try.prog 11 #[ruV L W B Sl Ce Ro Wi Tr true] w fun e w' => e = .returned (.bool dq) ∧ Below w.heap.size w w' := by
  go_enter Try.func11, Try.ntmps11
  go_upto_region 1 with (fail)
  obtain ⟨w1, hw1, hbk, hbl, hsz1⟩ := box_new w (ruC L W B Sl Ce Ro Wi Tr true) 23
  change Code.wp _ _ _ _ (w.alloc (.cells (ruC L W B Sl Ce Ro Wi Tr true) 23))
  rw [hw1]
  obtain ⟨b0, hb0⟩ : ∃ b0, b0 = w.heap.size := ⟨_, rfl⟩
  rw [← hb0] at hbk ⊢
  have k0 := hbk.rd
  have BK := Lib.hid hbk
  have BL := Lib.hid hbl
  clear hbk hbl hsz1 hw1 hb0
  have hund : undef = Value.tuple #[] := rfl
  go_upto_region 3 with (fail)
  clear hund
  have y1 : ∀ i, w1.drew.cell? ⟨b0, i, none⟩ = (ruC L W B Sl Ce Ro Wi Tr true)[i]? := (Blk.drew BK.out).rd
  have y3 : Below w1.heap.size w1 w1.drew := below_draws (Below.refl _ _) 1
  have GO := Lib.hid (fun (wx : World) (hx : Below w1.heap.size w1 wx) => show Calls Try.prog 22 #[ruV L W B Sl Ce Ro Wi Tr true] wx (fun e w' => e = .returned (.int .i64 U) ∧ (∀ i, w'.cell? ⟨b0, i, none⟩ = (ruC L W B Sl Ce Ro Wi Tr true)[i]?) ∧ Below w1.heap.size w1 w') from (CU.out wx).mono (fun e w' hh => ⟨hh.1, (BK.out.keep (hx.trans (hh.2.mono hx.size))).rd, hx.trans (hh.2.mono hx.size)⟩))
  go_region_held3 (fun w' => (∀ i, w'.cell? ⟨b0, i, none⟩ = (ruC L W B Sl Ce Ro Wi Tr true)[i]?) ∧ Below w1.heap.size w1 w') (first | (refine ⟨?_, ?_⟩ <;> assumption) | go_keep)
    (first | (go_at_call 22; ((with_reducible refine (GO.out _ (by assumption)).mono ?_); rintro e w2 ⟨rfl, z0, z2⟩)))
  go_wp2
  go_ret
  exact ⟨by first | rfl | exact congrArg (fun z => Ending.returned (.bool z)) hdq, BL.out.trans (z2.mono BL.out.size)⟩
set_option maxHeartbeats 4000000 in
set_option maxRecDepth 100000 in
theorem rl_t0 (L W B Sl Ce Ro Wi Tr : Int) (w : World) (u0 : decide (L < 1) = false) (v0 : decide (2147483648 < L) = false) (u1 : decide (W < 1) = false) (v1 : decide (1099511627776 < W) = false) (u2 : decide (B < 1) = false) (v2 : decide (L < B) = false) (u3 : decide (Sl < 1) = false) (v3 : decide (64 < Sl) = false) (hsl0 : ¬ Sl = 0) (em : W.tmod Sl = W % Sl) (tm : (W % Sl != 0) = false) (u5 : decide (Ce < 1) = false) (v5 : decide (1024 < Ce) = false) (u6 : decide (Ro < 1) = false) (v6 : decide (8 < Ro) = false) (u7 : decide (Wi < 1) = false) (v7 : decide (4096 < Wi) = false) (u8 : decide (Tr < 1) = false) (v8 : decide (64 < Tr) = false) (U Q : Int) (dq : Bool) (CU : Hid (∀ w : World, Calls Try.prog 22 #[ruV L W B Sl Ce Ro Wi Tr false] w fun e w' => e = .returned (.int .i64 U) ∧ Below w.heap.size w w')) (e1 : (1152921504606846976 : Int).tdiv B = Q) (e0 : (1152921504606846976 : Int) / B = Q) (e2 : IntKind.i64.wrap Q = Q) (nb : ¬ B = 0) (hdq : decide (U ≤ Q) = dq) : Calls Try.prog 11 #[ruV L W B Sl Ce Ro Wi Tr false] w fun e w' => e = .returned (.bool dq) ∧ Below w.heap.size w w' := by
  go_enter Try.func11, Try.ntmps11
  go_upto_region 1 with (fail)
  obtain ⟨w1, hw1, hbk, hbl, hsz1⟩ := box_new w (ruC L W B Sl Ce Ro Wi Tr false) 23
  change Code.wp _ _ _ _ (w.alloc (.cells (ruC L W B Sl Ce Ro Wi Tr false) 23))
  rw [hw1]
  obtain ⟨b0, hb0⟩ : ∃ b0, b0 = w.heap.size := ⟨_, rfl⟩
  rw [← hb0] at hbk ⊢
  have k0 := hbk.rd
  have BK := Lib.hid hbk
  have BL := Lib.hid hbl
  clear hbk hbl hsz1 hw1 hb0
  have hund : undef = Value.tuple #[] := rfl
  go_upto_region 3 with (fail)
  clear hund
  have y1 : ∀ i, w1.drew.cell? ⟨b0, i, none⟩ = (ruC L W B Sl Ce Ro Wi Tr false)[i]? := (Blk.drew BK.out).rd
  have y3 : Below w1.heap.size w1 w1.drew := below_draws (Below.refl _ _) 1
  have GO := Lib.hid (fun (wx : World) (hx : Below w1.heap.size w1 wx) => show Calls Try.prog 22 #[ruV L W B Sl Ce Ro Wi Tr false] wx (fun e w' => e = .returned (.int .i64 U) ∧ (∀ i, w'.cell? ⟨b0, i, none⟩ = (ruC L W B Sl Ce Ro Wi Tr false)[i]?) ∧ Below w1.heap.size w1 w') from (CU.out wx).mono (fun e w' hh => ⟨hh.1, (BK.out.keep (hx.trans (hh.2.mono hx.size))).rd, hx.trans (hh.2.mono hx.size)⟩))
  go_region_held3 (fun w' => (∀ i, w'.cell? ⟨b0, i, none⟩ = (ruC L W B Sl Ce Ro Wi Tr false)[i]?) ∧ Below w1.heap.size w1 w') (first | (refine ⟨?_, ?_⟩ <;> assumption) | go_keep)
    (first | (go_at_call 22; ((with_reducible refine (GO.out _ (by assumption)).mono ?_); rintro e w2 ⟨rfl, z0, z2⟩)))
  go_wp2
  go_ret
  exact ⟨by first | rfl | exact congrArg (fun z => Ending.returned (.bool z)) hdq, BL.out.trans (z2.mono BL.out.size)⟩
end Go.Proofs.Ytfpknklnbgmflaa
