/- The contracts of layer 17 (config): the document's rules, part 3. -/
import Derived.Test.YtfpknklnbgmflaaCfB
namespace Go.Proofs.Ytfpknklnbgmflaa
set_option linter.unusedSimpArgs false
set_option linter.unusedVariables false
open Go.ChangeShapes Go.WideShapes Go.ChangeAt Go.RowKit
open Ar (inR)
set_option linter.unusedVariables false
set_option maxHeartbeats 4000000 in
set_option maxRecDepth 100000 in
theorem rl_hi5 (L W B Sl Ce Ro Wi Tr : Int) (sm : Bool) (w : World) (u0 : decide (L < 1) = false) (v0 : decide (2147483648 < L) = false) (u1 : decide (W < 1) = false) (v1 : decide (1099511627776 < W) = false) (u2 : decide (B < 1) = false) (v2 : decide (L < B) = false) (u3 : decide (Sl < 1) = false) (v3 : decide (64 < Sl) = false) (hsl0 : ¬ Sl = 0) (em : W.tmod Sl = W % Sl) (tm : (W % Sl != 0) = false) (u5 : decide (Ce < 1) = false) (g : decide (1024 < Ce) = true) : Calls Try.prog 11 #[ruV L W B Sl Ce Ro Wi Tr sm] w fun e w' => e = .returned (.bool false) ∧ Below w.heap.size w w' := by
  go_enter Try.func11, Try.ntmps11
  go_upto_region 1 with (fail)
  obtain ⟨w1, hw1, hbk, hbl, hsz1⟩ := box_new w (ruC L W B Sl Ce Ro Wi Tr sm) 23
  change Code.wp _ _ _ _ (w.alloc (.cells (ruC L W B Sl Ce Ro Wi Tr sm) 23))
  rw [hw1]
  obtain ⟨b0, hb0⟩ : ∃ b0, b0 = w.heap.size := ⟨_, rfl⟩
  rw [← hb0] at hbk ⊢
  have k0 := hbk.rd
  have BK := Lib.hid hbk
  have BL := Lib.hid hbl
  clear hbk hbl hsz1 hw1 hb0
  have hund : undef = Value.tuple #[] := rfl
  go_wp2
  go_ret
  exact ⟨rfl, BL.out⟩
set_option maxHeartbeats 4000000 in
set_option maxRecDepth 100000 in
theorem rl_lo6 (L W B Sl Ce Ro Wi Tr : Int) (sm : Bool) (w : World) (u0 : decide (L < 1) = false) (v0 : decide (2147483648 < L) = false) (u1 : decide (W < 1) = false) (v1 : decide (1099511627776 < W) = false) (u2 : decide (B < 1) = false) (v2 : decide (L < B) = false) (u3 : decide (Sl < 1) = false) (v3 : decide (64 < Sl) = false) (hsl0 : ¬ Sl = 0) (em : W.tmod Sl = W % Sl) (tm : (W % Sl != 0) = false) (u5 : decide (Ce < 1) = false) (v5 : decide (1024 < Ce) = false) (g : decide (Ro < 1) = true) : Calls Try.prog 11 #[ruV L W B Sl Ce Ro Wi Tr sm] w fun e w' => e = .returned (.bool false) ∧ Below w.heap.size w w' := by
  go_enter Try.func11, Try.ntmps11
  go_upto_region 1 with (fail)
  obtain ⟨w1, hw1, hbk, hbl, hsz1⟩ := box_new w (ruC L W B Sl Ce Ro Wi Tr sm) 23
  change Code.wp _ _ _ _ (w.alloc (.cells (ruC L W B Sl Ce Ro Wi Tr sm) 23))
  rw [hw1]
  obtain ⟨b0, hb0⟩ : ∃ b0, b0 = w.heap.size := ⟨_, rfl⟩
  rw [← hb0] at hbk ⊢
  have k0 := hbk.rd
  have BK := Lib.hid hbk
  have BL := Lib.hid hbl
  clear hbk hbl hsz1 hw1 hb0
  have hund : undef = Value.tuple #[] := rfl
  go_wp2
  go_ret
  exact ⟨rfl, BL.out⟩
set_option maxHeartbeats 4000000 in
set_option maxRecDepth 100000 in
theorem rl_hi6 (L W B Sl Ce Ro Wi Tr : Int) (sm : Bool) (w : World) (u0 : decide (L < 1) = false) (v0 : decide (2147483648 < L) = false) (u1 : decide (W < 1) = false) (v1 : decide (1099511627776 < W) = false) (u2 : decide (B < 1) = false) (v2 : decide (L < B) = false) (u3 : decide (Sl < 1) = false) (v3 : decide (64 < Sl) = false) (hsl0 : ¬ Sl = 0) (em : W.tmod Sl = W % Sl) (tm : (W % Sl != 0) = false) (u5 : decide (Ce < 1) = false) (v5 : decide (1024 < Ce) = false) (u6 : decide (Ro < 1) = false) (g : decide (8 < Ro) = true) : Calls Try.prog 11 #[ruV L W B Sl Ce Ro Wi Tr sm] w fun e w' => e = .returned (.bool false) ∧ Below w.heap.size w w' := by
  go_enter Try.func11, Try.ntmps11
  go_upto_region 1 with (fail)
  obtain ⟨w1, hw1, hbk, hbl, hsz1⟩ := box_new w (ruC L W B Sl Ce Ro Wi Tr sm) 23
  change Code.wp _ _ _ _ (w.alloc (.cells (ruC L W B Sl Ce Ro Wi Tr sm) 23))
  rw [hw1]
  obtain ⟨b0, hb0⟩ : ∃ b0, b0 = w.heap.size := ⟨_, rfl⟩
  rw [← hb0] at hbk ⊢
  have k0 := hbk.rd
  have BK := Lib.hid hbk
  have BL := Lib.hid hbl
  clear hbk hbl hsz1 hw1 hb0
  have hund : undef = Value.tuple #[] := rfl
  go_wp2
  go_ret
  exact ⟨rfl, BL.out⟩
set_option maxHeartbeats 4000000 in
set_option maxRecDepth 100000 in
theorem rl_lo7 (L W B Sl Ce Ro Wi Tr : Int) (sm : Bool) (w : World) (u0 : decide (L < 1) = false) (v0 : decide (2147483648 < L) = false) (u1 : decide (W < 1) = false) (v1 : decide (1099511627776 < W) = false) (u2 : decide (B < 1) = false) (v2 : decide (L < B) = false) (u3 : decide (Sl < 1) = false) (v3 : decide (64 < Sl) = false) (hsl0 : ¬ Sl = 0) (em : W.tmod Sl = W % Sl) (tm : (W % Sl != 0) = false) (u5 : decide (Ce < 1) = false) (v5 : decide (1024 < Ce) = false) (u6 : decide (Ro < 1) = false) (v6 : decide (8 < Ro) = false) (g : decide (Wi < 1) = true) : Calls Try.prog 11 #[ruV L W B Sl Ce Ro Wi Tr sm] w fun e w' => e = .returned (.bool false) ∧ Below w.heap.size w w' := by
  go_enter Try.func11, Try.ntmps11
  go_upto_region 1 with (fail)
  obtain ⟨w1, hw1, hbk, hbl, hsz1⟩ := box_new w (ruC L W B Sl Ce Ro Wi Tr sm) 23
  change Code.wp _ _ _ _ (w.alloc (.cells (ruC L W B Sl Ce Ro Wi Tr sm) 23))
  rw [hw1]
  obtain ⟨b0, hb0⟩ : ∃ b0, b0 = w.heap.size := ⟨_, rfl⟩
  rw [← hb0] at hbk ⊢
  have k0 := hbk.rd
  have BK := Lib.hid hbk
  have BL := Lib.hid hbl
  clear hbk hbl hsz1 hw1 hb0
  have hund : undef = Value.tuple #[] := rfl
  go_wp2
  go_ret
  exact ⟨rfl, BL.out⟩
set_option maxHeartbeats 4000000 in
set_option maxRecDepth 100000 in
theorem rl_hi7 (L W B Sl Ce Ro Wi Tr : Int) (sm : Bool) (w : World) (u0 : decide (L < 1) = false) (v0 : decide (2147483648 < L) = false) (u1 : decide (W < 1) = false) (v1 : decide (1099511627776 < W) = false) (u2 : decide (B < 1) = false) (v2 : decide (L < B) = false) (u3 : decide (Sl < 1) = false) (v3 : decide (64 < Sl) = false) (hsl0 : ¬ Sl = 0) (em : W.tmod Sl = W % Sl) (tm : (W % Sl != 0) = false) (u5 : decide (Ce < 1) = false) (v5 : decide (1024 < Ce) = false) (u6 : decide (Ro < 1) = false) (v6 : decide (8 < Ro) = false) (u7 : decide (Wi < 1) = false) (g : decide (4096 < Wi) = true) : Calls Try.prog 11 #[ruV L W B Sl Ce Ro Wi Tr sm] w fun e w' => e = .returned (.bool false) ∧ Below w.heap.size w w' := by
  go_enter Try.func11, Try.ntmps11
  go_upto_region 1 with (fail)
  obtain ⟨w1, hw1, hbk, hbl, hsz1⟩ := box_new w (ruC L W B Sl Ce Ro Wi Tr sm) 23
  change Code.wp _ _ _ _ (w.alloc (.cells (ruC L W B Sl Ce Ro Wi Tr sm) 23))
  rw [hw1]
  obtain ⟨b0, hb0⟩ : ∃ b0, b0 = w.heap.size := ⟨_, rfl⟩
  rw [← hb0] at hbk ⊢
  have k0 := hbk.rd
  have BK := Lib.hid hbk
  have BL := Lib.hid hbl
  clear hbk hbl hsz1 hw1 hb0
  have hund : undef = Value.tuple #[] := rfl
  go_wp2
  go_ret
  exact ⟨rfl, BL.out⟩
end Go.Proofs.Ytfpknklnbgmflaa
