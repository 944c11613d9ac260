/- The contracts of layer 17 (config): how many bytes a rule takes. -/
import Derived.Test.YtfpknklnbgmflaaCfA
import Derived.Test.YtfpknklnbgmflaaArMul
namespace Go.Proofs.Ytfpknklnbgmflaa
set_option linter.unusedSimpArgs false
set_option linter.unusedVariables false
open Go.ChangeShapes Go.WideShapes Go.ChangeAt Go.RowKit
open Ar (inR)
theorem sum_x (a b s : Int) (ha : inR a) (hb : inR b) (h : a + b = s) (hs : inR s) (w : World) : Calls Try.prog 37 #[.int .i64 a, .int .i64 b] w fun e w' => e = .returned (.int .i64 s) ∧ w = w' := by
  have := sum_any a b ha hb w
  rw [h, show clamp s = s from by unfold inR at hs; unfold clamp; rw [if_neg (by omega), if_neg (by omega)]] at this
  exact this
theorem product_x (a b s : Int) (ha : inR a) (hb : inR b) (h : a * b = s) (hs : inR s) (w : World) : Calls Try.prog 36 #[.int .i64 a, .int .i64 b] w fun e w' => e = .returned (.int .i64 s) ∧ w = w' := by
  have := product_any a b ha hb w
  rw [h, show clamp s = s from by unfold inR at hs; unfold clamp; rw [if_neg (by omega), if_neg (by omega)]] at this
  exact this
theorem same_sym {f : Nat} {args : Array Value} {w : World} {v : Value} (h : Calls Try.prog f args w fun e w' => e = .returned v ∧ w = w') : Calls Try.prog f args w fun e w' => e = .returned v ∧ w' = w := h.mono fun _ _ h => ⟨h.1, h.2.symm⟩
theorem keysB_any (n : Int) (hn : 1 ≤ n ∧ n ≤ 4096) (w : World) : Calls Try.prog 34 #[.int .i64 n] w fun e w' => e = .returned (.int .i64 (69 * n)) ∧ w = w' := by
  go_enter Try.func34, Try.ntmps34
  go_wp2
  go_ret
  exact ⟨rfl, rfl⟩
theorem size_any (n : Int) (hn : 1 ≤ n ∧ n ≤ 4096) (w : World) : Calls Try.prog 40 #[.int .i64 n] w fun e w' => e = .returned (.int .i64 (2 * n + 1)) ∧ w = w' := by
  go_enter Try.func40, Try.ntmps40
  go_wp2
  go_ret
  exact ⟨rfl, rfl⟩
theorem indexB_any (n : Int) (hn : 1 ≤ n ∧ n ≤ 4096) (w : World) : Calls Try.prog 35 #[.int .i64 n] w fun e w' => e = .returned (.int .i64 (4 * (2 * n + 1))) ∧ w = w' := by
  go_enter Try.func35, Try.ntmps35
  go_wp2_with (go_at_call 40; ((with_reducible refine (size_any _ hn _).mono ?_); rintro e w' ⟨rfl, rfl⟩))
  go_ret
  exact ⟨ret_i (by first | rfl | omega), rfl⟩
theorem poolB_any (n : Int) (hn : 1 ≤ n ∧ n ≤ 4096) (w : World) : Calls Try.prog 25 #[.int .i64 n] w fun e w' => e = .returned (.int .i64 (69 * n + 4 * (2 * n + 1) + 32 * n)) ∧ w = w' := by
  go_enter Try.func25, Try.ntmps25
  go_wp2_with (first
    | (go_at_call 34; ((with_reducible refine (keysB_any _ hn _).mono ?_); rintro e w' ⟨rfl, rfl⟩))
    | (go_at_call 35; ((with_reducible refine (indexB_any _ hn _).mono ?_); rintro e w' ⟨rfl, rfl⟩)))
  go_ret
  exact ⟨ret_i (by first | rfl | omega), rfl⟩
theorem summaryB_any (n : Int) (hn : 1 ≤ n ∧ n ≤ 4096) (w : World) : Calls Try.prog 27 #[.int .i64 n] w fun e w' => e = .returned (.int .i64 (69 * n + 4 * (2 * n + 1) + 24 * n)) ∧ w = w' := by
  go_enter Try.func27, Try.ntmps27
  go_wp2_with (first
    | (go_at_call 34; ((with_reducible refine (keysB_any _ hn _).mono ?_); rintro e w' ⟨rfl, rfl⟩))
    | (go_at_call 35; ((with_reducible refine (indexB_any _ hn _).mono ?_); rintro e w' ⟨rfl, rfl⟩)))
  go_ret
  exact ⟨ret_i (by first | rfl | omega), rfl⟩
theorem slotB_any (ro wi p : Int) (h1 : 1 ≤ ro ∧ ro ≤ 8) (h2 : 1 ≤ wi ∧ wi ≤ 4096) (hp : ro * wi = p) (hpb : 1 ≤ p ∧ p ≤ 32768) (w : World) : Calls Try.prog 38 #[.int .i64 ro, .int .i64 wi] w fun e w' => e = .returned (.int .i64 (8 * p)) ∧ w = w' := by
  have C1 := Lib.hid (fun w => product_x ro wi p (by unfold inR; omega) (by unfold inR; omega) hp (by unfold inR; omega) w)
  have C2 := Lib.hid (fun w => product_x 8 p (8 * p) (by unfold inR; omega) (by unfold inR; omega) rfl (by unfold inR; omega) w)
  clear hp
  go_enter Try.func38, Try.ntmps38
  go_wp2_with (first
    | (go_at_call 36; ((with_reducible refine (C1.out _).mono ?_); rintro e w' ⟨rfl, rfl⟩))
    | (go_at_call 36; ((with_reducible refine (C2.out _).mono ?_); rintro e w' ⟨rfl, rfl⟩)))
  go_ret
  exact ⟨rfl, rfl⟩
/-- what a rule takes. -/
def bytesZ (Sl Ce Ro Wi Tr : Int) : Int := (69 * Ce + 4 * (2 * Ce + 1) + 32 * Ce) + (Sl + 1) * (16 + 8 * (Ro * Wi)) + (69 * Tr + 4 * (2 * Tr + 1) + 24 * Tr) + 24 * (Ro + 1)
theorem mul_bd {a b A B : Int} (h1 : 1 ≤ a ∧ a ≤ A) (h2 : 1 ≤ b ∧ b ≤ B) : 1 ≤ a * b ∧ a * b ≤ A * B := by
  constructor
  · have := Int.mul_le_mul h1.1 h2.1 (by omega) (by omega); omega
  · exact Int.mul_le_mul h1.2 h2.2 (by omega) (by omega)
set_option maxHeartbeats 2000000 in
theorem ringB_any (L W B Sl Ce Ro Wi Tr : Int) (sm : Bool) (p m : Int) (h3 : 1 ≤ Sl ∧ Sl ≤ 64) (h1 : 1 ≤ Ro ∧ Ro ≤ 8) (h2 : 1 ≤ Wi ∧ Wi ≤ 4096) (hp : Ro * Wi = p) (hpb : 1 ≤ p ∧ p ≤ 32768) (hm : (Sl + 1) * (16 + 8 * p) = m) (hmb : 1 ≤ m ∧ m ≤ 20000000) (w : World) :
    Calls Try.prog 26 #[ruV L W B Sl Ce Ro Wi Tr sm] w fun e w' => e = .returned (.int .i64 m) ∧ Below w.heap.size w w' := by
  have C1 := Lib.hid (fun w => same_sym (sum_x Sl 1 (Sl + 1) (by unfold inR; omega) (by unfold inR; omega) rfl (by unfold inR; omega) w))
  have C2 := Lib.hid (fun w => same_sym (slotB_any Ro Wi p h1 h2 hp hpb w))
  have C3 := Lib.hid (fun w => same_sym (sum_x 16 (8 * p) (16 + 8 * p) (by unfold inR; omega) (by unfold inR; omega) rfl (by unfold inR; omega) w))
  have C4 := Lib.hid (fun w => same_sym (product_x (Sl + 1) (16 + 8 * p) m (by unfold inR; omega) (by unfold inR; omega) hm (by unfold inR; omega) w))
  clear hp hm
  go_enter Try.func26, Try.ntmps26
  go_upto_region 1 with (fail)
  obtain ⟨w1, hw1, hbk, hbl, hsz1⟩ := box_new w (ruC L W B Sl Ce Ro Wi Tr sm) 23
  change Code.wp _ _ _ _ (w.alloc (.cells (ruC L W B Sl Ce Ro Wi Tr sm) 23))
  rw [hw1]
  obtain ⟨b0, hb0⟩ : ∃ b0, b0 = w.heap.size := ⟨_, rfl⟩
  rw [← hb0] at hbk ⊢
  have k0 := hbk.rd
  have BL := Lib.hid hbl
  clear hbk hbl hsz1 hw1 hb0
  go_quiet ((first
    | (go_at_call 37; (with_reducible exact Calls.quiet_of_same (C1.out _)))
    | (go_at_call 38; (with_reducible exact Calls.quiet_of_same (C2.out _)))
    | (go_at_call 37; (with_reducible exact Calls.quiet_of_same (C3.out _)))
    | (go_at_call 36; (with_reducible exact Calls.quiet_of_same (C4.out _)))))
  go_wp2
  go_ret
  exact ⟨rfl, below_draws BL.out _⟩
set_option maxHeartbeats 4000000 in
theorem limB_any (L W B Sl Ce Ro Wi Tr : Int) (sm : Bool) (h3 : 1 ≤ Sl ∧ Sl ≤ 64) (h1 : 1 ≤ Ro ∧ Ro ≤ 8) (h2 : 1 ≤ Wi ∧ Wi ≤ 4096) (h4 : 1 ≤ Ce ∧ Ce ≤ 1024) (h5 : 1 ≤ Tr ∧ Tr ≤ 64) (w : World) :
    Calls Try.prog 12 #[ruV L W B Sl Ce Ro Wi Tr sm] w fun e w' => e = .returned (.int .i64 (bytesZ Sl Ce Ro Wi Tr)) ∧ Below w.heap.size w w' := by
  obtain ⟨p, hp⟩ : ∃ p, Ro * Wi = p := ⟨_, rfl⟩
  have hpb : 1 ≤ p ∧ p ≤ 32768 := by rw [← hp]; exact mul_bd h1 h2
  obtain ⟨m, hm⟩ : ∃ m, (Sl + 1) * (16 + 8 * p) = m := ⟨_, rfl⟩
  have hmb : 1 ≤ m ∧ m ≤ 20000000 := by
    rw [← hm]
    have := mul_bd (a := Sl + 1) (b := 16 + 8 * p) (A := 65) (B := 262160) (by omega) (by omega)
    omega
  have HZ := Lib.hid (show bytesZ Sl Ce Ro Wi Tr = (69 * Ce + 4 * (2 * Ce + 1) + 32 * Ce) + m + (69 * Tr + 4 * (2 * Tr + 1) + 24 * Tr) + 24 * (Ro + 1) from by unfold bytesZ; rw [hp, hm])
  have CP := Lib.hid (fun w => poolB_any Ce (by omega) w)
  have CR := Lib.hid (fun w => ringB_any L W B Sl Ce Ro Wi Tr sm p m h3 h1 h2 hp hpb hm hmb w)
  have CS := Lib.hid (fun w => summaryB_any Tr (by omega) w)
  clear hp hm
  go_enter Try.func12, Try.ntmps12
  go_upto_region 1 with (fail)
  obtain ⟨w1, hw1, hbk, hbl, hsz1⟩ := box_new w (ruC L W B Sl Ce Ro Wi Tr sm) 23
  change Code.wp _ _ _ _ (w.alloc (.cells (ruC L W B Sl Ce Ro Wi Tr sm) 23))
  rw [hw1]
  obtain ⟨b0, hb0⟩ : ∃ b0, b0 = w.heap.size := ⟨_, rfl⟩
  rw [← hb0] at hbk ⊢
  have BK := Lib.hid hbk
  have BL := Lib.hid hbl
  clear hbk hbl hsz1 hw1 hb0
  have y1 : ∀ i, w1.drew.cell? ⟨b0, i, none⟩ = (ruC L W B Sl Ce Ro Wi Tr sm)[i]? := (Blk.drew BK.out).rd
  have y3 : Below w1.heap.size w1 w1.drew := below_draws (Below.refl _ _) 1
  have GP := Lib.hid (fun (wx : World) (hd : ∀ i, wx.cell? ⟨b0, i, none⟩ = (ruC L W B Sl Ce Ro Wi Tr sm)[i]?) (hx : Below w1.heap.size w1 wx) => show Calls Try.prog 25 #[.int .i64 Ce] wx (fun e w' => e = .returned (.int .i64 (69 * Ce + 4 * (2 * Ce + 1) + 32 * Ce)) ∧ (∀ i, w'.cell? ⟨b0, i, none⟩ = (ruC L W B Sl Ce Ro Wi Tr sm)[i]?) ∧ Below w1.heap.size w1 w') from (CP.out wx).mono (fun e w' hh => ⟨hh.1, by rw [← hh.2]; exact hd, by rw [← hh.2]; exact hx⟩))
  have GS := Lib.hid (fun (wx : World) (hd : ∀ i, wx.cell? ⟨b0, i, none⟩ = (ruC L W B Sl Ce Ro Wi Tr sm)[i]?) (hx : Below w1.heap.size w1 wx) => show Calls Try.prog 27 #[.int .i64 Tr] wx (fun e w' => e = .returned (.int .i64 (69 * Tr + 4 * (2 * Tr + 1) + 24 * Tr)) ∧ (∀ i, w'.cell? ⟨b0, i, none⟩ = (ruC L W B Sl Ce Ro Wi Tr sm)[i]?) ∧ Below w1.heap.size w1 w') from (CS.out wx).mono (fun e w' hh => ⟨hh.1, by rw [← hh.2]; exact hd, by rw [← hh.2]; exact hx⟩))
  have GR := Lib.hid (fun (wx : World) (hx : Below w1.heap.size w1 wx) => show Calls Try.prog 26 #[ruV L W B Sl Ce Ro Wi Tr sm] wx (fun e w' => e = .returned (.int .i64 m) ∧ (∀ i, w'.cell? ⟨b0, i, none⟩ = (ruC L W B Sl Ce Ro Wi Tr sm)[i]?) ∧ Below w1.heap.size w1 w') from (CR.out wx).mono (fun e w' hh => ⟨hh.1, (BK.out.keep (hx.trans (hh.2.mono hx.size))).rd, hx.trans (hh.2.mono hx.size)⟩))
  go_region_held3 (fun w' => (∀ i, w'.cell? ⟨b0, i, none⟩ = (ruC L W B Sl Ce Ro Wi Tr sm)[i]?) ∧ Below w1.heap.size w1 w') (first | (refine ⟨?_, ?_⟩ <;> assumption) | go_keep)
    (first
      | (go_at_call 25; ((with_reducible refine (GP.out _ (by assumption) (by assumption)).mono ?_); rintro e w2 ⟨rfl, z0, z2⟩; have Z2 := Lib.hid z2))
      | (go_at_call 26; ((with_reducible refine (GR.out _ (by assumption)).mono ?_); rintro e w3 ⟨rfl, z0, z2⟩; have Z3 := Lib.hid z2))
      | (go_at_call 27; ((with_reducible refine (GS.out _ (by assumption) (by assumption)).mono ?_); rintro e w4 ⟨rfl, z0, z2⟩; have Z4 := Lib.hid z2)))
  clear GP GS GR y1 y3
  go_wp2
  go_ret
  refine ⟨ret_i ?_, BL.out.trans (z2.mono BL.out.size)⟩
  rw [HZ.out]
  simp only [IntKind.wrap_i64]
  omega
set_option maxHeartbeats 4000000 in
theorem byB_any (L W B Sl Ce Ro Wi Tr : Int) (sm : Bool) (h3 : 1 ≤ Sl ∧ Sl ≤ 64) (h1 : 1 ≤ Ro ∧ Ro ≤ 8) (h2 : 1 ≤ Wi ∧ Wi ≤ 4096) (h4 : 1 ≤ Ce ∧ Ce ≤ 1024) (h5 : 1 ≤ Tr ∧ Tr ≤ 64) (w : World) :
    Calls Try.prog 13 #[ruV L W B Sl Ce Ro Wi Tr sm] w fun e w' => e = .returned (.int .i64 (bytesZ Sl Ce Ro Wi Tr)) ∧ Below w.heap.size w w' := by
  obtain ⟨p, hp⟩ : ∃ p, Ro * Wi = p := ⟨_, rfl⟩
  have hpb : 1 ≤ p ∧ p ≤ 32768 := by rw [← hp]; exact mul_bd h1 h2
  obtain ⟨m, hm⟩ : ∃ m, (Sl + 1) * (16 + 8 * p) = m := ⟨_, rfl⟩
  have hmb : 1 ≤ m ∧ m ≤ 20000000 := by
    rw [← hm]
    have := mul_bd (a := Sl + 1) (b := 16 + 8 * p) (A := 65) (B := 262160) (by omega) (by omega)
    omega
  have HZ := Lib.hid (show bytesZ Sl Ce Ro Wi Tr = (69 * Ce + 4 * (2 * Ce + 1) + 32 * Ce) + m + (69 * Tr + 4 * (2 * Tr + 1) + 24 * Tr) + 24 * (Ro + 1) from by unfold bytesZ; rw [hp, hm])
  have ew : IntKind.i64.wrap p = p := by rw [IntKind.wrap_i64]; omega
  go_enter Try.func13, Try.ntmps13
  go_upto_region 1 with (fail)
  obtain ⟨w1, hw1, hbk, hbl, hsz1⟩ := box_new w (ruC L W B Sl Ce Ro Wi Tr sm) 23
  change Code.wp _ _ _ _ (w.alloc (.cells (ruC L W B Sl Ce Ro Wi Tr sm) 23))
  rw [hw1]
  obtain ⟨b0, hb0⟩ : ∃ b0, b0 = w.heap.size := ⟨_, rfl⟩
  rw [← hb0] at hbk ⊢
  have k0 := hbk.rd
  have BL := Lib.hid hbl
  clear hbk hbl hsz1 hw1 hb0
  go_quiet (fail)
  go_wp2
  go_ret
  refine ⟨ret_i ?_, below_draws BL.out _⟩
  rw [HZ.out]
  first | omega | (simp only [IntKind.wrap_i64]; omega)
end Go.Proofs.Ytfpknklnbgmflaa
