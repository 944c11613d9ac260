import Derived.Test.YtannniobeanhlaaGreatZSvH
import Derived.Deep.CutBlock
/- The law ServerErrors of layer 18 (server), walked. -/
namespace Go.Proofs.YtannniobeanhlaaGreat
set_option linter.unusedSimpArgs false
set_option linter.unusedVariables false
set_option maxRecDepth 100000
open Go.ChangeShapes Go.WideShapes Go.ChangeAt Go.RowKit
set_option maxHeartbeats 8000000 in
theorem sverrors_law (w : World) (kd at_ now : Int) (hkd : -9223372036854775808 ≤ kd ∧ kd ≤ 9223372036854775807) (hat : -9223372036854775808 ≤ at_ ∧ at_ ≤ 9223372036854775807) (hnow : -9223372036854775808 ≤ now ∧ now ≤ 9223372036854775807) :
    Calls Tryz.prog 4 #[.int .i64 kd, .int .i64 at_, .int .i64 now] w fun e w' => e = .returned (.bool true) ∧ Below w.heap.size w w' := by
  clear hkd hat hnow
  go_enter Tryz.func4, Tryz.ntmps4
  go_upto_region 3 with (go_at_call 12; ((refine (svfit_any _).mono ?_); rintro e w1 ⟨rfl, b1⟩; have B1 := Lib.hid b1; clear b1))
  have CF := Lib.hid (svconf_x [] 660 none 0 0 0 rfl w1 (rdru_nil w1))
  go_upto_region 4 with (go_at_call 14; ((with_reducible refine CF.out.mono ?_); rintro e w2 ⟨A', m, c', rfl, r2, z2, b2⟩; obtain ⟨y1, y2, ey1, kr, kw, ey2, by2, ky2⟩ := box4K w2 (.int .i64 4294967296) (.int .i64 3) (.int .i64 660) (.slice A' m c'); have B2 := Lib.hid (show Below w.heap.size w y2 from (B1.out.trans (b2.mono B1.out.size)).trans (by2.mono (Nat.le_trans B1.out.size b2.size))); have R2 := Lib.hid (r2.below by2); have Z2 := Lib.hid z2; have C2 := Lib.hid ky2; have HW2 := Lib.hid (show w.heap.size ≤ w2.heap.size from Nat.le_trans B1.out.size b2.size); clear r2 z2 b2 by2 ky2))
  clear CF ey1 kr kw ey2
  obtain ⟨cb, hcb⟩ : ∃ z, z = w2.heap.size := ⟨_, rfl⟩
  rw [← hcb] at C2 HW2 ⊢
  clear hcb
  have kc := C2.out.rd
  obtain ⟨w3, hw3, k3, b3, s3⟩ := box_new y2 #[.int .u64 1] 69
  have CN := Lib.hid (svnew_sd (confR []) 4294967296 660 A' m c' (some ⟨y2.heap.size, 0, none⟩) 1 1 [1] (by omega) w3 (R2.out.below b3) (rd_blk (k := .u64) (zs := [1]) k3 rfl (by unfold maxLen; omega) (by intro z hz; rw [List.mem_singleton.1 hz]; rfl)) Z2.out)
  have C3 := Lib.hid (C2.out.keep b3)
  have B3 := Lib.hid (show Below w.heap.size w w3 from B2.out.trans (b3.mono B2.out.size))
  have HCB := Lib.hid (show cb < w3.heap.size from lt_of_block C3.out)
  clear k3 b3 s3
  go_upto_region 7 with (go_at_call 15; ((with_reducible refine CN.out.mono ?_); rintro e w4 ⟨s, c, Ns, Ks, rfl, h4, n4, o4, m4, R4, l4, p4, q4, b4⟩; have H4 := Lib.hid h4; have N4 := Lib.hid n4; have OK4 := Lib.hid (show SvOk c (confR []) 660 from ⟨o4, m4, by omega, conf_len [] |>.imp id (fun h => by omega), fun r hr => by obtain ⟨p, rfl⟩ := conf_mem [] r hr; exact planR_p p, fun i r hi j hj => by rw [R4, List.getElem?_append_left (by rw [ruL_len]; have := (List.getElem?_eq_some_iff.1 hi).1; omega)]; exact ruL_get _ hi hj⟩); have C4 := Lib.hid (C3.out.keep b4); have B4 := Lib.hid (show Below w.heap.size w w4 from B3.out.trans (b4.mono B3.out.size)); clear h4 n4 o4 m4 R4 l4 p4 q4 b4))
  clear CN kc hw3
  have CD := Lib.hid (sverr_do kd at_ now w B3.out.size w4 B4.out H4.out OK4.out N4.out rfl)
  obtain ⟨we, hwe⟩ : ∃ z, z = weZ kd at_ := ⟨_, rfl⟩
  rw [← hwe] at CD
  have HWE := Lib.hid hwe
  clear hwe
  go_upto_region 8 with (go_at_call 20; ((with_reducible refine CD.out.mono ?_); rintro e w5 ⟨rfl, ⟨c5, h5⟩, b5, z5, f5⟩; obtain ⟨y6, y7, ey6, kr6, kw6, ey7, by7, ky7⟩ := box4S w5 (.int .i64 we) (.int .i64 0) (.slice none 0 0) (.slice none 0 0); have H7 := Lib.hid (h5.keep by7); have C7 := Lib.hid (show Blk y7 cb 29 #[.int .i64 4294967296, .int .i64 3, .int .i64 660, .slice A' m c'] from Blk.keep (show Blk w5 cb _ _ from (f5 cb HCB.out).trans C4.out) by7); have X7 := Lib.hid ky7; have B7 := Lib.hid (show Below w.heap.size w y7 from b5.trans (by7.mono b5.size)); have HXB := Lib.hid (show cb < w5.heap.size ∧ w.heap.size ≤ w5.heap.size from ⟨by have := lt_of_block C4.out; omega, b5.size⟩); clear h5 b5 z5 f5 by7 ky7))
  clear CD ey6 kr6 kw6 ey7
  obtain ⟨xb, hxb⟩ : ∃ z, z = w5.heap.size := ⟨_, rfl⟩
  rw [← hxb] at X7 HXB ⊢
  clear hxb
  go_upto_block 0 with (fail)
  go_cut [11] from 15 to 112 (fun s11 wx => s11 = .int .i64 we ∧ wx = y7)
  case first =>
    have hwe := HWE.out
    unfold weZ at hwe
    by_cases h4 : kd = 4
    · have u4 : (kd == 4) = true := by simpa using h4
      rw [if_pos h4] at hwe
      subst hwe
      clear h4
      go_wp2
      go_meet
      case rel => exact ⟨rfl, rfl⟩
    have u4 : (kd == 4) = false := by simpa using h4
    rw [if_neg h4] at hwe
    by_cases h1 : kd < 0 ∨ 4 < kd ∨ at_ < 0 ∨ 2 < at_
    · rw [if_pos h1] at hwe
      subst hwe
      by_cases q1 : kd < 0
      · have d1 : decide (kd < 0) = true := by rw [decide_eq_true_iff]; exact q1
        clear h4 h1 q1
        go_wp2
        go_meet
        case rel => exact ⟨rfl, rfl⟩
      have d1 : decide (kd < 0) = false := by rw [decide_eq_false_iff_not]; exact q1
      by_cases q2 : 4 < kd
      · have d2 : decide (4 < kd) = true := by rw [decide_eq_true_iff]; exact q2
        clear h4 h1 q1 q2
        go_wp2
        go_meet
        case rel => exact ⟨rfl, rfl⟩
      have d2 : decide (4 < kd) = false := by rw [decide_eq_false_iff_not]; exact q2
      by_cases q3 : at_ < 0
      · have d3 : decide (at_ < 0) = true := by rw [decide_eq_true_iff]; exact q3
        clear h4 h1 q1 q2 q3
        go_wp2
        go_meet
        case rel => exact ⟨rfl, rfl⟩
      have d3 : decide (at_ < 0) = false := by rw [decide_eq_false_iff_not]; exact q3
      have d4 : decide (2 < at_) = true := by rw [decide_eq_true_iff]; omega
      clear h4 h1 q1 q2 q3
      go_wp2
      go_meet
      case rel => exact ⟨rfl, rfl⟩
    rw [if_neg h1] at hwe
    have d1 : decide (kd < 0) = false := by rw [decide_eq_false_iff_not]; omega
    have d2 : decide (4 < kd) = false := by rw [decide_eq_false_iff_not]; omega
    have d3 : decide (at_ < 0) = false := by rw [decide_eq_false_iff_not]; omega
    have d4 : decide (2 < at_) = false := by rw [decide_eq_false_iff_not]; omega
    by_cases h0 : kd = 0
    · have u0 : (kd != 0) = false := by simp [h0]
      rw [if_pos h0] at hwe
      subst hwe
      clear h4 h1 h0
      go_wp2
      go_meet
      case rel => exact ⟨rfl, rfl⟩
    · have u0 : (kd != 0) = true := by simp [h0]
      rw [if_neg h0] at hwe
      subst hwe
      clear h4 h1 h0
      go_wp2
      go_meet
      case rel => exact ⟨rfl, rfl⟩
  case rest =>
  obtain ⟨rfl, hwc⟩ := hcut
  subst hwc
  have kc := C7.out.rd
  have kcw := C7.out.wr
  obtain ⟨y8, e8, k8, f8⟩ := set4v C7.out (.slice none 0 0)
  have HCX := Lib.hid (show w.heap.size ≤ cb ∧ cb < xb ∧ ¬ cb = s from ⟨HW2.out, HXB.out.1, fun e => by have h1 := H4.out.lo; have h2 := HCB.out; omega⟩)
  have C8 := Lib.hid k8
  have H8 := Lib.hid (H7.out.fr f8 (fun e => HCX.out.2.2 e.symm))
  have X8 := Lib.hid (X7.out.fr f8 (fun e => by have := HCX.out; omega))
  have B8 := Lib.hid (show Below w.heap.size w y8 from B7.out.trans (f8.below B7.out.size (fun b e => by rw [e]; exact HCX.out.1)))
  clear k8 f8
  go_upto_region 15 with (fail)
  try rw [e8]
  clear e8 kc kcw
  have kc := C8.out.rd
  have CNo := Lib.hid (svnew_no [] 4294967296 3 660 none 0 0 (.slice none 0 0) y8 (rdru_nil y8) (fun h => by have := h.2.1.1; simp at this))
  go_upto_region 17 with (go_at_call 15; ((with_reducible refine CNo.out.mono ?_); rintro e w9 ⟨rfl, b9⟩; have H9 := Lib.hid (H8.out.keep b9); have X9 := Lib.hid (X8.out.keep b9); have B9 := Lib.hid (show Below w.heap.size w w9 from B8.out.trans (b9.mono B8.out.size)); clear b9))
  clear kc CNo
  obtain ⟨j0, hj0⟩ := H9.out.j0
  obtain ⟨mx, hmx⟩ : ∃ z, z = max 0 now := ⟨_, rfl⟩
  have CNw := Lib.hid (show Calls Tryz.prog 22 #[.pointer (some ⟨s, 0, none⟩)] w9 (fun e w' => e = .returned (.int .i64 mx) ∧ w9 = w') from by have h := svnow_any w9 H9.out.sv; rw [H9.out.now_, ← hmx] at h; exact h)
  have CDn := Lib.hid (fun wx => svdo_nil (.slice none 0 0) wx)
  have CC0 := Lib.hid (fun wx => svconn_nil 0 wx)
  have CR0 := Lib.hid (fun wx => svrule_nil 0 wx)
  have CC3 := Lib.hid (fun wx hx => show Calls Tryz.prog 23 #[.pointer (some ⟨s, 0, none⟩), .int .i64 3] wx (fun e w' => e = .returned (.pointer none) ∧ wx = w') from svconn_in (i := 3) (by omega) H9.out.k3 wx hx)
  have CCm := Lib.hid (fun wx => show Calls Tryz.prog 23 #[.pointer (some ⟨s, 0, none⟩), .int .i64 (-1)] wx (fun e w' => e = .returned (.pointer none) ∧ wx = w') from svconn_out (Or.inl (by omega)) wx)
  have CR1 := Lib.hid (fun wx hx => show Calls Tryz.prog 26 #[.pointer (some ⟨s, 0, none⟩), .int .i64 1] wx (fun e w' => e = .returned (.pointer none) ∧ wx = w') from svrule_in (i := 1) (by omega) H9.out.j1 wx hx)
  have CRs := Lib.hid (fun wx hx => show Calls Tryz.prog 26 #[.pointer (some ⟨s, 0, none⟩), .int .i64 0] wx (fun e w' => e = .returned (.pointer (some j0)) ∧ wx = w') from svrule_in (i := 0) (by omega) hj0 wx hx)
  have m1 : (if now < 0 then 0 else now) = mx := by rw [hmx]; split <;> omega
  have m2 : (if 0 < now then now else 0) = mx := by rw [hmx]; split <;> omega
  have m3 : (if now ≤ 0 then 0 else now) = mx := by rw [hmx]; split <;> omega
  have m4 : (if 0 ≤ now then now else 0) = mx := by rw [hmx]; split <;> omega
  have hfd := step_err 1
  have kx := X9.out.rd
  have ue : (we == we) = true := by simp
  have um : (mx == mx) = true := by simp
  clear hmx hj0
  go_wp2_with (first
    | (go_at_call 22; ((with_reducible refine CNw.out.mono ?_); rintro v wz ⟨rfl, rfl⟩))
    | (go_at_call 20; ((with_reducible refine (CDn.out _).mono ?_); rintro v wz ⟨rfl, bz⟩; have HZ := Lib.hid (H9.out.keep bz); have BZ := Lib.hid (show Below w.heap.size w wz from B9.out.trans (bz.mono B9.out.size)); clear bz))
    | (go_at_call 23; first
        | ((with_reducible refine (CC0.out _).mono ?_); rintro v wz ⟨rfl, rfl⟩)
        | ((with_reducible refine (CC3.out _ HZ.out.sv).mono ?_); rintro v wz ⟨rfl, rfl⟩)
        | ((with_reducible refine (CCm.out _).mono ?_); rintro v wz ⟨rfl, rfl⟩))
    | (go_at_call 26; first
        | ((with_reducible refine (CR0.out _).mono ?_); rintro v wz ⟨rfl, rfl⟩)
        | ((with_reducible refine (CR1.out _ HZ.out.sv).mono ?_); rintro v wz ⟨rfl, rfl⟩)
        | ((with_reducible refine (CRs.out _ HZ.out.sv).mono ?_); rintro v wz ⟨rfl, rfl⟩)))
  go_ret
  exact ⟨rfl, BZ.out⟩
end Go.Proofs.YtannniobeanhlaaGreat
