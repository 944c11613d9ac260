/- The law SummaryEpochs of layer 8, walked. -/
import Derived.Test.YtnpiimaapholiaaSmT
import Derived.Test.YtnpiimaapholiaaBits
namespace Go.Proofs.Ytnpiimaapholiaa
set_option linter.unusedSimpArgs false
set_option linter.unusedVariables false
open Go.ChangeShapes Go.WideShapes Go.ChangeAt Go.RowKit
theorem smtop_nil (k : Int) (w : World) : Calls Try.prog 23 #[.pointer none, .int .i64 k] w fun e w' => e = .returned (.slice none 0 0) ∧ Below w.heap.size w w' := by
  go_enter Try.func23, Try.ntmps23
  go_wp2
  go_ret
  exact ⟨rfl, (Below.refl _ _).alloc (Nat.le_refl _) _⟩
set_option maxRecDepth 100000 in
set_option maxHeartbeats 4000000 in
theorem smepochs_law (w : World) (a0 b0 : Int) (ha0 : -9223372036854775808 ≤ a0 ∧ a0 ≤ 9223372036854775807) (hb0 : -9223372036854775808 ≤ b0 ∧ b0 ≤ 9223372036854775807) :
    Calls Try.prog 6 #[.int .i64 a0, .int .i64 b0] w fun e w' => e = .returned (.bool true) ∧ Below w.heap.size w w' := by
  obtain ⟨a, ha⟩ : ∃ a, a = a0 % 4611686018427387904 := ⟨_, rfl⟩
  obtain ⟨b, hb⟩ : ∃ b, b = b0 % 4611686018427387904 := ⟨_, rfl⟩
  have m1 : bits .and .i64 a0 4611686018427387903 = a := by rw [ha]; exact i64_mask62 a0
  have m2 : bits .and .i64 b0 4611686018427387903 = b := by rw [hb]; exact i64_mask62 b0
  have HAB := Lib.hid (show (0 ≤ a ∧ a < 4611686018427387904) ∧ (0 ≤ b ∧ b < 4611686018427387904) by omega)
  clear ha hb ha0 hb0
  go_enter Try.func6, Try.ntmps6
  go_upto_region 3 with (go_at_call 11; ((refine (smfit_any _).mono ?_); rintro e w3 ⟨rfl, b3⟩; have B3 := Lib.hid b3; clear b3))
  obtain ⟨X, hX⟩ : ∃ x, x = dX 1 2 3 := ⟨_, rfl⟩
  obtain ⟨Y, hY⟩ : ∃ x, x = dA 1 2 3 := ⟨_, rfl⟩
  obtain ⟨Z, hZ⟩ : ∃ x, x = dB 1 2 3 := ⟨_, rfl⟩
  have hl := d_lt 1 2 3
  have CR := Lib.hid (fun wx => show Calls Try.prog 14 #[.agg #[.int .u64 1, .int .u64 2, .int .u64 3]] wx _ from smrow_any 1 2 3 (by omega) (by omega) (by omega) wx)
  rw [← hX, ← hY, ← hZ] at CR hl
  have CN := Lib.hid (fun wx (hb : Below w.heap.size w wx) => show Calls Try.prog 13 #[.int .i64 2, .agg #[.int .u64 X, .int .u64 Y, .int .u64 Z]] wx _ from smnewM (W := w) X Y Z hl.1 hl.2.1 hl.2.2 2 (by omega) (by omega) hb)
  clear hX hY hZ hl
  go_upto_region 5 with (first
    | (go_at_call 14; ((with_reducible refine (CR.out _).mono ?_); rintro e w4 ⟨rfl, b4⟩; have B4 := Lib.hid (G.below_on B3.out b4); clear b4))
    | (go_at_call 13; ((with_reducible refine (CN.out _ B4.out).mono ?_); rintro e w5 ⟨Q, rfl, h5, hn5⟩; have H5 := Lib.hid h5; have HN := Lib.hid hn5; clear h5 hn5)))
  have c1 := smoffer_any sX (by decide) a w5 H5.out.at_
  have C1 := Lib.hid c1
  clear c1
  go_upto_region 6 with (go_at_call 15; ((with_reducible refine C1.out.mono ?_); rintro e w6 ⟨rfl, h6, f6⟩; have H6 := Lib.hid (H5.out.step h6 f6); clear h6 f6))
  have C2 := Lib.hid (smoffer_any sY (by decide) b w6 H6.out.at_)
  go_upto_region 7 with (go_at_call 15; ((with_reducible refine C2.out.mono ?_); rintro e w7 ⟨rfl, h7, f7⟩; have H7 := Lib.hid (H6.out.step h7 f7); clear h7 f7))
  rw [HN.out] at H7
  have H7 : Hid (SmB w w7 Q (twoM a b).1 (twoM a b).2) := H7
  have HT := Lib.hid (two_tells a b HAB.out.1 HAB.out.2)
  have CR0 := Lib.hid (fun wx => show Calls Try.prog 14 #[.agg #[.int .u64 0, .int .u64 0, .int .u64 0]] wx _ from smrow_any 0 0 0 (by omega) (by omega) (by omega) wx)
  have CN0 := Lib.hid (fun wx v hv => smnew_no 0 (by omega) v hv wx)
  have CN1 := Lib.hid (fun wx v hv => smnew_no 65 (by omega) v hv wx)
  have CO0 := Lib.hid (fun wx => smoffer_nil ⟨#[97]⟩ 1 wx)
  have CC0 := Lib.hid (fun wx => smclear_nil wx)
  have CT0 := Lib.hid (fun wx => smtotal_nil wx)
  have CL0 := Lib.hid (fun wx => smlen_nil wx)
  have CP0 := Lib.hid (fun wx => smtop_nil 1 wx)
  have CE0 := Lib.hid (fun wx => smleast_nil wx)
  clear CR CN C1 C2
  obtain ⟨P, hP⟩ : ∃ P, P = twoM a b := ⟨_, rfl⟩
  rw [← hP] at H7 HT
  obtain ⟨M, T⟩ := P
  have hab := HAB.out
  clear hP m1 m2
  obtain ⟨e, he⟩ : ∃ e, e = 4611686018427387904 - b := ⟨_, rfl⟩
  have e1 : IntKind.i64.wrap (4611686018427387904 - b) = e := by rw [IntKind.wrap_i64]; omega
  obtain ⟨u, hu⟩ : ∃ u, u = a + b := ⟨_, rfl⟩
  have e2 : IntKind.i64.wrap (a + b) = u := by rw [IntKind.wrap_i64]; omega
  have z1 : (a == a) = true := by simp
  have z2 : (b != b) = false := by simp
  have z3 : (b == b) = true := by simp
  have z4 : (u == u) = true := by simp
  rcases HT.out with ⟨q1, q2, tX, tY, tT⟩ | ⟨q1, q2, tX, tY, tT⟩ | ⟨q1, q2, tX, tY, tT⟩ | ⟨q1, q2, q3, tX, tY, tT, tL⟩ | ⟨q1, q2, q3, tX, tY, tT⟩
  · as_aux_lemma =>
      change tellM M sX = _ at tX
      change tellM M sY = _ at tY
      change T = _ at tT
      have hTT : T = u := by omega
      rw [hTT] at H7
      have CX := Lib.hid (show Calls Try.prog 21 #[.pointer (some ⟨Q.s, 0, none⟩), .string sX] w7 (fun e w' => e = .returned (.tuple #[.int .i64 0, .int .i64 0, .bool false]) ∧ Below w7.heap.size w7 w') from by
        have := smcountM_any sX (by decide) w7 H7.out.at_
        rw [show tellM (M, T).1 sX = (0, 0, false) from tX] at this
        exact this)
      have CY := Lib.hid (fun wx (h : SmB w wx Q M u) => show Calls Try.prog 21 #[.pointer (some ⟨Q.s, 0, none⟩), .string sY] wx (fun e w' => e = .returned (.tuple #[.int .i64 0, .int .i64 0, .bool false]) ∧ Below wx.heap.size wx w') from by
        have := smcountM_any sY (by decide) wx h.at_
        rw [show tellM M sY = (0, 0, false) from tY] at this
        exact this)
      have CT := Lib.hid (fun wx (h : SmB w wx Q M u) => smtotalM wx h.at_)
      have p1 : ¬ 0 < a := by omega
      have d1 : decide ((0 : Int) < a) = false := by rw [decide_eq_false_iff_not]; omega
      have d0 : ((0 : Int) == a) = true := by rw [beq_iff_eq]; omega
      have p2 : ¬ 0 < b := by omega
      have d2 : decide ((0 : Int) < b) = false := by rw [decide_eq_false_iff_not]; omega
      clear tX tY tT hTT he hu hab q1 q2
      go_wp2_with (first
        | (go_at_call 21; first
          | ((with_reducible refine CX.out.mono ?_); rintro e' w8 ⟨rfl, b8⟩; have H8 := Lib.hid (H7.out.keep b8); clear b8)
          | ((with_reducible refine (CY.out _ H8.out).mono ?_); rintro e' w9 ⟨rfl, b9⟩; have H9 := Lib.hid (H8.out.keep b9); clear b9))
        | (go_at_call 19; first
          | ((with_reducible refine (CT.out _ H9.out).mono ?_); rintro e' wx ⟨rfl, rfl⟩)
          | ((with_reducible refine (CT0.out _).mono ?_); rintro e' wx ⟨rfl, rfl⟩))
        | (go_at_call 18; first
          | ((with_reducible refine (CL.out _ H9.out).mono ?_); rintro e' wx ⟨rfl, rfl⟩)
          | ((with_reducible refine (CL0.out _).mono ?_); rintro e' wx ⟨rfl, rfl⟩))
        | (go_at_call 15; ((with_reducible refine (CO0.out _).mono ?_); rintro e' wx ⟨rfl, rfl⟩))
        | (go_at_call 22; ((with_reducible refine (CC0.out _).mono ?_); rintro e' wx ⟨rfl, rfl⟩))
        | (go_at_call 23; ((with_reducible refine (CP0.out _).mono ?_); rintro e' w10 ⟨rfl, b10⟩; have B10 := Lib.hid (G.below_on H9.out.bl b10); clear b10))
        | (go_at_call 20; ((with_reducible refine (CE0.out _).mono ?_); rintro e' w11 ⟨rfl, b11⟩; have B11 := Lib.hid (G.below_on B10.out b11); clear b11))
        | (go_at_call 14; first
          | ((with_reducible refine (CR0.out _).mono ?_); rintro e' w14 ⟨rfl, b14⟩; have B14 := Lib.hid (G.below_on B13.out b14); clear b14)
          | ((with_reducible refine (CR0.out _).mono ?_); rintro e' w12 ⟨rfl, b12⟩; have B12 := Lib.hid (G.below_on B11.out b12); clear b12))
        | (go_at_call 13; first
          | ((with_reducible refine (CN0.out _ _ ⟨_, _, _, rfl⟩).mono ?_); rintro e' w13 ⟨rfl, b13⟩; have B13 := Lib.hid (G.below_on B12.out b13); clear b13)
          | ((with_reducible refine (CN1.out _ _ ⟨_, _, _, rfl⟩).mono ?_); rintro e' w15 ⟨rfl, b15⟩; have B15 := Lib.hid (G.below_on B14.out b15); clear b15)))
      go_ret
      exact ⟨rfl, B15.out⟩
  · as_aux_lemma =>
      change tellM M sX = _ at tX
      change tellM M sY = _ at tY
      change T = _ at tT
      have hTT : T = u := by omega
      rw [hTT] at H7
      have CX := Lib.hid (show Calls Try.prog 21 #[.pointer (some ⟨Q.s, 0, none⟩), .string sX] w7 (fun e w' => e = .returned (.tuple #[.int .i64 0, .int .i64 0, .bool false]) ∧ Below w7.heap.size w7 w') from by
        have := smcountM_any sX (by decide) w7 H7.out.at_
        rw [show tellM (M, T).1 sX = (0, 0, false) from tX] at this
        exact this)
      have CY := Lib.hid (fun wx (h : SmB w wx Q M u) => show Calls Try.prog 21 #[.pointer (some ⟨Q.s, 0, none⟩), .string sY] wx (fun e w' => e = .returned (.tuple #[.int .i64 b, .int .i64 0, .bool true]) ∧ Below wx.heap.size wx w') from by
        have := smcountM_any sY (by decide) wx h.at_
        rw [show tellM M sY = (b, 0, true) from tY] at this
        exact this)
      have CT := Lib.hid (fun wx (h : SmB w wx Q M u) => smtotalM wx h.at_)
      have p1 : ¬ 0 < a := by omega
      have d1 : decide ((0 : Int) < a) = false := by rw [decide_eq_false_iff_not]; omega
      have d0 : ((0 : Int) == a) = true := by rw [beq_iff_eq]; omega
      have p2 : 0 < b := by omega
      have d2 : decide ((0 : Int) < b) = true := by rw [decide_eq_true_iff]; omega
      clear tX tY tT hTT he hu hab q1 q2
      go_wp2_with (first
        | (go_at_call 21; first
          | ((with_reducible refine CX.out.mono ?_); rintro e' w8 ⟨rfl, b8⟩; have H8 := Lib.hid (H7.out.keep b8); clear b8)
          | ((with_reducible refine (CY.out _ H8.out).mono ?_); rintro e' w9 ⟨rfl, b9⟩; have H9 := Lib.hid (H8.out.keep b9); clear b9))
        | (go_at_call 19; first
          | ((with_reducible refine (CT.out _ H9.out).mono ?_); rintro e' wx ⟨rfl, rfl⟩)
          | ((with_reducible refine (CT0.out _).mono ?_); rintro e' wx ⟨rfl, rfl⟩))
        | (go_at_call 18; first
          | ((with_reducible refine (CL.out _ H9.out).mono ?_); rintro e' wx ⟨rfl, rfl⟩)
          | ((with_reducible refine (CL0.out _).mono ?_); rintro e' wx ⟨rfl, rfl⟩))
        | (go_at_call 15; ((with_reducible refine (CO0.out _).mono ?_); rintro e' wx ⟨rfl, rfl⟩))
        | (go_at_call 22; ((with_reducible refine (CC0.out _).mono ?_); rintro e' wx ⟨rfl, rfl⟩))
        | (go_at_call 23; ((with_reducible refine (CP0.out _).mono ?_); rintro e' w10 ⟨rfl, b10⟩; have B10 := Lib.hid (G.below_on H9.out.bl b10); clear b10))
        | (go_at_call 20; ((with_reducible refine (CE0.out _).mono ?_); rintro e' w11 ⟨rfl, b11⟩; have B11 := Lib.hid (G.below_on B10.out b11); clear b11))
        | (go_at_call 14; first
          | ((with_reducible refine (CR0.out _).mono ?_); rintro e' w14 ⟨rfl, b14⟩; have B14 := Lib.hid (G.below_on B13.out b14); clear b14)
          | ((with_reducible refine (CR0.out _).mono ?_); rintro e' w12 ⟨rfl, b12⟩; have B12 := Lib.hid (G.below_on B11.out b12); clear b12))
        | (go_at_call 13; first
          | ((with_reducible refine (CN0.out _ _ ⟨_, _, _, rfl⟩).mono ?_); rintro e' w13 ⟨rfl, b13⟩; have B13 := Lib.hid (G.below_on B12.out b13); clear b13)
          | ((with_reducible refine (CN1.out _ _ ⟨_, _, _, rfl⟩).mono ?_); rintro e' w15 ⟨rfl, b15⟩; have B15 := Lib.hid (G.below_on B14.out b15); clear b15)))
      go_ret
      exact ⟨rfl, B15.out⟩
  · as_aux_lemma =>
      change tellM M sX = _ at tX
      change tellM M sY = _ at tY
      change T = _ at tT
      have hTT : T = u := by omega
      rw [hTT] at H7
      have CX := Lib.hid (show Calls Try.prog 21 #[.pointer (some ⟨Q.s, 0, none⟩), .string sX] w7 (fun e w' => e = .returned (.tuple #[.int .i64 a, .int .i64 0, .bool true]) ∧ Below w7.heap.size w7 w') from by
        have := smcountM_any sX (by decide) w7 H7.out.at_
        rw [show tellM (M, T).1 sX = (a, 0, true) from tX] at this
        exact this)
      have CY := Lib.hid (fun wx (h : SmB w wx Q M u) => show Calls Try.prog 21 #[.pointer (some ⟨Q.s, 0, none⟩), .string sY] wx (fun e w' => e = .returned (.tuple #[.int .i64 0, .int .i64 0, .bool false]) ∧ Below wx.heap.size wx w') from by
        have := smcountM_any sY (by decide) wx h.at_
        rw [show tellM M sY = (0, 0, false) from tY] at this
        exact this)
      have CT := Lib.hid (fun wx (h : SmB w wx Q M u) => smtotalM wx h.at_)
      have p1 : 0 < a := by omega
      have d1 : decide ((0 : Int) < a) = true := by rw [decide_eq_true_iff]; omega
      have p2 : ¬ 0 < b := by omega
      have d2 : decide ((0 : Int) < b) = false := by rw [decide_eq_false_iff_not]; omega
      clear tX tY tT hTT he hu hab q1 q2
      go_wp2_with (first
        | (go_at_call 21; first
          | ((with_reducible refine CX.out.mono ?_); rintro e' w8 ⟨rfl, b8⟩; have H8 := Lib.hid (H7.out.keep b8); clear b8)
          | ((with_reducible refine (CY.out _ H8.out).mono ?_); rintro e' w9 ⟨rfl, b9⟩; have H9 := Lib.hid (H8.out.keep b9); clear b9))
        | (go_at_call 19; first
          | ((with_reducible refine (CT.out _ H9.out).mono ?_); rintro e' wx ⟨rfl, rfl⟩)
          | ((with_reducible refine (CT0.out _).mono ?_); rintro e' wx ⟨rfl, rfl⟩))
        | (go_at_call 18; first
          | ((with_reducible refine (CL.out _ H9.out).mono ?_); rintro e' wx ⟨rfl, rfl⟩)
          | ((with_reducible refine (CL0.out _).mono ?_); rintro e' wx ⟨rfl, rfl⟩))
        | (go_at_call 15; ((with_reducible refine (CO0.out _).mono ?_); rintro e' wx ⟨rfl, rfl⟩))
        | (go_at_call 22; ((with_reducible refine (CC0.out _).mono ?_); rintro e' wx ⟨rfl, rfl⟩))
        | (go_at_call 23; ((with_reducible refine (CP0.out _).mono ?_); rintro e' w10 ⟨rfl, b10⟩; have B10 := Lib.hid (G.below_on H9.out.bl b10); clear b10))
        | (go_at_call 20; ((with_reducible refine (CE0.out _).mono ?_); rintro e' w11 ⟨rfl, b11⟩; have B11 := Lib.hid (G.below_on B10.out b11); clear b11))
        | (go_at_call 14; first
          | ((with_reducible refine (CR0.out _).mono ?_); rintro e' w14 ⟨rfl, b14⟩; have B14 := Lib.hid (G.below_on B13.out b14); clear b14)
          | ((with_reducible refine (CR0.out _).mono ?_); rintro e' w12 ⟨rfl, b12⟩; have B12 := Lib.hid (G.below_on B11.out b12); clear b12))
        | (go_at_call 13; first
          | ((with_reducible refine (CN0.out _ _ ⟨_, _, _, rfl⟩).mono ?_); rintro e' w13 ⟨rfl, b13⟩; have B13 := Lib.hid (G.below_on B12.out b13); clear b13)
          | ((with_reducible refine (CN1.out _ _ ⟨_, _, _, rfl⟩).mono ?_); rintro e' w15 ⟨rfl, b15⟩; have B15 := Lib.hid (G.below_on B14.out b15); clear b15)))
      go_ret
      exact ⟨rfl, B15.out⟩
  · as_aux_lemma =>
      change tellM M sX = _ at tX
      change tellM M sY = _ at tY
      change T = _ at tT
      have hTT : T = b := by omega
      rw [hTT] at H7
      have CX := Lib.hid (show Calls Try.prog 21 #[.pointer (some ⟨Q.s, 0, none⟩), .string sX] w7 (fun e w' => e = .returned (.tuple #[.int .i64 0, .int .i64 0, .bool false]) ∧ Below w7.heap.size w7 w') from by
        have := smcountM_any sX (by decide) w7 H7.out.at_
        rw [show tellM (M, T).1 sX = (0, 0, false) from tX] at this
        exact this)
      have CY := Lib.hid (fun wx (h : SmB w wx Q M b) => show Calls Try.prog 21 #[.pointer (some ⟨Q.s, 0, none⟩), .string sY] wx (fun e w' => e = .returned (.tuple #[.int .i64 b, .int .i64 0, .bool true]) ∧ Below wx.heap.size wx w') from by
        have := smcountM_any sY (by decide) wx h.at_
        rw [show tellM M sY = (b, 0, true) from tY] at this
        exact this)
      have CT := Lib.hid (fun wx (h : SmB w wx Q M b) => smtotalM wx h.at_)
      have CL := Lib.hid (fun wx (h : SmB w wx Q M b) => show Calls Try.prog 18 #[.pointer (some ⟨Q.s, 0, none⟩)] wx (fun e w' => e = .returned (.int .i64 1) ∧ wx = w') from by
        have := smlenM wx h.at_
        rw [show M.length = 1 from tL] at this
        exact this)
      have p1 : 0 < a := by omega
      have d1 : decide ((0 : Int) < a) = true := by rw [decide_eq_true_iff]; omega
      have p2 : 0 < b := by omega
      have d2 : decide ((0 : Int) < b) = true := by rw [decide_eq_true_iff]; omega
      have p3 : e ≤ a := by omega
      have d3 : decide (e ≤ a) = true := by rw [decide_eq_true_iff]; omega
      clear tX tY tT hTT he hu hab q1 q2 q3 tL
      go_wp2_with (first
        | (go_at_call 21; first
          | ((with_reducible refine CX.out.mono ?_); rintro e' w8 ⟨rfl, b8⟩; have H8 := Lib.hid (H7.out.keep b8); clear b8)
          | ((with_reducible refine (CY.out _ H8.out).mono ?_); rintro e' w9 ⟨rfl, b9⟩; have H9 := Lib.hid (H8.out.keep b9); clear b9))
        | (go_at_call 19; first
          | ((with_reducible refine (CT.out _ H9.out).mono ?_); rintro e' wx ⟨rfl, rfl⟩)
          | ((with_reducible refine (CT0.out _).mono ?_); rintro e' wx ⟨rfl, rfl⟩))
        | (go_at_call 18; first
          | ((with_reducible refine (CL.out _ H9.out).mono ?_); rintro e' wx ⟨rfl, rfl⟩)
          | ((with_reducible refine (CL0.out _).mono ?_); rintro e' wx ⟨rfl, rfl⟩))
        | (go_at_call 15; ((with_reducible refine (CO0.out _).mono ?_); rintro e' wx ⟨rfl, rfl⟩))
        | (go_at_call 22; ((with_reducible refine (CC0.out _).mono ?_); rintro e' wx ⟨rfl, rfl⟩))
        | (go_at_call 23; ((with_reducible refine (CP0.out _).mono ?_); rintro e' w10 ⟨rfl, b10⟩; have B10 := Lib.hid (G.below_on H9.out.bl b10); clear b10))
        | (go_at_call 20; ((with_reducible refine (CE0.out _).mono ?_); rintro e' w11 ⟨rfl, b11⟩; have B11 := Lib.hid (G.below_on B10.out b11); clear b11))
        | (go_at_call 14; first
          | ((with_reducible refine (CR0.out _).mono ?_); rintro e' w14 ⟨rfl, b14⟩; have B14 := Lib.hid (G.below_on B13.out b14); clear b14)
          | ((with_reducible refine (CR0.out _).mono ?_); rintro e' w12 ⟨rfl, b12⟩; have B12 := Lib.hid (G.below_on B11.out b12); clear b12))
        | (go_at_call 13; first
          | ((with_reducible refine (CN0.out _ _ ⟨_, _, _, rfl⟩).mono ?_); rintro e' w13 ⟨rfl, b13⟩; have B13 := Lib.hid (G.below_on B12.out b13); clear b13)
          | ((with_reducible refine (CN1.out _ _ ⟨_, _, _, rfl⟩).mono ?_); rintro e' w15 ⟨rfl, b15⟩; have B15 := Lib.hid (G.below_on B14.out b15); clear b15)))
      go_ret
      exact ⟨rfl, H9.out.bl⟩
  · as_aux_lemma =>
      change tellM M sX = _ at tX
      change tellM M sY = _ at tY
      change T = _ at tT
      have hTT : T = u := by omega
      rw [hTT] at H7
      have CX := Lib.hid (show Calls Try.prog 21 #[.pointer (some ⟨Q.s, 0, none⟩), .string sX] w7 (fun e w' => e = .returned (.tuple #[.int .i64 a, .int .i64 0, .bool true]) ∧ Below w7.heap.size w7 w') from by
        have := smcountM_any sX (by decide) w7 H7.out.at_
        rw [show tellM (M, T).1 sX = (a, 0, true) from tX] at this
        exact this)
      have CY := Lib.hid (fun wx (h : SmB w wx Q M u) => show Calls Try.prog 21 #[.pointer (some ⟨Q.s, 0, none⟩), .string sY] wx (fun e w' => e = .returned (.tuple #[.int .i64 b, .int .i64 0, .bool true]) ∧ Below wx.heap.size wx w') from by
        have := smcountM_any sY (by decide) wx h.at_
        rw [show tellM M sY = (b, 0, true) from tY] at this
        exact this)
      have CT := Lib.hid (fun wx (h : SmB w wx Q M u) => smtotalM wx h.at_)
      have p1 : 0 < a := by omega
      have d1 : decide ((0 : Int) < a) = true := by rw [decide_eq_true_iff]; omega
      have p2 : 0 < b := by omega
      have d2 : decide ((0 : Int) < b) = true := by rw [decide_eq_true_iff]; omega
      have p3 : ¬ e ≤ a := by omega
      have d3 : decide (e ≤ a) = false := by rw [decide_eq_false_iff_not]; omega
      clear tX tY tT hTT he hu hab q1 q2 q3
      go_wp2_with (first
        | (go_at_call 21; first
          | ((with_reducible refine CX.out.mono ?_); rintro e' w8 ⟨rfl, b8⟩; have H8 := Lib.hid (H7.out.keep b8); clear b8)
          | ((with_reducible refine (CY.out _ H8.out).mono ?_); rintro e' w9 ⟨rfl, b9⟩; have H9 := Lib.hid (H8.out.keep b9); clear b9))
        | (go_at_call 19; first
          | ((with_reducible refine (CT.out _ H9.out).mono ?_); rintro e' wx ⟨rfl, rfl⟩)
          | ((with_reducible refine (CT0.out _).mono ?_); rintro e' wx ⟨rfl, rfl⟩))
        | (go_at_call 18; first
          | ((with_reducible refine (CL.out _ H9.out).mono ?_); rintro e' wx ⟨rfl, rfl⟩)
          | ((with_reducible refine (CL0.out _).mono ?_); rintro e' wx ⟨rfl, rfl⟩))
        | (go_at_call 15; ((with_reducible refine (CO0.out _).mono ?_); rintro e' wx ⟨rfl, rfl⟩))
        | (go_at_call 22; ((with_reducible refine (CC0.out _).mono ?_); rintro e' wx ⟨rfl, rfl⟩))
        | (go_at_call 23; ((with_reducible refine (CP0.out _).mono ?_); rintro e' w10 ⟨rfl, b10⟩; have B10 := Lib.hid (G.below_on H9.out.bl b10); clear b10))
        | (go_at_call 20; ((with_reducible refine (CE0.out _).mono ?_); rintro e' w11 ⟨rfl, b11⟩; have B11 := Lib.hid (G.below_on B10.out b11); clear b11))
        | (go_at_call 14; first
          | ((with_reducible refine (CR0.out _).mono ?_); rintro e' w14 ⟨rfl, b14⟩; have B14 := Lib.hid (G.below_on B13.out b14); clear b14)
          | ((with_reducible refine (CR0.out _).mono ?_); rintro e' w12 ⟨rfl, b12⟩; have B12 := Lib.hid (G.below_on B11.out b12); clear b12))
        | (go_at_call 13; first
          | ((with_reducible refine (CN0.out _ _ ⟨_, _, _, rfl⟩).mono ?_); rintro e' w13 ⟨rfl, b13⟩; have B13 := Lib.hid (G.below_on B12.out b13); clear b13)
          | ((with_reducible refine (CN1.out _ _ ⟨_, _, _, rfl⟩).mono ?_); rintro e' w15 ⟨rfl, b15⟩; have B15 := Lib.hid (G.below_on B14.out b15); clear b15)))
      go_ret
      exact ⟨rfl, B15.out⟩
end Go.Proofs.Ytnpiimaapholiaa
