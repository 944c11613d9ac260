/- The laws of layer 13 (frame), walked: rules. -/
import Derived.Test.YtdhdheakhcddbaaFrL
namespace Go.Proofs.Ytdhdheakhcddbaa
set_option linter.unusedSimpArgs false
set_option linter.unusedVariables false
open Go.ChangeShapes Go.WideShapes Go.ChangeAt Go.RowKit
theorem light_any (op rule cost k : Int) (s : ByteArray) (w : World) (hs : s.size ≤ maxLen) :
    (s.size ≤ 300 → Calls Try.prog 13 #[reqV op rule cost s k] w fun e w' => e = .returned (.bool true) ∧ Below w.heap.size w w') ∧
    (¬ s.size ≤ 300 → Calls Try.prog 13 #[reqV op rule cost s k] w fun e w' => e = .returned (.bool false) ∧ Below w.heap.size w w') := by
  unfold maxLen at hs
  constructor
  · intro h
    have t : decide ((s.size : Int) ≤ 300) = true := by simp; omega
    clear h
    go_enter Try.func13, Try.ntmps13
    go_wp2
    go_ret
    exact ⟨ret_bool (by first | rfl | omega), (Below.refl _ _).alloc (Nat.le_refl _) _⟩
  · intro h
    have t : decide ((s.size : Int) ≤ 300) = false := by simp; omega
    clear h
    go_enter Try.func13, Try.ntmps13
    go_wp2
    go_ret
    exact ⟨ret_bool (by first | rfl | omega), (Below.refl _ _).alloc (Nat.le_refl _) _⟩
set_option maxHeartbeats 4000000 in
set_option maxRecDepth 100000 in
theorem rules_law (w : World) (op rule cost k : Int) (s : ByteArray) (rules : Int) (hq : ReqOK op rule cost k s) (_hr : -9223372036854775808 ≤ rules ∧ rules ≤ 9223372036854775807) :
    Calls Try.prog 9 #[reqV op rule cost s k, .int .i64 rules] w fun e w' => e = .returned (.bool true) ∧ Below w.heap.size w w' := by
  obtain ⟨_, _, hc, _, hs⟩ := hq
  obtain ⟨R, hR⟩ : ∃ R, R = rules % 256 := ⟨_, rfl⟩
  have eR : bits .and .i64 rules 255 = R := by rw [hR]; exact i64_mask8 rules
  have hRb : 0 ≤ R ∧ R ≤ 255 := by omega
  clear hR
  have CL := Lib.hid (fun w => light_any op rule cost k s w hs)
  have CRR := Lib.hid (fun w => rright_any op rule cost k 256 s w hs)
  have HQC := Lib.hid hc
  have HRB := Lib.hid hRb
  have HS := Lib.hid hs
  clear hs hc
  have BOX := Lib.hid (fun k' => box_new w (reqC op rule cost s k') 24)
  rcases Nat.lt_or_ge 300 s.size with hl | hl
  · have CL1 := Lib.hid (fun w => (CL.out w).2 (by omega))
    go_enter Try.func9, Try.ntmps9
    go_upto_region 1 with (fail)
    obtain ⟨w1, hw1, hbk, hbl, hsz1⟩ := BOX.out k
    change Code.wp _ _ _ _ (w.alloc (.cells (reqC op rule cost s k) 24))
    rw [hw1]
    obtain ⟨b0, hb0⟩ : ∃ b0, b0 = w.heap.size := ⟨_, rfl⟩
    rw [← hb0] at hbk ⊢
    have BK := Lib.hid hbk
    have BL := Lib.hid hbl
    clear hbk hbl hsz1 hw1 hb0
    go_wp2_with (first
      | (go_at_call 12; ((with_reducible refine (fit_any _).mono ?_); rintro e w2 ⟨rfl, b2⟩; have BK2 := Lib.hid (BK.out.keep b2); have BL2 := Lib.hid (BL.out.trans (b2.mono BL.out.size)); have k2 := BK2.out.rd; clear b2))
      | (go_at_call 13; ((with_reducible refine (CL1.out _).mono ?_); rintro e w3 ⟨rfl, b3⟩; have BL3 := Lib.hid (BL2.out.trans (b3.mono BL2.out.size)); clear b3)))
    go_ret
    exact ⟨rfl, BL3.out⟩
  by_cases hnp : ¬ rightP (mkR op rule cost s k) 256
  · have CL1 := Lib.hid (fun w => (CL.out w).1 hl)
    have CR1 := Lib.hid (fun w => (CRR.out w).2 hnp)
    clear hnp
    go_enter Try.func9, Try.ntmps9
    go_upto_region 1 with (fail)
    obtain ⟨w1, hw1, hbk, hbl, hsz1⟩ := BOX.out k
    change Code.wp _ _ _ _ (w.alloc (.cells (reqC op rule cost s k) 24))
    rw [hw1]
    obtain ⟨b0, hb0⟩ : ∃ b0, b0 = w.heap.size := ⟨_, rfl⟩
    rw [← hb0] at hbk ⊢
    have BK := Lib.hid hbk
    have BL := Lib.hid hbl
    clear hbk hbl hsz1 hw1 hb0
    go_wp2_with (first
      | (go_at_call 12; ((with_reducible refine (fit_any _).mono ?_); rintro e w2 ⟨rfl, b2⟩; have BK2 := Lib.hid (BK.out.keep b2); have BL2 := Lib.hid (BL.out.trans (b2.mono BL.out.size)); have k2 := BK2.out.rd; clear b2))
      | (go_at_call 13; ((with_reducible refine (CL1.out _).mono ?_); rintro e w3 ⟨rfl, b3⟩; have BK3 := Lib.hid (BK2.out.keep b3); have BL3 := Lib.hid (BL2.out.trans (b3.mono BL2.out.size)); have k3 := BK3.out.rd; clear b3))
      | (go_at_call 15; ((with_reducible refine (CR1.out _).mono ?_); rintro e w4 ⟨rfl, b4⟩; have BL4 := Lib.hid (BL3.out.trans (b4.mono BL3.out.size)); clear b4)))
    go_ret
    exact ⟨rfl, BL4.out⟩
  have hp : rightP (mkR op rule cost s k) 256 := Classical.not_not.1 hnp
  clear hnp
  have HP := Lib.hid hp
  have hby := enc_byt hp (nums_bd s)
  have h6 := enc_six hp
  have hlen := enc_length hp
  obtain ⟨n, hn⟩ : ∃ n, (encZ (mkR op rule cost s k)).length = n := ⟨_, rfl⟩
  have hn82 : n ≤ 400 := by
    rw [← hn, hlen]
    have := hp.2
    have hk := nums_length s
    show (if (mkR op rule cost s k).op < 3 then 11 + (nums s).length else _) ≤ 400
    split
    · omega
    · split <;> omega
  rw [hn] at h6
  have HN := Lib.hid hn
  have HBY := Lib.hid hby
  have CE := Lib.hid (fun w => encode_any op rule cost k s w hp HQC.out)
  have CRI := Lib.hid (fun w => right_any op rule cost k R s w HS.out)
  have CL1 := Lib.hid (fun w => (CL.out w).1 hl)
  have CR1 := Lib.hid (fun w => (CRR.out w).1 hp)
  obtain ⟨z, hz⟩ : ∃ z, z = encZ (mkR op rule cost s k) := ⟨_, rfl⟩
  rw [← hz] at CE HN HBY
  have HZ := Lib.hid hz
  clear hlen hn hby hp hz
  have P5 := Lib.hid (show parseZ (z.take 5) R = (req0, 0, 0) from by rw [HZ.out]; exact parse_take5 R HP.out)
  by_cases hlt : rule < R
  · have hpR : rightP (mkR op rule cost s k) R := right_more HP.out hlt
    have P0 := Lib.hid (show parseZ z R = (mkR op rule cost s k, (n : Int), 0) from by
      have := parse_enc (by omega) hpR HQC.out []
      rw [List.append_nil, ← HZ.out, HN.out] at this
      exact this)
    obtain ⟨p6, n6, h6p⟩ := parse_take (R := R) (by omega) hpR HQC.out 6
    rw [← HZ.out] at h6p
    have P6 := Lib.hid h6p
    clear hpR h6p
    go_enter Try.func9, Try.ntmps9
    go_upto_region 1 with (fail)
    obtain ⟨w1, hw1, hbk, hbl, hsz1⟩ := box_new w (reqC op rule cost s k) 24
    change Code.wp _ _ _ _ (w.alloc (.cells (reqC op rule cost s k) 24))
    rw [hw1]
    obtain ⟨b0, hb0⟩ : ∃ b0, b0 = w.heap.size := ⟨_, rfl⟩
    rw [← hb0] at hbk ⊢
    have BK := Lib.hid hbk
    have BL := Lib.hid hbl
    clear hbk hbl hsz1 hw1 hb0
    go_wp2_with (first
      | (go_at_call 12; ((with_reducible refine (fit_any _).mono ?_); rintro e w2 ⟨rfl, b2⟩; have BK2 := Lib.hid (BK.out.keep b2); have BL2 := Lib.hid (BL.out.trans (b2.mono BL.out.size)); have k2 := BK2.out.rd; clear b2))
      | (go_at_call 13; ((with_reducible refine (CL1.out _).mono ?_); rintro e w3 ⟨rfl, b3⟩; have BK3 := Lib.hid (BK2.out.keep b3); have BL3 := Lib.hid (BL2.out.trans (b3.mono BL2.out.size)); have k3 := BK3.out.rd; clear b3))
      | (go_at_call 15; ((with_reducible refine (CR1.out _).mono ?_); rintro e w4 ⟨rfl, b4⟩; have BK4 := Lib.hid (BK3.out.keep b4); have BL4 := Lib.hid (BL3.out.trans (b4.mono BL3.out.size)); have k4 := BK4.out.rd; clear b4))
      | (go_at_call 16; ((with_reducible refine (CE.out _).mono ?_); rintro e w5 ⟨v5, rfl, o5, b5⟩; obtain ⟨g, c, rfl, r5, _, _⟩ := own_read o5 HBY.out n HN.out (by omega); have g1 : (n : Int) ≤ (c : Int) := (by have := r5.cap; omega); have g2 : (c : Int) ≤ 9223372036854775807 := (by have := r5.max; unfold maxLen at this; omega); have R5 := Lib.hid r5; have BK5 := Lib.hid (BK4.out.keep b5); have BL5 := Lib.hid (BL4.out.trans (b5.mono BL4.out.size)); have k5 := BK5.out.rd; clear b5 o5 r5))
      | (go_at_call 18; ((with_reducible refine (parse_x _ n c z R (mkR op rule cost s k) (n : Int) 0 _ R5.out P0.out).mono ?_); rintro e w6 ⟨rfl, b6⟩; have BK6 := Lib.hid (BK5.out.keep b6); have R6 := Lib.hid (R5.out.below b6); have BL6 := Lib.hid (BL5.out.trans (b6.mono BL5.out.size)); have k6 := (BK6.out.alloc (.cells (reqC (mkR op rule cost s k).op (mkR op rule cost s k).rule (mkR op rule cost s k).cost (strOfNums (mkR op rule cost s k).key) (mkR op rule cost s k).k) 24)).rd; clear b6))
      | (go_at_call 18; ((with_reducible refine (parse_x _ 5 c (z.take 5) R req0 0 0 _ (rdI_take (R6.out.below ((Below.refl _ _).alloc (Nat.le_refl _) _)) (by omega)) P5.out).mono ?_); rintro e w7 ⟨rfl, b7⟩; have BK7 := Lib.hid ((BK6.out.alloc _).keep b7); have R7 := Lib.hid ((R6.out.below ((Below.refl _ _).alloc (Nat.le_refl _) _)).below b7); have BL7 := Lib.hid ((BL6.out.alloc BL6.out.size _).trans (b7.mono (BL6.out.alloc BL6.out.size _).size)); have k7 := (BK7.out.alloc (.cells (reqC req0.op req0.rule req0.cost (strOfNums req0.key) req0.k) 24)).rd; clear b7))
      | (go_at_call 18; ((with_reducible refine (parse_x _ 6 c (z.take 6) R p6 n6 0 _ (rdI_take (R7.out.below ((Below.refl _ _).alloc (Nat.le_refl _) _)) (by omega)) P6.out).mono ?_); rintro e w8 ⟨rfl, b8⟩; have BK8 := Lib.hid ((BK7.out.alloc _).keep b8); have R8 := Lib.hid ((R7.out.below ((Below.refl _ _).alloc (Nat.le_refl _) _)).below b8); have BL8 := Lib.hid ((BL7.out.alloc BL7.out.size _).trans (b8.mono (BL7.out.alloc BL7.out.size _).size)); have k8 := (BK8.out.alloc (.cells (reqC p6.op p6.rule p6.cost (strOfNums p6.key) p6.k) 24)).rd; clear b8)))
    go_ret
    exact ⟨rfl, BL8.out.alloc BL8.out.size _⟩
  · have P0 := Lib.hid (show parseZ z R = (req0, 0, 9) from by
      have := parse5 (R := R) (y := encZ (mkR op rule cost s k)) HP.out (enc_six HP.out) (fun _ _ => rfl) (by show R ≤ rule; omega)
      rw [← HZ.out] at this
      exact this)
    have P6 := Lib.hid (show parseZ (z.take 6) R = (req0, 0, 9) from by
      rw [HZ.out]
      exact parse5 (R := R) HP.out (by rw [List.length_take]; have := enc_six HP.out; omega) (fun i hi => (getD_take hi).symm) (by show R ≤ rule; omega))
    have CRI := Lib.hid (fun w => (CRI.out w).2 (fun h => hlt h.1.2.1))
    have t1 : decide (rule < R) = false := by simpa using hlt
    go_enter Try.func9, Try.ntmps9
    go_upto_region 1 with (fail)
    obtain ⟨w1, hw1, hbk, hbl, hsz1⟩ := box_new w (reqC op rule cost s k) 24
    change Code.wp _ _ _ _ (w.alloc (.cells (reqC op rule cost s k) 24))
    rw [hw1]
    obtain ⟨b0, hb0⟩ : ∃ b0, b0 = w.heap.size := ⟨_, rfl⟩
    rw [← hb0] at hbk ⊢
    have BK := Lib.hid hbk
    have BL := Lib.hid hbl
    clear hbk hbl hsz1 hw1 hb0
    go_wp2_with (first
      | (go_at_call 12; ((with_reducible refine (fit_any _).mono ?_); rintro e w2 ⟨rfl, b2⟩; have BK2 := Lib.hid (BK.out.keep b2); have BL2 := Lib.hid (BL.out.trans (b2.mono BL.out.size)); have k2 := BK2.out.rd; clear b2))
      | (go_at_call 13; ((with_reducible refine (CL1.out _).mono ?_); rintro e w3 ⟨rfl, b3⟩; have BK3 := Lib.hid (BK2.out.keep b3); have BL3 := Lib.hid (BL2.out.trans (b3.mono BL2.out.size)); have k3 := BK3.out.rd; clear b3))
      | (go_at_call 15; ((with_reducible refine (CR1.out _).mono ?_); rintro e w4 ⟨rfl, b4⟩; have BK4 := Lib.hid (BK3.out.keep b4); have BL4 := Lib.hid (BL3.out.trans (b4.mono BL3.out.size)); have k4 := BK4.out.rd; clear b4))
      | (go_at_call 16; ((with_reducible refine (CE.out _).mono ?_); rintro e w5 ⟨v5, rfl, o5, b5⟩; obtain ⟨g, c, rfl, r5, _, _⟩ := own_read o5 HBY.out n HN.out (by omega); have g1 : (n : Int) ≤ (c : Int) := (by have := r5.cap; omega); have g2 : (c : Int) ≤ 9223372036854775807 := (by have := r5.max; unfold maxLen at this; omega); have R5 := Lib.hid r5; have BK5 := Lib.hid (BK4.out.keep b5); have BL5 := Lib.hid (BL4.out.trans (b5.mono BL4.out.size)); have k5 := BK5.out.rd; clear b5 o5 r5))
      | (go_at_call 18; ((with_reducible refine (parse_x _ n c z R req0 0 9 _ R5.out P0.out).mono ?_); rintro e w6 ⟨rfl, b6⟩; have BK6 := Lib.hid (BK5.out.keep b6); have R6 := Lib.hid (R5.out.below b6); have BL6 := Lib.hid (BL5.out.trans (b6.mono BL5.out.size)); have k6 := (BK6.out.alloc (.cells (reqC req0.op req0.rule req0.cost (strOfNums req0.key) req0.k) 24)).rd; clear b6))
      | (go_at_call 18; ((with_reducible refine (parse_x _ 5 c (z.take 5) R req0 0 0 _ (rdI_take (R6.out.below ((Below.refl _ _).alloc (Nat.le_refl _) _)) (by omega)) P5.out).mono ?_); rintro e w7 ⟨rfl, b7⟩; have BK7 := Lib.hid ((BK6.out.alloc _).keep b7); have R7 := Lib.hid ((R6.out.below ((Below.refl _ _).alloc (Nat.le_refl _) _)).below b7); have BL7 := Lib.hid ((BL6.out.alloc BL6.out.size _).trans (b7.mono (BL6.out.alloc BL6.out.size _).size)); have k7 := (BK7.out.alloc (.cells (reqC req0.op req0.rule req0.cost (strOfNums req0.key) req0.k) 24)).rd; clear b7))
      | (go_at_call 18; ((with_reducible refine (parse_x _ 6 c (z.take 6) R req0 0 9 _ (rdI_take (R7.out.below ((Below.refl _ _).alloc (Nat.le_refl _) _)) (by omega)) P6.out).mono ?_); rintro e w8 ⟨rfl, b8⟩; have BK8 := Lib.hid ((BK7.out.alloc _).keep b8); have R8 := Lib.hid ((R7.out.below ((Below.refl _ _).alloc (Nat.le_refl _) _)).below b8); have BL8 := Lib.hid ((BL7.out.alloc BL7.out.size _).trans (b8.mono (BL7.out.alloc BL7.out.size _).size)); have k8 := (BK8.out.alloc (.cells (reqC req0.op req0.rule req0.cost (strOfNums req0.key) req0.k) 24)).rd; clear b8))
      | (go_at_call 14; ((with_reducible refine (CRI.out _).mono ?_); rintro e w9 ⟨rfl, b9⟩; have BL9 := Lib.hid ((BL8.out.alloc BL8.out.size _).trans (b9.mono (BL8.out.alloc BL8.out.size _).size)); clear b9)))
    go_ret
    exact ⟨rfl, BL9.out⟩
end Go.Proofs.Ytdhdheakhcddbaa
