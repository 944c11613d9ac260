/- The laws of layer 13 (frame), walked: requests come back from their bytes. -/
import Derived.Test.YtdhdheakhcddbaaFrR
import Derived.Test.YtdhdheakhcddbaaReqE
namespace Go.Proofs.Ytdhdheakhcddbaa
open Go.ChangeShapes Go.WideShapes Go.ChangeAt Go.RowKit
set_option maxHeartbeats 16000000 in
set_option maxRecDepth 100000 in
theorem back_law (w : World) (o r c k : Int) (s : ByteArray) (rules : Int) (A : Option Addr) (m cm : Nat) (zs : List Int) (hq : ReqOK o r c k s) (_hr : -9223372036854775808 ≤ rules ∧ rules ≤ 9223372036854775807) (hm : RdI w .u8 A m cm zs) :
    Calls Try.prog 3 #[reqV o r c s k, .int .i64 rules, .slice A m cm] w fun e w' => e = .returned (.bool true) ∧ Below w.heap.size w w' := by
  obtain ⟨_, _, hc, _, hs⟩ := hq
  have HM := Lib.hid hm
  have hmc := hm.cap
  have hmx := hm.max
  unfold maxLen at hmx
  obtain ⟨R0, hR0⟩ : ∃ R, R = rules % 256 := ⟨_, rfl⟩
  have eR : bits .and .i64 rules 255 = R0 := by rw [hR0]; exact i64_mask8 rules
  have hRb : 0 ≤ R0 ∧ R0 ≤ 255 := by omega
  obtain ⟨R, hR⟩ : ∃ R, R0 + 1 = R := ⟨_, rfl⟩
  have eR2 : IntKind.i64.wrap (R0 + 1) = R := by rw [IntKind.wrap_i64]; omega
  have hRb2 : 1 ≤ R ∧ R ≤ 256 := by omega
  clear hR0
  have HRB := Lib.hid hRb2
  have CL := Lib.hid (fun w => light_any o r c k s w hs)
  have CR := Lib.hid (fun w => rright_any o r c k R s w hs)
  have CQ := Lib.hid (fun w => right_any o r c k R s w hs)
  have HQC := Lib.hid hc
  clear hs hc hm
  have BOX := Lib.hid (fun w => box_new w (reqC o r c s k) 24)
  rcases Nat.lt_or_ge 300 s.size with hl | hl
  · have C1 := Lib.hid (fun w => (CL.out w).2 (by omega))
    go_enter Try.func3, Try.ntmps3
    go_upto_region 1 with (fail)
    obtain ⟨w1, hw1, hbk, hbl, hsz1⟩ := BOX.out w
    change Code.wp _ _ _ _ (w.alloc (.cells (reqC o r c s k) 24))
    rw [hw1]
    obtain ⟨b0, hb0⟩ : ∃ b0, b0 = w.heap.size := ⟨_, rfl⟩
    rw [← hb0] at hbk ⊢
    have BK := Lib.hid hbk
    have BL := Lib.hid hbl
    clear hbk hbl hsz1 hw1 hb0
    go_wp2_with (first
      | (go_at_call 12; ((with_reducible refine (fit_any _).mono ?_); rintro e w2 ⟨rfl, b2⟩; have BK2 := Lib.hid (BK.out.keep b2); have BL2 := Lib.hid (BL.out.trans (b2.mono BL.out.size)); have k2 := BK2.out.rd; clear b2))
      | (go_at_call 13; ((with_reducible refine (C1.out _).mono ?_); rintro e w3 ⟨rfl, b3⟩; have BK3 := Lib.hid (BK2.out.keep b3); have BL3 := Lib.hid (BL2.out.trans (b3.mono BL2.out.size)); have k3 := BK3.out.rd; clear b3)))
    go_ret
    exact ⟨rfl, BL3.out⟩
  have C1 := Lib.hid (fun w => (CL.out w).1 hl)
  rcases Nat.lt_or_ge 100 m with hm1 | hm1
  · have t1 : decide ((100 : Int) < (m : Int)) = true := by simp; omega
    have t2 : decide (100 < m) = true := by simpa using hm1
    go_enter Try.func3, Try.ntmps3
    go_upto_region 1 with (fail)
    obtain ⟨w1, hw1, hbk, hbl, hsz1⟩ := BOX.out w
    change Code.wp _ _ _ _ (w.alloc (.cells (reqC o r c s k) 24))
    rw [hw1]
    obtain ⟨b0, hb0⟩ : ∃ b0, b0 = w.heap.size := ⟨_, rfl⟩
    rw [← hb0] at hbk ⊢
    have BK := Lib.hid hbk
    have BL := Lib.hid hbl
    clear hbk hbl hsz1 hw1 hb0
    go_wp2_with (first
      | (go_at_call 12; ((with_reducible refine (fit_any _).mono ?_); rintro e w2 ⟨rfl, b2⟩; have BK2 := Lib.hid (BK.out.keep b2); have BL2 := Lib.hid (BL.out.trans (b2.mono BL.out.size)); have k2 := BK2.out.rd; clear b2))
      | (go_at_call 13; ((with_reducible refine (C1.out _).mono ?_); rintro e w3 ⟨rfl, b3⟩; have BK3 := Lib.hid (BK2.out.keep b3); have BL3 := Lib.hid (BL2.out.trans (b3.mono BL2.out.size)); have k3 := BK3.out.rd; clear b3)))
    go_ret
    exact ⟨rfl, BL3.out⟩
  have t1 : decide ((100 : Int) < (m : Int)) = false := by simp; omega
  have t2 : decide (100 < m) = false := by simp; omega
  by_cases hnp : ¬ rightP (mkR o r c s k) R
  · have CQ1 := Lib.hid (fun w => (CQ.out w).2 hnp)
    have CR1 := Lib.hid (fun w => (CR.out w).2 hnp)
    clear hnp
    go_enter Try.func3, Try.ntmps3
    go_upto_region 1 with (fail)
    obtain ⟨w1, hw1, hbk, hbl, hsz1⟩ := BOX.out w
    change Code.wp _ _ _ _ (w.alloc (.cells (reqC o r c s k) 24))
    rw [hw1]
    obtain ⟨b0, hb0⟩ : ∃ b0, b0 = w.heap.size := ⟨_, rfl⟩
    rw [← hb0] at hbk ⊢
    have BK := Lib.hid hbk
    have BL := Lib.hid hbl
    clear hbk hbl hsz1 hw1 hb0
    go_upto_region 6 with (first
      | (go_at_call 12; ((with_reducible refine (fit_any _).mono ?_); rintro e w2 ⟨rfl, b2⟩; have BK2 := Lib.hid (BK.out.keep b2); have BL2 := Lib.hid (BL.out.trans (b2.mono BL.out.size)); have k2 := BK2.out.rd; clear b2))
      | (go_at_call 13; ((with_reducible refine (C1.out _).mono ?_); rintro e w3 ⟨rfl, b3⟩; have BK3 := Lib.hid (BK2.out.keep b3); have BL3 := Lib.hid (BL2.out.trans (b3.mono BL2.out.size)); have k3 := BK3.out.rd; clear b3)))
    clear k2 k3
    have y1 : ∀ i, w3.drew.cell? ⟨b0, i, none⟩ = (reqC o r c s k)[i]? := (Blk.drew BK3.out).rd
    have y3 : Below w3.heap.size w3 w3.drew := below_draws (Below.refl _ _) 1
    have GQ := Lib.hid (fun (wx : World) (hx : Below w3.heap.size w3 wx) => show Calls Try.prog 14 #[reqV o r c s k, .int .i64 R] wx (fun e w' => e = .returned (.bool false) ∧ (∀ i, w'.cell? ⟨b0, i, none⟩ = (reqC o r c s k)[i]?) ∧ Below w3.heap.size w3 w') from (CQ1.out wx).mono (fun e w' hh => ⟨hh.1, (BK3.out.keep (hx.trans (hh.2.mono hx.size))).rd, hx.trans (hh.2.mono hx.size)⟩))
    have GR := Lib.hid (fun (wx : World) (hx : Below w3.heap.size w3 wx) => show Calls Try.prog 15 #[reqV o r c s k, .int .i64 R] wx (fun e w' => e = .returned (.bool false) ∧ (∀ i, w'.cell? ⟨b0, i, none⟩ = (reqC o r c s k)[i]?) ∧ Below w3.heap.size w3 w') from (CR1.out wx).mono (fun e w' hh => ⟨hh.1, (BK3.out.keep (hx.trans (hh.2.mono hx.size))).rd, hx.trans (hh.2.mono hx.size)⟩))
    go_region_held3 (fun w' => (∀ i, w'.cell? ⟨b0, i, none⟩ = (reqC o r c s k)[i]?) ∧ Below w3.heap.size w3 w') (first | (refine ⟨?_, ?_⟩ <;> assumption) | go_keep)
      (first
        | (go_at_call 14; ((with_reducible refine (GQ.out _ (by assumption)).mono ?_); rintro e wp ⟨rfl, z0, z2⟩; have ZP := Lib.hid z2))
        | (go_at_call 15; ((with_reducible refine (GR.out _ (by assumption)).mono ?_); rintro e wq ⟨rfl, z0, z2⟩; have ZQ := Lib.hid z2)))
    have BK6 := Lib.hid (BK3.out.keep ZQ.out)
    have BL6 := Lib.hid (BL3.out.trans (ZQ.out.mono BL3.out.size))
    clear y1 y3 GQ GR
    have k6 := BK6.out.rd
    go_wp2_with (go_at_call 15; ((with_reducible refine (CR1.out _).mono ?_); rintro e w7 ⟨rfl, b7⟩; have BK7 := Lib.hid (BK6.out.keep b7); have BL7 := Lib.hid (BL6.out.trans (b7.mono BL6.out.size)); have k7 := BK7.out.rd; clear b7))
    go_ret
    exact ⟨rfl, BL7.out⟩
  have hp := Classical.not_not.1 hnp
  clear hnp
  have CQ1 := Lib.hid (fun w => (CQ.out w).1 hp)
  have CR1 := Lib.hid (fun w => (CR.out w).1 hp)
  have HP := Lib.hid hp
  have hp256 := right_less hp (show R ≤ 256 by omega)
  have CE := Lib.hid (fun w => encode_any o r c k s w hp256 HQC.out)
  have CE' := Lib.hid (fun w => rencode_any o r c k s w hp256 HQC.out)
  have HBY := Lib.hid (enc_byt hp256 (nums_bd s))
  have h6 := enc_six hp
  obtain ⟨z, hz⟩ : ∃ z, z = encZ (mkR o r c s k) := ⟨_, rfl⟩
  have hlen := enc_length hp
  have PE := Lib.hid (parse_enc (by omega) hp HQC.out zs)
  have PP := Lib.hid (fun i hi => parse_part (show R ≤ 256 by omega) HP.out i hi)
  rw [← hz] at CE CE' HBY h6 hlen PE PP
  obtain ⟨n, hn⟩ : ∃ n, z.length = n := ⟨_, rfl⟩
  have hn75 : n ≤ 75 := by
    rw [← hn, hlen]
    have hk := nums_length s
    have h2 := (right_op hp).2
    show (if o < 3 then 11 + (nums s).length else if o = 4 then 7 else 6) ≤ 75
    rcases h2 with ⟨_, g, _⟩ | ⟨rfl, _⟩ | ⟨rfl, _⟩
    · split
      · omega
      · split <;> omega
    · simp
    · simp
  rw [hn] at h6 PE PP
  have HN := Lib.hid hn
  have CP := Lib.hid (fun (A : Option Addr) (N C : Nat) (wx : World) (hx : RdI wx .u8 A N C (z ++ zs)) => show Calls Try.prog 18 #[.slice A N C, .int .i64 R] wx (fun e w' => e = .returned (.tuple #[reqV o r c s k, .int .i64 (n : Int), .int .i64 0]) ∧ Below wx.heap.size wx w') from by
    have := parse_x A N C (z ++ zs) R _ _ _ wx hx PE.out
    have e : strOfNums (mkR o r c s k).key = s := str_nums s
    rw [e] at this
    exact this)
  have heq : ∀ w, (Op.equalIn 10000 24 (.agg (reqC o r c s k)) (.agg (reqC o r c s k))).run Try.prog w = .ok true w := fun w => by rw [req_equal]; simp
  have HEQ := Lib.hid heq
  have HZB := Lib.hid (show byt (z ++ zs) from byt_app HBY.out (fun x hx => wf_u8 (HM.out.wf x hx)))
  have HML := Lib.hid (show (z ++ zs).length = n + m from by rw [List.length_append, HN.out, HM.out.len])
  clear hn hlen hz hp hl hp256 heq t1 t2
  have t1 : decide ((100 : Int) < (m : Int)) = false := by simp; omega
  have t2 : decide (100 < m) = false := by simp; omega
  go_enter Try.func3, Try.ntmps3
  go_upto_region 1 with (fail)
  obtain ⟨w1, hw1, hbk, hbl, hsz1⟩ := BOX.out w
  change Code.wp _ _ _ _ (w.alloc (.cells (reqC o r c s k) 24))
  rw [hw1]
  obtain ⟨b0, hb0⟩ : ∃ b0, b0 = w.heap.size := ⟨_, rfl⟩
  rw [← hb0] at hbk ⊢
  have BK := Lib.hid hbk
  have BL := Lib.hid hbl
  clear hbk hbl hsz1 hw1 hb0
  go_upto_region 6 with (first
    | (go_at_call 12; ((with_reducible refine (fit_any _).mono ?_); rintro e w2 ⟨rfl, b2⟩; have BK2 := Lib.hid (BK.out.keep b2); have BL2 := Lib.hid (BL.out.trans (b2.mono BL.out.size)); have k2 := BK2.out.rd; clear b2))
    | (go_at_call 13; ((with_reducible refine (C1.out _).mono ?_); rintro e w3 ⟨rfl, b3⟩; have BK3 := Lib.hid (BK2.out.keep b3); have BL3 := Lib.hid (BL2.out.trans (b3.mono BL2.out.size)); have k3 := BK3.out.rd; clear b3)))
  clear k2 k3
  have y1 : ∀ i, w3.drew.cell? ⟨b0, i, none⟩ = (reqC o r c s k)[i]? := (Blk.drew BK3.out).rd
  have y3 : Below w3.heap.size w3 w3.drew := below_draws (Below.refl _ _) 1
  have GQ := Lib.hid (fun (wx : World) (hx : Below w3.heap.size w3 wx) => show Calls Try.prog 14 #[reqV o r c s k, .int .i64 R] wx (fun e w' => e = .returned (.bool true) ∧ (∀ i, w'.cell? ⟨b0, i, none⟩ = (reqC o r c s k)[i]?) ∧ Below w3.heap.size w3 w') from (CQ1.out wx).mono (fun e w' hh => ⟨hh.1, (BK3.out.keep (hx.trans (hh.2.mono hx.size))).rd, hx.trans (hh.2.mono hx.size)⟩))
  have GR := Lib.hid (fun (wx : World) (hx : Below w3.heap.size w3 wx) => show Calls Try.prog 15 #[reqV o r c s k, .int .i64 R] wx (fun e w' => e = .returned (.bool true) ∧ (∀ i, w'.cell? ⟨b0, i, none⟩ = (reqC o r c s k)[i]?) ∧ Below w3.heap.size w3 w') from (CR1.out wx).mono (fun e w' hh => ⟨hh.1, (BK3.out.keep (hx.trans (hh.2.mono hx.size))).rd, hx.trans (hh.2.mono hx.size)⟩))
  go_region_held3 (fun w' => (∀ i, w'.cell? ⟨b0, i, none⟩ = (reqC o r c s k)[i]?) ∧ Below w3.heap.size w3 w') (first | (refine ⟨?_, ?_⟩ <;> assumption) | go_keep)
    (first
      | (go_at_call 14; ((with_reducible refine (GQ.out _ (by assumption)).mono ?_); rintro e wp ⟨rfl, z0, z2⟩; have ZP := Lib.hid z2))
      | (go_at_call 15; ((with_reducible refine (GR.out _ (by assumption)).mono ?_); rintro e wq ⟨rfl, z0, z2⟩; have ZQ := Lib.hid z2)))
  have BK6 := Lib.hid (BK3.out.keep ZQ.out)
  have BL6 := Lib.hid (BL3.out.trans (ZQ.out.mono BL3.out.size))
  clear y1 y3 GQ GR
  have k6 := BK6.out.rd
  go_upto_region 11 with (first
    | (go_at_call 15; ((with_reducible refine (CR1.out _).mono ?_); rintro e w7 ⟨rfl, b7⟩; have BK7 := Lib.hid (BK6.out.keep b7); have BL7 := Lib.hid (BL6.out.trans (b7.mono BL6.out.size)); have k7 := BK7.out.rd; clear b7))
    | (go_at_call 16; ((with_reducible refine (CE.out _).mono ?_); rintro e w8 ⟨v8, rfl, o8, b8⟩; obtain ⟨g, c8, rfl, r8, _, _⟩ := own_read o8 HBY.out n HN.out (by omega); have BK8 := Lib.hid (BK7.out.keep b8); have R8 := Lib.hid r8; have BL8 := Lib.hid (BL7.out.trans (b8.mono BL7.out.size)); clear b8 o8 r8)))
  have g1 : (n : Int) ≤ (c8 : Int) := by have := R8.out.cap; omega
  have g2 : (c8 : Int) ≤ 9223372036854775807 := by have := R8.out.max; unfold maxLen at this; omega
  obtain ⟨st, hst⟩ : ∃ st, st = strOfNums z := ⟨_, rfl⟩
  have y1 : ∀ i, w8.drew.cell? ⟨b0, i, none⟩ = (reqC o r c s k)[i]? := (Blk.drew BK8.out).rd
  have y2 : (convert 25 9 (.slice (some ⟨g, 0, none⟩) n c8)).run Try.prog w8.drew = .ok (.string st) w8.drew := by rw [hst]; exact conv_str (P := Try.prog) (by rfl) (by rfl) (by rfl) (R8.out.below (below_draws (Below.refl _ _) 1))
  have y3 : Below w8.heap.size w8 w8.drew := below_draws (Below.refl _ _) 1
  have GE := Lib.hid (fun (wx : World) (hx : Below w8.heap.size w8 wx) => show Calls Try.prog 17 #[reqV o r c s k] wx (fun e w' => (∃ g' c', e = .returned (.slice (some ⟨g', 0, none⟩) n c') ∧ (convert 25 9 (.slice (some ⟨g', 0, none⟩) n c')).run Try.prog w' = .ok (.string st) w') ∧ (∀ i, w'.cell? ⟨b0, i, none⟩ = (reqC o r c s k)[i]?) ∧ (convert 25 9 (.slice (some ⟨g, 0, none⟩) n c8)).run Try.prog w' = .ok (.string st) w' ∧ Below w8.heap.size w8 w') from (CE'.out wx).mono (fun e w' hh => by
    obtain ⟨v, rfl, ho, hb⟩ := hh
    obtain ⟨g', c', rfl, hr, _⟩ := own_read ho HBY.out n HN.out (by omega)
    have hz := hx.trans (hb.mono hx.size)
    rw [hst]
    exact ⟨⟨g', c', rfl, conv_str (P := Try.prog) (by rfl) (by rfl) (by rfl) hr⟩, (BK8.out.keep hz).rd, conv_str (P := Try.prog) (by rfl) (by rfl) (by rfl) (R8.out.below hz), hz⟩))
  have t75 : decide ((75 : Int) < (n : Int)) = false := by simp; omega
  have t75' : decide (75 < n) = false := by simp; omega
  clear hst k6 k7
  have y0 := And.intro y1 (And.intro y2 y3)
  refine wp_region_held_drew (S := fun w' => (∀ i, w'.cell? ⟨b0, i, none⟩ = (reqC o r c s k)[i]?) ∧ (convert 25 9 (.slice (some ⟨g, 0, none⟩) n c8)).run Try.prog w' = .ok (.string st) w' ∧ Below w8.heap.size w8 w') (by kernel_rfl) y0 (fun hHeld => ?_)
  clear y0 y1 y2
  refine wpAnyH_take (i := 0) (oi := ?_) (v := ?_) ?_ ?_ ?_ ?_ ?_ ?_ ?_ ?_
  rotate_left 2
  · simp only [List.getElem?_toArray, List.getElem?_cons_succ, List.getElem?_cons_zero]; rfl
  · kernel_rfl
  · kernel_rfl
  · kernel_rfl
  · exact fun _ _ _ h => h
  · refine Or.inl ⟨by rfl, ?_⟩
    intro w' hSw
    (try dsimp only at hSw)
    go_simp
    all_goals (with_reducible rfl)
  · assumption
  try simp only [Act.put, List.setIfInBounds_toArray, List.set_cons_zero, List.set_cons_succ]
  refine wpAnyH_take (i := 1) (oi := ?_) (v := ?_) ?_ ?_ ?_ ?_ ?_ ?_ ?_ ?_
  rotate_left 2
  · simp only [List.getElem?_toArray, List.getElem?_cons_succ, List.getElem?_cons_zero]; rfl
  · kernel_rfl
  · kernel_rfl
  · kernel_rfl
  · exact fun _ _ _ h => h
  · refine Or.inl ⟨by rfl, ?_⟩
    intro w' hSw
    (try dsimp only at hSw)
    go_simp
    all_goals (with_reducible rfl)
  · assumption
  try simp only [Act.put, List.setIfInBounds_toArray, List.set_cons_zero, List.set_cons_succ]
  refine wpAnyH_take (i := 2) (oi := ?_) (v := ?_) ?_ ?_ ?_ ?_ ?_ ?_ ?_ ?_
  rotate_left 2
  · simp only [List.getElem?_toArray, List.getElem?_cons_succ, List.getElem?_cons_zero]; rfl
  · kernel_rfl
  · kernel_rfl
  · kernel_rfl
  · exact fun _ _ _ h => h
  · refine Or.inl ⟨by rfl, ?_⟩
    intro w' hSw
    (try dsimp only at hSw)
    go_simp
    all_goals (with_reducible rfl)
  · assumption
  try simp only [Act.put, List.setIfInBounds_toArray, List.set_cons_zero, List.set_cons_succ]
  refine wpAnyH_ready (rs := [3]) (by kernel_rfl) (by simp) ?_
  refine AllReadyH.cons (o := ?_) ?_ ?_ ?_
  rotate_left 1
  · simp only [List.getElem?_toArray, List.getElem?_cons_succ, List.getElem?_cons_zero]; rfl
  rotate_left 1
  · exact AllReadyH.nil
  intro K hK
  go_simp
  go_at_call 17; ((with_reducible refine (GE.out _ (by first | exact hHeld.2.2 | assumption)).mono ?_); rintro e w9 ⟨⟨g', c', rfl, hcv⟩, z0, z1, z2⟩)
  refine hK.out _ _ ⟨z0, z1, z2⟩ (fun hHeld => ?_)
  clear hK K
  try simp only [Act.put, List.setIfInBounds_toArray, List.set_cons_zero, List.set_cons_succ]
  refine wpAnyH_ready (rs := [4]) (by kernel_rfl) (by simp) ?_
  refine AllReadyH.cons (o := ?_) ?_ ?_ ?_
  rotate_left 1
  · simp only [List.getElem?_toArray, List.getElem?_cons_succ, List.getElem?_cons_zero]; rfl
  rotate_left 1
  · exact AllReadyH.nil
  intro K hK
  go_simp
  skip
  refine hK.out _ _ ⟨z0, z1, z2⟩ (fun hHeld => ?_)
  clear hK K
  try simp only [Act.put, List.setIfInBounds_toArray, List.set_cons_zero, List.set_cons_succ]
  refine wpAnyH_take (i := 5) (oi := ?_) (v := ?_) ?_ ?_ ?_ ?_ ?_ ?_ ?_ ?_
  rotate_left 2
  · simp only [List.getElem?_toArray, List.getElem?_cons_succ, List.getElem?_cons_zero]; rfl
  · kernel_rfl
  · kernel_rfl
  · kernel_rfl
  · exact fun _ _ _ h => h
  · refine Or.inl ⟨by rfl, ?_⟩
    intro w' hSw
    (try dsimp only at hSw)
    go_simp
    all_goals (with_reducible rfl)
  · assumption
  try simp only [Act.put, List.setIfInBounds_toArray, List.set_cons_zero, List.set_cons_succ]
  refine wpAnyH_take (i := 6) (oi := ?_) (v := ?_) ?_ ?_ ?_ ?_ ?_ ?_ ?_ ?_
  rotate_left 2
  · simp only [List.getElem?_toArray, List.getElem?_cons_succ, List.getElem?_cons_zero]; rfl
  · kernel_rfl
  · kernel_rfl
  · kernel_rfl
  · exact fun _ _ _ h => h
  · refine Or.inl ⟨by rfl, ?_⟩
    intro w' hSw
    (try dsimp only at hSw)
    go_simp
    all_goals (with_reducible rfl)
  · assumption
  try simp only [Act.put, List.setIfInBounds_toArray, List.set_cons_zero, List.set_cons_succ]
  refine wpAnyH_take (i := 7) (oi := ?_) (v := ?_) ?_ ?_ ?_ ?_ ?_ ?_ ?_ ?_
  rotate_left 2
  · simp only [List.getElem?_toArray, List.getElem?_cons_succ, List.getElem?_cons_zero]; rfl
  · kernel_rfl
  · kernel_rfl
  · kernel_rfl
  · exact fun _ _ _ h => h
  · refine Or.inl ⟨by rfl, ?_⟩
    intro w' hSw
    (try dsimp only at hSw)
    go_simp
    all_goals (with_reducible rfl)
  · assumption
  try simp only [Act.put, List.setIfInBounds_toArray, List.set_cons_zero, List.set_cons_succ]
  refine wpAnyH_take (i := 8) (oi := ?_) (v := ?_) ?_ ?_ ?_ ?_ ?_ ?_ ?_ ?_
  rotate_left 2
  · simp only [List.getElem?_toArray, List.getElem?_cons_succ, List.getElem?_cons_zero]; rfl
  · kernel_rfl
  · kernel_rfl
  · kernel_rfl
  · exact fun _ _ _ h => h
  · refine Or.inl ⟨by rfl, ?_⟩
    intro w' hSw
    (try dsimp only at hSw)
    go_simp
    all_goals (with_reducible rfl)
  · assumption
  try simp only [Act.put, List.setIfInBounds_toArray, List.set_cons_zero, List.set_cons_succ]
  refine wpAnyH_take (i := 9) (oi := ?_) (v := ?_) ?_ ?_ ?_ ?_ ?_ ?_ ?_ ?_
  rotate_left 2
  · simp only [List.getElem?_toArray, List.getElem?_cons_succ, List.getElem?_cons_zero]; rfl
  · kernel_rfl
  · kernel_rfl
  · kernel_rfl
  · exact fun _ _ _ h => h
  · refine Or.inl ⟨by rfl, ?_⟩
    intro w' hSw
    (try dsimp only at hSw)
    go_simp
    all_goals (with_reducible rfl)
  · assumption
  try simp only [Act.put, List.setIfInBounds_toArray, List.set_cons_zero, List.set_cons_succ]
  refine wpAnyH_take (i := 10) (oi := ?_) (v := ?_) ?_ ?_ ?_ ?_ ?_ ?_ ?_ ?_
  rotate_left 2
  · simp only [List.getElem?_toArray, List.getElem?_cons_succ, List.getElem?_cons_zero]; rfl
  · kernel_rfl
  · kernel_rfl
  · kernel_rfl
  · exact fun _ _ _ h => h
  · refine Or.inl ⟨by rfl, ?_⟩
    intro w' hSw
    (try dsimp only at hSw)
    go_simp
    all_goals (with_reducible rfl)
  · assumption
  try simp only [Act.put, List.setIfInBounds_toArray, List.set_cons_zero, List.set_cons_succ]
  refine wpAnyH_done (by kernel_rfl) ?_ _
  have BK9 := Lib.hid (BK8.out.keep z2)
  have BL9 := Lib.hid (BL8.out.trans (z2.mono BL8.out.size))
  have R9 := Lib.hid (R8.out.below z2)
  have RM9 := Lib.hid (HM.out.below BL9.out)
  clear z0 z1 z2 hHeld hcv y3 GE
  have k9 := BK9.out.rd
  have heq := HEQ.out
  have tn : ((n : Int) != (n : Int)) = false := by simp
  go_upto_region 16 with (first
    | (at_builtin; refine wpList_appI (by rfl) _ _ c8 (by rfl) (by rfl) (by rfl) (own_nil w9 w9.heap.size) R9.out (by simp; omega) (Nat.le_refl _) ?_; intro v10 w10 o10 hg10; have O10 := Lib.hid (show Own w10 w9.heap.size v10 z from o10); have F10 := Lib.hid ((fr_row hg10).below (B := w9.heap.size) (Nat.le_refl _) (fun q hq => by simp [Value.ownBlock] at hq)); clear o10 hg10)
    | (at_builtin; refine wpList_appI (by rfl) _ _ cm (by rfl) (by rfl) (by rfl) O10.out (RM9.out.below F10.out) (by rw [HN.out]; omega) F10.out.size ?_; intro v11 w11 o11 hg11; obtain ⟨g11, c11, rfl, r11, _, _⟩ := own_read o11 HZB.out (n + m) HML.out (by omega); have F11 := Lib.hid (F10.out.trans ((fr_row hg11).below (B := w9.heap.size) F10.out.size (fun q hq => (O10.out.lt q hq).1))); have R11 := Lib.hid r11; clear o11 hg11 r11)
    | (go_at_call 18; ((with_reducible refine (CP.out _ (n + m) c11 _ R11.out).mono ?_); rintro e w12 ⟨rfl, b12⟩; have F12 := Lib.hid (F11.out.trans (b12.mono F11.out.size)); have K12 := Lib.hid (BK9.out.keep F12.out); have k12 := (K12.out.alloc (.cells (reqC o r c s k) 24)).rd; have n12 := (show Blk (w12.alloc (.cells (reqC o r c s k) 24)) w12.heap.size 24 (reqC o r c s k) from heap_alloc_new w12 _).rd; clear b12)))
  have B13 := Lib.hid ((BL9.out.trans (F12.out.mono BL9.out.size)).alloc (BL9.out.trans (F12.out.mono BL9.out.size)).size (.cells (reqC o r c s k) 24))
  have R13 := Lib.hid (R9.out.below (F12.out.alloc F12.out.size (.cells (reqC o r c s k) 24)))
  obtain ⟨w13, hw13⟩ : ∃ w13, w13 = w12.alloc (.cells (reqC o r c s k) 24) := ⟨_, rfl⟩
  change Code.wp _ _ _ _ (w12.alloc (.cells (reqC o r c s k) 24))
  rw [← hw13] at B13 R13 ⊢
  clear k12 n12 hw13 k9 heq
  go_wp2
  go_loopg [77] n (fun kk s77 wr => ∃ i : Nat, i ≤ n ∧ kk = n - i ∧ s77 = .int .i64 (i : Int) ∧ Below w13.heap.size w13 wr)
  case atStart => exact ⟨0, by omega, by omega, rfl, Below.refl _ _⟩
  case round =>
    obtain ⟨i, hi, hkk, rfl, hb⟩ := hrel
    have HK := Lib.hid hkk
    have HBR := Lib.hid hb
    clear hkk hb
    by_cases hin : i < n
    · have P := Lib.hid (PP.out i hin)
      have RI := Lib.hid (rdI_take (R13.out.below HBR.out) (show i ≤ n by omega))
      have g3 : (i : Int) ≤ (c8 : Int) := by omega
      have g4 : (i : Int) < (n : Int) := by omega
      go_wp2_with (go_at_call 18; ((with_reducible refine (parse_x _ i c8 (z.take i) R req0 0 0 _ RI.out P.out).mono ?_); rintro e w14 ⟨rfl, b14⟩; have B14 := Lib.hid (HBR.out.trans (b14.mono HBR.out.size)); clear b14))
      go_roundg (n - (i + 1))
      case measure => have := HK.out; omega
      case rel => exact ⟨i + 1, by omega, by omega, by go_num, B14.out.alloc B14.out.size _⟩
    · have hie : i = n := by omega
      subst hie
      go_wp2
      go_ret
      exact ⟨rfl, B13.out.trans (HBR.out.mono B13.out.size)⟩
end Go.Proofs.Ytdhdheakhcddbaa
