/- The laws of layer 13 (frame), walked: unlike requests. -/
import Derived.Test.YtdhdheakhcddbaaFrR
import Derived.Test.YtdhdheakhcddbaaReqE
namespace Go.Proofs.Ytdhdheakhcddbaa
open Go.ChangeShapes Go.WideShapes Go.ChangeAt Go.RowKit
theorem cost_of {q : Req} {c : Int} (h : q.cost = c) (hc : 0 ≤ c ∧ c < 4294967296) : 0 ≤ q.cost ∧ q.cost < 4294967296 := by rw [h]; exact hc
/-- the bytes of one request begin with those of another: it is the same. -/
theorem apart {p q : Req} (hp : rightP p 9) (hq : rightP q 9) (cp : 0 ≤ p.cost ∧ p.cost < 4294967296) (cq : 0 ≤ q.cost ∧ q.cost < 4294967296) (h : (encZ p).take (min (encZ p).length (encZ q).length) = (encZ q).take (min (encZ p).length (encZ q).length)) : p = q := by
  have e1 := parse_enc (by omega) hp cp []
  have e2 := parse_enc (by omega) hq cq []
  rw [List.append_nil] at e1 e2
  rcases Nat.lt_trichotomy (encZ p).length (encZ q).length with g | g | g
  · rw [Nat.min_eq_left (by omega), List.take_of_length_le (Nat.le_refl _)] at h
    have := parse_part (by omega) hq (encZ p).length g
    rw [← h, e1] at this
    simp only [Prod.mk.injEq] at this
    have := enc_six hp
    omega
  · rw [g, Nat.min_self, List.take_of_length_le (Nat.le_refl _), ← g, List.take_of_length_le (Nat.le_refl _)] at h
    rw [h, e2] at e1
    simp only [Prod.mk.injEq] at e1
    exact e1.1.symm
  · rw [Nat.min_eq_right (by omega), List.take_of_length_le (l := encZ q) (Nat.le_refl _)] at h
    have := parse_part (by omega) hp (encZ q).length g
    rw [h, e2] at this
    simp only [Prod.mk.injEq] at this
    have := enc_six hq
    omega
theorem mkR_inj {o r c k o' r' c' k' : Int} {s s' : ByteArray} (h : mkR o r c s k = mkR o' r' c' s' k') : o = o' ∧ r = r' ∧ c = c' ∧ s = s' ∧ k = k' := by
  unfold mkR at h
  simp only [Req.mk.injEq] at h
  exact ⟨h.1, h.2.1, h.2.2.1, nums_inj h.2.2.2.1, h.2.2.2.2⟩
set_option maxHeartbeats 8000000 in
set_option maxRecDepth 100000 in
theorem apart_law (w : World) (o r c k : Int) (s : ByteArray) (o' r' c' k' : Int) (s' : ByteArray) (hq : ReqOK o r c k s) (hq' : ReqOK o' r' c' k' s') :
    Calls Try.prog 10 #[reqV o r c s k, reqV o' r' c' s' k'] w fun e w' => e = .returned (.bool true) ∧ Below w.heap.size w w' := by
  obtain ⟨_, _, hc, _, hs⟩ := hq
  obtain ⟨_, _, hc', _, hs'⟩ := hq'
  have CL := Lib.hid (fun w => light_any o r c k s w hs)
  have CL' := Lib.hid (fun w => light_any o' r' c' k' s' w hs')
  have CR := Lib.hid (fun w => rright_any o r c k 9 s w hs)
  have CR' := Lib.hid (fun w => rright_any o' r' c' k' 9 s' w hs')
  have HQC := Lib.hid hc
  have HQC' := Lib.hid hc'
  clear hs hs' hc hc'
  have BOX := Lib.hid (fun w => box_new w (reqC o r c s k) 24)
  have BOX' := Lib.hid (fun w => box_new w (reqC o' r' c' s' k') 24)
  rcases Nat.lt_or_ge 300 s.size with hl | hl
  · have C1 := Lib.hid (fun w => (CL.out w).2 (by omega))
    go_enter Try.func10, Try.ntmps10
    go_upto_region 1 with (fail)
    obtain ⟨w0, hw0, hbk, hbl, hsz0⟩ := BOX.out w
    obtain ⟨w1, hw1, hbk', hbl', hsz1⟩ := BOX'.out w0
    change Code.wp _ _ _ _ ((w.alloc (.cells (reqC o r c s k) 24)).alloc (.cells (reqC o' r' c' s' k') 24))
    rw [hw0, hw1]
    obtain ⟨b0, hb0⟩ : ∃ b0, b0 = w.heap.size := ⟨_, rfl⟩
    rw [← hb0] at hbk hsz0 ⊢
    rw [hsz0] at hbk'
    have BK := Lib.hid (And.intro (hbk.keep hbl') hbk')
    have BL := Lib.hid (hbl.trans (hbl'.mono hbl.size))
    clear hbk hbk' hbl hbl' hsz0 hsz1 hw0 hw1 hb0
    go_wp2_with (first
      | (go_at_call 12; ((with_reducible refine (fit_any _).mono ?_); rintro e w2 ⟨rfl, b2⟩; have BK2 := Lib.hid (keep2 BK.out b2); have BL2 := Lib.hid (BL.out.trans (b2.mono BL.out.size)); have k2 := BK2.out.1.rd; have l2 := BK2.out.2.rd; clear b2))
      | (go_at_call 13; ((with_reducible refine (C1.out _).mono ?_); rintro e w3 ⟨rfl, b3⟩; have BK3 := Lib.hid (keep2 BK2.out b3); have BL3 := Lib.hid (BL2.out.trans (b3.mono BL2.out.size)); have k3 := BK3.out.1.rd; have l3 := BK3.out.2.rd; clear b3)))
    go_ret
    exact ⟨rfl, BL3.out⟩
  have C1 := Lib.hid (fun w => (CL.out w).1 hl)
  rcases Nat.lt_or_ge 300 s'.size with hl' | hl'
  · have C2 := Lib.hid (fun w => (CL'.out w).2 (by omega))
    go_enter Try.func10, Try.ntmps10
    go_upto_region 1 with (fail)
    obtain ⟨w0, hw0, hbk, hbl, hsz0⟩ := BOX.out w
    obtain ⟨w1, hw1, hbk', hbl', hsz1⟩ := BOX'.out w0
    change Code.wp _ _ _ _ ((w.alloc (.cells (reqC o r c s k) 24)).alloc (.cells (reqC o' r' c' s' k') 24))
    rw [hw0, hw1]
    obtain ⟨b0, hb0⟩ : ∃ b0, b0 = w.heap.size := ⟨_, rfl⟩
    rw [← hb0] at hbk hsz0 ⊢
    rw [hsz0] at hbk'
    have BK := Lib.hid (And.intro (hbk.keep hbl') hbk')
    have BL := Lib.hid (hbl.trans (hbl'.mono hbl.size))
    clear hbk hbk' hbl hbl' hsz0 hsz1 hw0 hw1 hb0
    go_wp2_with (first
      | (go_at_call 12; ((with_reducible refine (fit_any _).mono ?_); rintro e w2 ⟨rfl, b2⟩; have BK2 := Lib.hid (keep2 BK.out b2); have BL2 := Lib.hid (BL.out.trans (b2.mono BL.out.size)); have k2 := BK2.out.1.rd; have l2 := BK2.out.2.rd; clear b2))
      | (go_at_call 13; ((with_reducible refine (C1.out _).mono ?_); rintro e w3 ⟨rfl, b3⟩; have BK3 := Lib.hid (keep2 BK2.out b3); have BL3 := Lib.hid (BL2.out.trans (b3.mono BL2.out.size)); have k3 := BK3.out.1.rd; have l3 := BK3.out.2.rd; clear b3))
      | (go_at_call 13; ((with_reducible refine (C2.out _).mono ?_); rintro e w4 ⟨rfl, b4⟩; have BK4 := Lib.hid (keep2 BK3.out b4); have BL4 := Lib.hid (BL3.out.trans (b4.mono BL3.out.size)); have k4 := BK4.out.1.rd; have l4 := BK4.out.2.rd; clear b4)))
    go_ret
    exact ⟨rfl, BL4.out⟩
  have C2 := Lib.hid (fun w => (CL'.out w).1 hl')
  by_cases hnp : ¬ rightP (mkR o r c s k) 9
  · have C3 := Lib.hid (fun w => (CR.out w).2 hnp)
    clear hnp
    go_enter Try.func10, Try.ntmps10
    go_upto_region 1 with (fail)
    obtain ⟨w0, hw0, hbk, hbl, hsz0⟩ := BOX.out w
    obtain ⟨w1, hw1, hbk', hbl', hsz1⟩ := BOX'.out w0
    change Code.wp _ _ _ _ ((w.alloc (.cells (reqC o r c s k) 24)).alloc (.cells (reqC o' r' c' s' k') 24))
    rw [hw0, hw1]
    obtain ⟨b0, hb0⟩ : ∃ b0, b0 = w.heap.size := ⟨_, rfl⟩
    rw [← hb0] at hbk hsz0 ⊢
    rw [hsz0] at hbk'
    have BK := Lib.hid (And.intro (hbk.keep hbl') hbk')
    have BL := Lib.hid (hbl.trans (hbl'.mono hbl.size))
    clear hbk hbk' hbl hbl' hsz0 hsz1 hw0 hw1 hb0
    go_wp2_with (first
      | (go_at_call 12; ((with_reducible refine (fit_any _).mono ?_); rintro e w2 ⟨rfl, b2⟩; have BK2 := Lib.hid (keep2 BK.out b2); have BL2 := Lib.hid (BL.out.trans (b2.mono BL.out.size)); have k2 := BK2.out.1.rd; have l2 := BK2.out.2.rd; clear b2))
      | (go_at_call 13; ((with_reducible refine (C1.out _).mono ?_); rintro e w3 ⟨rfl, b3⟩; have BK3 := Lib.hid (keep2 BK2.out b3); have BL3 := Lib.hid (BL2.out.trans (b3.mono BL2.out.size)); have k3 := BK3.out.1.rd; have l3 := BK3.out.2.rd; clear b3))
      | (go_at_call 13; ((with_reducible refine (C2.out _).mono ?_); rintro e w4 ⟨rfl, b4⟩; have BK4 := Lib.hid (keep2 BK3.out b4); have BL4 := Lib.hid (BL3.out.trans (b4.mono BL3.out.size)); have k4 := BK4.out.1.rd; have l4 := BK4.out.2.rd; clear b4))
      | (go_at_call 15; ((with_reducible refine (C3.out _).mono ?_); rintro e w5 ⟨rfl, b5⟩; have BK5 := Lib.hid (keep2 BK4.out b5); have BL5 := Lib.hid (BL4.out.trans (b5.mono BL4.out.size)); have k5 := BK5.out.1.rd; have l5 := BK5.out.2.rd; clear b5)))
    go_ret
    exact ⟨rfl, BL5.out⟩
  have hp := Classical.not_not.1 hnp
  clear hnp
  have C3 := Lib.hid (fun w => (CR.out w).1 hp)
  by_cases hnp : ¬ rightP (mkR o' r' c' s' k') 9
  · have C4 := Lib.hid (fun w => (CR'.out w).2 hnp)
    clear hnp hp
    go_enter Try.func10, Try.ntmps10
    go_upto_region 1 with (fail)
    obtain ⟨w0, hw0, hbk, hbl, hsz0⟩ := BOX.out w
    obtain ⟨w1, hw1, hbk', hbl', hsz1⟩ := BOX'.out w0
    change Code.wp _ _ _ _ ((w.alloc (.cells (reqC o r c s k) 24)).alloc (.cells (reqC o' r' c' s' k') 24))
    rw [hw0, hw1]
    obtain ⟨b0, hb0⟩ : ∃ b0, b0 = w.heap.size := ⟨_, rfl⟩
    rw [← hb0] at hbk hsz0 ⊢
    rw [hsz0] at hbk'
    have BK := Lib.hid (And.intro (hbk.keep hbl') hbk')
    have BL := Lib.hid (hbl.trans (hbl'.mono hbl.size))
    clear hbk hbk' hbl hbl' hsz0 hsz1 hw0 hw1 hb0
    go_wp2_with (first
      | (go_at_call 12; ((with_reducible refine (fit_any _).mono ?_); rintro e w2 ⟨rfl, b2⟩; have BK2 := Lib.hid (keep2 BK.out b2); have BL2 := Lib.hid (BL.out.trans (b2.mono BL.out.size)); have k2 := BK2.out.1.rd; have l2 := BK2.out.2.rd; clear b2))
      | (go_at_call 13; ((with_reducible refine (C1.out _).mono ?_); rintro e w3 ⟨rfl, b3⟩; have BK3 := Lib.hid (keep2 BK2.out b3); have BL3 := Lib.hid (BL2.out.trans (b3.mono BL2.out.size)); have k3 := BK3.out.1.rd; have l3 := BK3.out.2.rd; clear b3))
      | (go_at_call 13; ((with_reducible refine (C2.out _).mono ?_); rintro e w4 ⟨rfl, b4⟩; have BK4 := Lib.hid (keep2 BK3.out b4); have BL4 := Lib.hid (BL3.out.trans (b4.mono BL3.out.size)); have k4 := BK4.out.1.rd; have l4 := BK4.out.2.rd; clear b4))
      | (go_at_call 15; ((with_reducible refine (C3.out _).mono ?_); rintro e w5 ⟨rfl, b5⟩; have BK5 := Lib.hid (keep2 BK4.out b5); have BL5 := Lib.hid (BL4.out.trans (b5.mono BL4.out.size)); have k5 := BK5.out.1.rd; have l5 := BK5.out.2.rd; clear b5))
      | (go_at_call 15; ((with_reducible refine (C4.out _).mono ?_); rintro e w6 ⟨rfl, b6⟩; have BK6 := Lib.hid (keep2 BK5.out b6); have BL6 := Lib.hid (BL5.out.trans (b6.mono BL5.out.size)); have k6 := BK6.out.1.rd; have l6 := BK6.out.2.rd; clear b6)))
    go_ret
    exact ⟨rfl, BL6.out⟩
  have hp' := Classical.not_not.1 hnp
  clear hnp
  have C4 := Lib.hid (fun w => (CR'.out w).1 hp')
  have HP := Lib.hid hp
  have HP' := Lib.hid hp'
  have CE := Lib.hid (fun w => encode_any o r c k s w (right_less HP.out (by omega)) HQC.out)
  have CE' := Lib.hid (fun w => encode_any o' r' c' k' s' w (right_less HP'.out (by omega)) HQC'.out)
  have HBY := Lib.hid (enc_byt (right_less HP.out (by omega)) (nums_bd s))
  have HBY' := Lib.hid (enc_byt (right_less HP'.out (by omega)) (nums_bd s'))
  have h6 := enc_six hp
  have h6' := enc_six hp'
  have hap := Lib.hid (fun h => mkR_inj (apart HP.out HP'.out HQC.out HQC'.out h))
  obtain ⟨z, hz⟩ : ∃ z, z = encZ (mkR o r c s k) := ⟨_, rfl⟩
  obtain ⟨z', hz'⟩ : ∃ z, z = encZ (mkR o' r' c' s' k') := ⟨_, rfl⟩
  have HZZ := Lib.hid (show (o = o' ∧ r = r' ∧ c = c' ∧ s = s' ∧ k = k') → z = z' from by rintro ⟨rfl, rfl, rfl, rfl, rfl⟩; rw [hz, hz'])
  rw [← hz] at CE HBY h6 hap
  rw [← hz'] at CE' HBY' h6' hap
  obtain ⟨n, hn⟩ : ∃ n, z.length = n := ⟨_, rfl⟩
  obtain ⟨n', hn'⟩ : ∃ n, z'.length = n := ⟨_, rfl⟩
  rw [hn, hn'] at hap
  rw [hn] at h6
  rw [hn'] at h6'
  have HN := Lib.hid hn
  have HN' := Lib.hid hn'
  have heq := req_equal o r c k o' r' c' k' s s'
  clear hn hn' hz hz' hp hp' hl hl'
  go_enter Try.func10, Try.ntmps10
  go_upto_region 1 with (fail)
  obtain ⟨w0, hw0, hbk, hbl, hsz0⟩ := BOX.out w
  obtain ⟨w1, hw1, hbk', hbl', hsz1⟩ := BOX'.out w0
  change Code.wp _ _ _ _ ((w.alloc (.cells (reqC o r c s k) 24)).alloc (.cells (reqC o' r' c' s' k') 24))
  rw [hw0, hw1]
  obtain ⟨b0, hb0⟩ : ∃ b0, b0 = w.heap.size := ⟨_, rfl⟩
  rw [← hb0] at hbk hsz0 ⊢
  rw [hsz0] at hbk'
  have BK := Lib.hid (And.intro (hbk.keep hbl') hbk')
  have BL := Lib.hid (hbl.trans (hbl'.mono hbl.size))
  clear hbk hbk' hbl hbl' hsz0 hsz1 hw0 hw1 hb0
  go_upto_region 5 with (first
    | (go_at_call 12; ((with_reducible refine (fit_any _).mono ?_); rintro e w2 ⟨rfl, b2⟩; have BK2 := Lib.hid (keep2 BK.out b2); have BL2 := Lib.hid (BL.out.trans (b2.mono BL.out.size)); have k2 := BK2.out.1.rd; have l2 := BK2.out.2.rd; clear b2))
    | (go_at_call 13; ((with_reducible refine (C1.out _).mono ?_); rintro e w3 ⟨rfl, b3⟩; have BK3 := Lib.hid (keep2 BK2.out b3); have BL3 := Lib.hid (BL2.out.trans (b3.mono BL2.out.size)); have k3 := BK3.out.1.rd; have l3 := BK3.out.2.rd; clear b3))
    | (go_at_call 13; ((with_reducible refine (C2.out _).mono ?_); rintro e w4 ⟨rfl, b4⟩; have BK4 := Lib.hid (keep2 BK3.out b4); have BL4 := Lib.hid (BL3.out.trans (b4.mono BL3.out.size)); have k4 := BK4.out.1.rd; have l4 := BK4.out.2.rd; clear b4))
    | (go_at_call 15; ((with_reducible refine (C3.out _).mono ?_); rintro e w5 ⟨rfl, b5⟩; have BK5 := Lib.hid (keep2 BK4.out b5); have BL5 := Lib.hid (BL4.out.trans (b5.mono BL4.out.size)); have k5 := BK5.out.1.rd; have l5 := BK5.out.2.rd; clear b5))
    | (go_at_call 15; ((with_reducible refine (C4.out _).mono ?_); rintro e w6 ⟨rfl, b6⟩; have BK6 := Lib.hid (keep2 BK5.out b6); have BL6 := Lib.hid (BL5.out.trans (b6.mono BL5.out.size)); have k6 := BK6.out.1.rd; have l6 := BK6.out.2.rd; clear b6)))
  clear k2 l2 k3 l3 k4 l4 k5 l5
  clear k6 l6
  have y1 : ∀ i, w6.drew.cell? ⟨b0, i, none⟩ = (reqC o r c s k)[i]? := (Blk.drew BK6.out.1).rd
  have y2 : ∀ i, w6.drew.cell? ⟨b0 + 1, i, none⟩ = (reqC o' r' c' s' k')[i]? := (Blk.drew BK6.out.2).rd
  have y3 : Below w6.heap.size w6 w6.drew := below_draws (Below.refl _ _) 1
  have GE := Lib.hid (fun (wx : World) (hx : Below w6.heap.size w6 wx) => show Calls Try.prog 16 #[reqV o r c s k] wx (fun e w' => (∃ g c, e = .returned (.slice (some ⟨g, 0, none⟩) n c) ∧ RdI w' .u8 (some ⟨g, 0, none⟩) n c z ∧ Below wx.heap.size wx w') ∧ (∀ i, w'.cell? ⟨b0, i, none⟩ = (reqC o r c s k)[i]?) ∧ (∀ i, w'.cell? ⟨b0 + 1, i, none⟩ = (reqC o' r' c' s' k')[i]?) ∧ Below w6.heap.size w6 w') from (CE.out wx).mono (fun e w' hh => by
    obtain ⟨v, rfl, ho, hb⟩ := hh
    obtain ⟨g, c, rfl, hr, _⟩ := own_read ho HBY.out n HN.out (by omega)
    have hz := hx.trans (hb.mono hx.size)
    exact ⟨⟨g, c, rfl, hr, hb⟩, (BK6.out.1.keep hz).rd, (BK6.out.2.keep hz).rd, hz⟩))
  have GE' := Lib.hid (fun (wx : World) (hx : Below w6.heap.size w6 wx) => show Calls Try.prog 16 #[reqV o' r' c' s' k'] wx (fun e w' => (∃ g c, e = .returned (.slice (some ⟨g, 0, none⟩) n' c) ∧ RdI w' .u8 (some ⟨g, 0, none⟩) n' c z' ∧ Below wx.heap.size wx w') ∧ (∀ i, w'.cell? ⟨b0, i, none⟩ = (reqC o r c s k)[i]?) ∧ (∀ i, w'.cell? ⟨b0 + 1, i, none⟩ = (reqC o' r' c' s' k')[i]?) ∧ Below w6.heap.size w6 w') from (CE'.out wx).mono (fun e w' hh => by
    obtain ⟨v, rfl, ho, hb⟩ := hh
    obtain ⟨g, c, rfl, hr, _⟩ := own_read ho HBY'.out n' HN'.out (by omega)
    have hz := hx.trans (hb.mono hx.size)
    exact ⟨⟨g, c, rfl, hr, hb⟩, (BK6.out.1.keep hz).rd, (BK6.out.2.keep hz).rd, hz⟩))
  have HEQ := Lib.hid heq
  clear heq
  go_region_held3 (fun w' => (∀ i, w'.cell? ⟨b0, i, none⟩ = (reqC o r c s k)[i]?) ∧ (∀ i, w'.cell? ⟨b0 + 1, i, none⟩ = (reqC o' r' c' s' k')[i]?) ∧ Below w6.heap.size w6 w') (first | (refine ⟨?_, ?_, ?_⟩ <;> assumption) | go_keep)
    (first
      | (go_at_call 16; ((with_reducible refine (GE.out _ (by assumption)).mono ?_); rintro e wp ⟨⟨gp, cp, rfl, hrp, hbp⟩, z0, z1, z2⟩; have HRP := Lib.hid (And.intro hrp hbp); clear hrp hbp))
      | (go_at_call 16; ((with_reducible refine (GE'.out _ (by assumption)).mono ?_); rintro e wq ⟨⟨gq, cq, rfl, hrq, hbq⟩, z0, z1, z2⟩; have HRQ := Lib.hid (And.intro hrq hbq); clear hrq hbq)))
  have HRP2 := Lib.hid (HRP.out.1.below HRQ.out.2)
  have HB := Lib.hid (BL6.out.trans (z2.mono BL6.out.size))
  have gp1 : (n : Int) ≤ (cp : Int) := by have := HRP2.out.cap; omega
  have gp2 : (cp : Int) ≤ 9223372036854775807 := by have := HRP2.out.max; unfold maxLen at this; omega
  have gq1 : (n' : Int) ≤ (cq : Int) := by have := HRQ.out.1.cap; omega
  have gq2 : (cq : Int) ≤ 9223372036854775807 := by have := HRQ.out.1.max; unfold maxLen at this; omega
  clear y1 y2 y3 GE GE'
  by_cases hsame : o = o' ∧ r = r' ∧ c = c' ∧ s = s' ∧ k = k'
  · have hz := HZZ.out hsame
    obtain ⟨rfl, rfl, rfl, rfl, rfl⟩ := hsame
    subst hz
    have hnn : n' = n := by rw [← HN.out, ← HN'.out]
    subst hnn
    have hcv := conv_str (P := Try.prog) (src := 25) (dst := 9) (e := 5) (by rfl) (by rfl) (by rfl) HRP2.out
    have hcv' := conv_str (P := Try.prog) (src := 25) (dst := 9) (e := 5) (by rfl) (by rfl) (by rfl) HRQ.out.1
    have heq : ∀ w, (Op.equalIn 10000 24 (.agg (reqC o r c s k)) (.agg (reqC o r c s k))).run Try.prog w = .ok true w := fun w => by rw [HEQ.out w]; simp
    go_wp2
    go_ret
    exact ⟨ret_bool (by simp), HB.out⟩
  · have heq : ∀ w, (Op.equalIn 10000 24 (.agg (reqC o r c s k)) (.agg (reqC o' r' c' s' k'))).run Try.prog w = .ok false w := fun w => by rw [HEQ.out w]; simp [hsame]
    have HNS := Lib.hid hsame
    clear hsame
    go_upto_region 9 with (fail)
    obtain ⟨M, hM⟩ : ∃ M, M = min n n' := ⟨_, rfl⟩
    have em : (if n' < n then (n' : Int) else (n : Int)) = (M : Int) := by rw [hM]; split <;> omega
    rw [em]
    have gm1 : (M : Int) ≤ (cp : Int) := by omega
    have gm2 : (M : Int) ≤ (cq : Int) := by omega
    have rp := rdI_take HRP2.out (show M ≤ n by omega)
    have rq := rdI_take HRQ.out.1 (show M ≤ n' by omega)
    have HNE := Lib.hid (show strOfNums (z.take M) ≠ strOfNums (z'.take M) from fun e => by
      have h1 := (str_inj (byt_take HBY.out M) (byt_take HBY'.out M)).1 e
      rw [hM] at h1
      exact HNS.out (hap.out h1))
    have hcv : ∀ d, (convert 25 9 (.slice (some ⟨gp, 0, none⟩) M cp)).run Try.prog (wq.drewN d) = .ok (.string (strOfNums (z.take M))) (wq.drewN d) := fun d => conv_str (P := Try.prog) (by rfl) (by rfl) (by rfl) (rp.below (below_draws (Below.refl _ _) d))
    have hcv' : ∀ d, (convert 25 9 (.slice (some ⟨gq, 0, none⟩) M cq)).run Try.prog (wq.drewN d) = .ok (.string (strOfNums (z'.take M))) (wq.drewN d) := fun d => conv_str (P := Try.prog) (by rfl) (by rfl) (by rfl) (rq.below (below_draws (Below.refl _ _) d))
    have HM := Lib.hid hM
    clear rp rq hM em
    go_quiet (fail)
    have hb : ((strOfNums (z.take M)).toList == (strOfNums (z'.take M)).toList) = false := by
      refine beq_eq_false_iff_ne.2 (fun e => HNE.out ?_)
      rw [ByteArray.toList_eq, ByteArray.toList_eq] at e
      exact ByteArray.ext (Array.ext' e)
    rw [hb]
    clear hb hcv hcv'
    go_wp2
    go_ret
    exact ⟨rfl, below_draws HB.out _⟩
end Go.Proofs.Ytdhdheakhcddbaa
