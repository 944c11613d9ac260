/- The reference's cell (weighbridgeref09): young, Room. -/
import Derived.Test.YtfegoehiopkcnaaRn
namespace Go.Proofs.Ytfegoehiopkcnaa.R9
set_option linter.unusedSimpArgs false
set_option linter.unusedVariables false
set_option maxRecDepth 100000
open Go Go.ChangeShapes Go.WideShapes Go.ChangeAt Go.RowKit
section
variable {F S C D U W B L t : Int} (x1 x2 x3 x4 x5 : Int) (sm : Bool)
set_option maxHeartbeats 2000000 in
theorem young_any (hc : Ce F S C D t) (hW : 1 ≤ W ∧ W ≤ 1048576) (w : World) (y : Bool) (hy : y = decide (t < S + W)) :
    Calls Try.prog 32 #[cvV F S C D, rvV L W B x1 x2 x3 x4 x5 sm, .int .i64 t] w fun e w' => e = .returned (.bool y) ∧ Below w.heap.size w w' := by
  obtain ⟨d, hd⟩ : ∃ z, z = t - S := ⟨_, rfl⟩
  have e1 : t - S = d := hd.symm
  have hS := hc.S
  have ht := hc.t
  have u1 : decide (d < W) = y := by rw [hy, hd]; by_cases q : t < S + W; rw [decide_eq_true q, decide_eq_true (by omega)]; rw [decide_eq_false q, decide_eq_false (by omega)]
  obtain ⟨w1, hw1, k1, b1, s1⟩ := box9 w (cvC F S C D) 38
  obtain ⟨w2, hw2, k2, b2, s2⟩ := box9 w1 (rvC L W B x1 x2 x3 x4 x5 sm) 28
  have K1 := Lib.hid (Blk.keep k1 b2)
  have B2 := Lib.hid (G.below_on b1 b2)
  have k1r := K1.out.rd
  have k2r := k2.rd
  clear hd hc hy k1 b1 s1 b2 s2
  go_enter Try.func32, Try.ntmps32
  go_wp2
  go_ret
  exact ⟨rfl, B2.out⟩
set_option maxHeartbeats 8000000 in
theorem room_any (h : Ru U W B L) (hc : Ce F S C D t) (w : World) :
    Calls Try.prog 18 #[cvV F S C D, rvV L W B x1 x2 x3 x4 x5 sm, .int .i64 t] w fun e w' => e = .returned (.int .i64 (room F S C D U W B L t)) ∧ Below w.heap.size w w' := by
  have hub := h.ub
  have hB := h.B
  have hL := h.L
  obtain ⟨w1, hw1, k1, b1, s1⟩ := box9 w #[.int .i64 F, .int .i64 S, .int .i64 C, .int .i64 D] 38
  obtain ⟨w2, hw2, k2, b2, s2⟩ := box9 w1 #[.int .i64 L, .int .i64 W, .int .i64 B, .int .i64 x1, .int .i64 x2, .int .i64 x3, .int .i64 x4, .int .i64 x5, .bool sm] 28
  obtain ⟨w3, hw3, k3, b3, s3⟩ := box9 w2 #[.int .i64 F, .int .i64 S, .int .i64 C, .int .i64 D] 38
  obtain ⟨cb, hcb⟩ : ∃ z, z = w.heap.size := ⟨_, rfl⟩
  obtain ⟨rb, hrb⟩ : ∃ z, z = w1.heap.size := ⟨_, rfl⟩
  obtain ⟨db, hdb⟩ : ∃ z, z = w2.heap.size := ⟨_, rfl⟩
  have HBX := Lib.hid (And.intro hcb (And.intro hrb hdb))
  rw [← hcb] at k1
  rw [← hrb] at k2
  rw [← hdb] at k3
  have NE := Lib.hid (show cb ≠ db ∧ rb ≠ db ∧ w.heap.size ≤ db from ⟨by omega, by omega, by omega⟩)
  have KC := Lib.hid (Blk.keep (Blk.keep k1 b2) b3)
  have KR := Lib.hid (Blk.keep k2 b3)
  have KD := Lib.hid (show CAt w3 db F S C D from k3)
  have B3 := Lib.hid (G.below_on (G.below_on b1 b2) b3)
  have HR := Lib.hid h
  have HC := Lib.hid hc
  have k1r := (Blk.keep k1 b2).rd
  clear k1 b1 s1 b2 s2 k3 b3 s3 hcb hrb hdb h hc k2
  go_enter Try.func18, Try.ntmps18
  go_upto_region 2 with (fail)
  rw [← HBX.out.1, ← HBX.out.2.1]
  clear hw1 hw2
  go_wp2
  rw [← HBX.out.2.2]
  clear hw3 k1r
  go_loopg [7] B.toNat (fun kk nv wq => ∃ k : Int, Hid (kk = (B - k).toNat) ∧ Hid (0 ≤ k ∧ k ≤ base F U B t) ∧ nv = .int .i64 k ∧ Hid (CAt wq db (fz F U t k) S C D) ∧ Hid (Blk wq cb 38 #[.int .i64 F, .int .i64 S, .int .i64 C, .int .i64 D]) ∧ Hid (Blk wq rb 28 #[.int .i64 L, .int .i64 W, .int .i64 B, .int .i64 x1, .int .i64 x2, .int .i64 x3, .int .i64 x4, .int .i64 x5, .bool sm]) ∧ Hid (Fr (fun k => k = db) w3 wq))
  case atStart => exact ⟨0, Lib.hid (by rw [Int.sub_zero]), Lib.hid ⟨Int.le_refl _, base_lo⟩, rfl, Lib.hid (by rw [fz_zero]; exact KD.out), KC, KR, Lib.hid (Fr.refl _ _)⟩
  case round =>
    obtain ⟨k, HK, HB, rfl, HD, HC2, HR2, HF⟩ := hrel
    have hbh := base_hi (F := F) (U := U) (t := t) (show 0 ≤ B by omega)
    have hkb := HB.out
    have hk0 : 0 ≤ k ∧ k ≤ B := by omega
    have kr := HR2.out.rd
    have hfz := Lib.hid (fz_max (F := F) (t := t) (show 0 ≤ U by omega) hk0.1)
    have CE := Lib.hid (show Ce (fz F U t k) S C D t from ⟨by
      have h1 := HC.out.F
      have h2 := HR.out.bu hk0.1 hk0.2
      have h3 := HC.out.t
      have h4 := hfz.out
      have h5 : k = 0 ∨ 1 ≤ k := by omega
      rcases h5 with e | e
      · rw [e, fz_zero]; exact h1
      · have h6 := (base_iff (F := F) (t := t) (B := B) hub.1 e).1 hkb.2
        have h7 := HR.out.bu (Int.le_trans (by omega) hB.1) (Int.le_refl B)
        unfold fz
        rw [if_neg (by omega)]
        omega, HC.out.S, HC.out.C, HC.out.D, HC.out.t⟩)
    by_cases hgo : k + 1 ≤ base F U B t
    · have hi := (one_iff (F := F) (t := t) (B := B) hub.1 hk0.1).1 hgo
      have u1 : decide (k < B) = true := by rw [decide_eq_true_iff]; exact hi.1
      have HGO := Lib.hid hgo
      have CO := Lib.hid (one_yes x1 x2 x3 x4 x5 sm HR.out CE.out db wr HD.out hi.2)
      have HFN := Lib.hid (show max (fz F U t k) t + U = fz F U t (k + 1) from by
        rw [hfz.out]
        unfold fz
        rw [if_neg (by omega), Int.add_mul, Int.one_mul]
        omega)
      clear hi hgo hbh hkb
      go_wp2_with (go_at_call 31; (refine CO.out.mono ?_; rintro e y1 ⟨rfl, a1, f1⟩; have A1 := Lib.hid a1; have F1 := Lib.hid f1; clear a1 f1))
      go_roundg (B - (k + 1)).toNat
      case measure => have := HK.out; have := hk0; have h3 := HGO.out; have h4 := base_hi (F := F) (U := U) (t := t) (show 0 ≤ B by omega); omega
      case rel => exact ⟨k + 1, Lib.hid rfl, Lib.hid ⟨by omega, HGO.out⟩, rfl, Lib.hid (by rw [← HFN.out]; exact A1.out), Lib.hid (HC2.out.fr F1.out NE.out.1), Lib.hid (HR2.out.fr F1.out NE.out.2.1), Lib.hid (HF.out.trans F1.out)⟩
    · have HEND := Lib.hid (show k = base F U B t by omega)
      by_cases hkB : k < B
      focus
        have u1 : decide (k < B) = true := by rw [decide_eq_true_iff]; exact hkB
        have CO := Lib.hid (one_no x1 x2 x3 x4 x5 sm HR.out CE.out db wr HD.out (by
          have := (one_iff (F := F) (t := t) (B := B) hub.1 hk0.1)
          by_cases q : max (fz F U t k) t ≤ t + (B - 1) * U
          · exact absurd (this.2 ⟨hkB, q⟩) hgo
          · omega))
        clear hgo hkB hbh hkb
        go_upto_region 5 with (go_at_call 31; (refine CO.out.mono ?_; rintro e y1 ⟨rfl, d1⟩; have D1 := Lib.hid d1; clear d1))
        have KC5 := Lib.hid (HC2.out.keep D1.out)
        have KR5 := Lib.hid (HR2.out.keep D1.out)
        have F5 := Lib.hid (HF.out.trans (Fr.of_below D1.out))
        clear CO u1 D1
      rotate_left
      focus
        have u1 : decide (k < B) = false := by rw [decide_eq_false_iff_not]; exact hkB
        clear hgo hkB hbh hkb
        go_upto_region 5 with (fail)
        have KC5 := Lib.hid HC2.out
        have KR5 := Lib.hid HR2.out
        have F5 := Lib.hid HF.out
        clear u1
      rotate_left
      all_goals
        clear kr
        have kc5 := KC5.out.rd
        have kr5 := KR5.out.rd
        have B5 := Lib.hid (B3.out.trans (F5.out.below B3.out.size (fun g hg => by rw [hg]; exact NE.out.2.2)))
        have hCb := HC.out.C
        have hDb := HC.out.D
        by_cases hy : t < S + W
        · have CY := Lib.hid (fun wx => young_any (L := L) (B := B) x1 x2 x3 x4 x5 sm HC.out HR.out.W wx true (decide_eq_true hy).symm)
          have HRO := Lib.hid (show room F S C D U W B L t = min k (max 0 (L - (C + D))) from by rw [HEND.out]; unfold room rest; rw [if_pos hy])
          clear hy
          go_upto_region 6 with (go_at_call 32; (refine (CY.out _).mono ?_; rintro e y2 ⟨rfl, d2⟩; have KC6 := Lib.hid (KC5.out.keep d2); have KR6 := Lib.hid (KR5.out.keep d2); have B6 := Lib.hid (G.below_on B5.out d2); clear d2))
          clear kc5 kr5 CY
          have kc6 := KC6.out.rd
          have kr6 := KR6.out.rd
          obtain ⟨l1, hl1⟩ : ∃ z, z = L - C := ⟨_, rfl⟩
          have e1 : L - C = l1 := hl1.symm
          have hl1b : -4611686018427387904 ≤ l1 ∧ l1 ≤ 1048576 := by omega
          obtain ⟨le, hle⟩ : ∃ z, z = l1 - D := ⟨_, rfl⟩
          have e2 : l1 - D = le := hle.symm
          have hleb : -5764607523034234880 ≤ le ∧ le ≤ 1048576 := by omega
          have HLE := Lib.hid (show L - (C + D) = le by omega)
          clear hl1 hle
          by_cases hneg : le < 0
          · have u1 : decide (le < 0) = true := by rw [decide_eq_true_iff]; exact hneg
            have HNG := Lib.hid hneg
            clear hneg
            by_cases hk : 0 < k
            · have u2 : decide (0 < k) = true := by rw [decide_eq_true_iff]; exact hk
              have HFI := Lib.hid (show room F S C D U W B L t = 0 from by rw [HRO.out, HLE.out]; have := HNG.out; omega)
              clear hk
              go_wp2
              go_ret
              exact ⟨by rw [HFI.out]; rfl, B6.out⟩
            · have u2 : decide (0 < k) = false := by rw [decide_eq_false_iff_not]; exact hk
              have HFI := Lib.hid (show room F S C D U W B L t = k from by rw [HRO.out, HLE.out]; have := HNG.out; omega)
              clear hk
              go_wp2
              go_ret
              exact ⟨by rw [HFI.out]; rfl, B6.out⟩
          · have u1 : decide (le < 0) = false := by rw [decide_eq_false_iff_not]; exact hneg
            have HNG := Lib.hid hneg
            clear hneg
            by_cases hk : le < k
            · have u2 : decide (le < k) = true := by rw [decide_eq_true_iff]; exact hk
              have HFI := Lib.hid (show room F S C D U W B L t = le from by rw [HRO.out, HLE.out]; have := HNG.out; omega)
              clear hk
              go_wp2
              go_ret
              exact ⟨by rw [HFI.out]; rfl, B6.out⟩
            · have u2 : decide (le < k) = false := by rw [decide_eq_false_iff_not]; exact hk
              have HFI := Lib.hid (show room F S C D U W B L t = k from by rw [HRO.out, HLE.out]; have := HNG.out; omega)
              clear hk
              go_wp2
              go_ret
              exact ⟨by rw [HFI.out]; rfl, B6.out⟩
        · have CY := Lib.hid (fun wx => young_any (L := L) (B := B) x1 x2 x3 x4 x5 sm HC.out HR.out.W wx false (decide_eq_false hy).symm)
          have HRO := Lib.hid (show room F S C D U W B L t = k from by rw [HEND.out]; unfold room; rw [if_neg hy])
          clear hy
          go_wp2_with (go_at_call 32; (refine (CY.out _).mono ?_; rintro e y2 ⟨rfl, d2⟩; have B6 := Lib.hid (G.below_on B5.out d2); clear d2))
          go_ret
          exact ⟨by rw [HRO.out]; rfl, B6.out⟩
end
end Go.Proofs.Ytfegoehiopkcnaa.R9
