/- The law SummaryBytes of layer 8, walked. -/
import Derived.Test.YtnpiimaapholiaaSmW
import Derived.Test.YtnpiimaapholiaaBits
namespace Go.Proofs.Ytnpiimaapholiaa
set_option linter.unusedSimpArgs false
set_option linter.unusedVariables false
open Go.ChangeShapes Go.WideShapes Go.ChangeAt Go.RowKit
theorem smbytes_any (n : Nat) (hn : n ≤ 65536) (w : World) : Calls Try.prog 24 #[.int .i64 (n : Int)] w fun e w' => e = .returned (.int .i64 (101 * (n : Int) + 4)) ∧ w = w' := by
  have CK := Lib.hid (fun w => bytes_any (n : Int) (by omega) w)
  have CI := Lib.hid (fun w => ixbytes_any n hn w)
  obtain ⟨v, hv⟩ : ∃ v : Int, v = 4 * ((2 * n + 1 : Nat) : Int) := ⟨_, rfl⟩
  rw [← hv] at CI
  have t0 : (n : Int) ≤ 65536 := by omega
  have t1 : v = 8 * (n : Int) + 4 := by omega
  clear hv hn
  go_enter Try.func24, Try.ntmps24
  go_wp2_with (first
    | (go_at_call 34; ((with_reducible refine (CK.out _).mono ?_); rintro e w1 ⟨rfl, rfl⟩))
    | (go_at_call 35; ((with_reducible refine (CI.out _).mono ?_); rintro e w1 ⟨rfl, rfl⟩)))
  go_ret
  exact ⟨ret_i (by omega), rfl⟩
theorem four_get (a b c d : Int) {i : Nat} (h : i < 4) : (#[.int .i64 a, .int .i64 b, .int .i64 c, .int .i64 d] : Array Value)[i]? = some (.int .i64 ([a, b, c, d].getD i 0)) ∧ [a, b, c, d].getD i 0 ∈ [a, b, c, d] := by
  match i, h with
  | 0, _ => exact ⟨rfl, by simp⟩
  | 1, _ => exact ⟨rfl, by simp⟩
  | 2, _ => exact ⟨rfl, by simp⟩
  | 3, _ => exact ⟨rfl, by simp⟩
set_option maxRecDepth 100000 in
set_option maxHeartbeats 2000000 in
theorem smbytes_law (w : World) (n : Int) (hn : -9223372036854775808 ≤ n ∧ n ≤ 9223372036854775807) :
    Calls Try.prog 10 #[.int .i64 n] w fun e w' => e = .returned (.bool true) ∧ Below w.heap.size w w' := by
  obtain ⟨y, hy⟩ : ∃ y, y = n % 4096 := ⟨_, rfl⟩
  have m1 : bits .and .i64 n 4095 = y := by rw [hy]; exact i64_mask12 n
  obtain ⟨k, hk⟩ : ∃ k : Nat, (k : Int) = y + 1 := ⟨(y + 1).toNat, by omega⟩
  have e1 : IntKind.i64.wrap (y + 1) = (k : Int) := by rw [IntKind.wrap_i64]; omega
  have hkb : 1 ≤ k ∧ k ≤ 4096 := by omega
  obtain ⟨v, hv⟩ : ∃ v, v = 101 * (k : Int) + 4 := ⟨_, rfl⟩
  obtain ⟨u, hu⟩ : ∃ u, u = 101 * (k : Int) := ⟨_, rfl⟩
  have e2 : IntKind.i64.wrap ((k : Int) * 101) = u := by rw [IntKind.wrap_i64]; omega
  have e3 : IntKind.i64.wrap (u + 4) = v := by rw [IntKind.wrap_i64]; omega
  have b1 : (v != v) = false := by simp
  have CB := Lib.hid (fun wx => smbytes_any k (by omega) wx)
  rw [← hv] at CB
  obtain ⟨t, ht⟩ : ∃ t, t = n.tmod 70 := ⟨_, rfl⟩
  have e4 : n.tmod 70 = t := ht.symm
  have htb : -70 < t ∧ t < 70 := by
    rw [ht]
    have h1 := Int.tmod_lt_of_pos n (show (0 : Int) < 70 by omega)
    have h2 : (0:Int) - 70 < n.tmod 70 := by
      rcases Int.le_total 0 n with h | h
      · have := Int.tmod_nonneg 70 h; omega
      · have := Int.neg_tmod n 70
        have h3 := Int.tmod_lt_of_pos (-n) (show (0 : Int) < 70 by omega)
        omega
    omega
  have e5 : IntKind.i64.wrap t = t := by rw [IntKind.wrap_i64]; omega
  have HB := Lib.hid (show ∀ z ∈ [n, t, 64, 65], -9223372036854775808 ≤ z ∧ z ≤ 9223372036854775807 from by
    intro z hz
    simp only [List.mem_cons, List.not_mem_nil, or_false] at hz
    rcases hz with rfl | rfl | rfl | rfl <;> omega)
  clear hy hk hv hu ht hkb htb hn
  go_enter Try.func10, Try.ntmps10
  go_upto_region 3 with (go_at_call 11; ((refine (smfit_any _).mono ?_); rintro e w3 ⟨rfl, b3⟩; have B3 := Lib.hid b3; clear b3))
  go_upto_region 6 with (go_at_call 24; ((with_reducible refine (CB.out _).mono ?_); rintro e w4 ⟨rfl, rfl⟩))
  obtain ⟨w5, hw5, k5, l5, s5⟩ := box_new w3 #[.int .i64 n, .int .i64 t, .int .i64 64, .int .i64 65] 3
  obtain ⟨sb, hsb⟩ : ∃ x, x = w3.heap.size := ⟨_, rfl⟩
  rw [← hsb] at k5
  have HS := Lib.hid hsb
  have K5 := Lib.hid k5
  have B5 := Lib.hid (G.below_on B3.out l5)
  clear hsb k5 l5 s5 m1 e1 e2 e3
  obtain ⟨X, hX⟩ : ∃ x, x = dX 2 3 4 := ⟨_, rfl⟩
  obtain ⟨Y, hY⟩ : ∃ x, x = dA 2 3 4 := ⟨_, rfl⟩
  obtain ⟨Z, hZ⟩ : ∃ x, x = dB 2 3 4 := ⟨_, rfl⟩
  have hl := d_lt 2 3 4
  have CR := Lib.hid (fun wx => show Calls Try.prog 14 #[.agg #[.int .u64 2, .int .u64 3, .int .u64 4]] wx _ from smrow_any 2 3 4 (by omega) (by omega) (by omega) wx)
  rw [← hX, ← hY, ← hZ] at CR hl
  have HXL := Lib.hid hl
  clear hX hY hZ hl
  go_wp2
  rw [← HS.out]
  clear hw5
  go_loopg [22] 4 (fun kk si wr => ∃ i : Nat, Hid (i ≤ 4) ∧ Hid (kk = 4 - i) ∧ si = .int .i64 (i : Int) ∧ Hid (Below w5.heap.size w5 wr))
  case atStart => exact ⟨0, Lib.hid (by omega), Lib.hid rfl, rfl, Lib.hid (Below.refl _ _)⟩
  case round =>
    obtain ⟨i, HI, HK, rfl, HW⟩ := hrel
    by_cases hi : i < 4
    · have hf := four_get n t 64 65 hi
      obtain ⟨z, hz⟩ : ∃ z, z = [n, t, 64, 65].getD i 0 := ⟨_, rfl⟩
      rw [← hz] at hf
      have c0 : wr.cell? ⟨sb, i, none⟩ = some (.int .i64 z) := by rw [blk_cell (K5.out.keep HW.out)]; exact hf.1
      have hzb := HB.out z hf.2
      have t1 : (i : Int) < 4 := by omega
      have t2 : (0 : Int) ≤ (i : Int) := by omega
      have fi : IntKind.i64.wrap ((i : Int) + 1) = ((i + 1 : Nat) : Int) := by rw [IntKind.wrap_i64]; omega
      have HJ := Lib.hid hi
      clear hf hz hi
      by_cases h1 : 1 ≤ z
      · by_cases h2 : z ≤ 64
        · obtain ⟨zn, hzn⟩ : ∃ zn : Nat, (zn : Int) = z := ⟨z.toNat, by omega⟩
          have CN := Lib.hid (fun wx (hb : Below wr.heap.size wr wx) => show Calls Try.prog 13 #[.int .i64 z, .agg #[.int .u64 X, .int .u64 Y, .int .u64 Z]] wx _ from by
            have := smnewM (W := wr) X Y Z HXL.out.1 HXL.out.2.1 HXL.out.2.2 zn (by omega) (by omega) hb
            rw [hzn] at this
            exact this)
          have d1 : decide ((1 : Int) ≤ z) = true := by rw [decide_eq_true_iff]; exact h1
          have d2 : decide (z ≤ (64 : Int)) = true := by rw [decide_eq_true_iff]; exact h2
          clear h1 h2 hzn hzb
          go_wp2_with (first
            | (go_at_call 14; ((with_reducible refine (CR.out _).mono ?_); rintro e w6 ⟨rfl, b6⟩; have B6 := Lib.hid b6; clear b6))
            | (go_at_call 13; ((with_reducible refine (CN.out _ B6.out).mono ?_); rintro e w7 ⟨Q, rfl, h7, hn7⟩; have B7 := Lib.hid h7.bl; clear h7 hn7)))
          go_roundg (4 - (i + 1))
          case measure => have := HK.out; have := HJ.out; omega
          case rel => exact ⟨i + 1, Lib.hid HJ.out, Lib.hid rfl, rfl, Lib.hid (G.below_on HW.out B7.out)⟩
        · have CN := Lib.hid (fun wx => smnew_no z (by omega) (.agg #[.int .u64 (X : Int), .int .u64 (Y : Int), .int .u64 (Z : Int)]) ⟨_, _, _, rfl⟩ wx)
          have d1 : decide ((1 : Int) ≤ z) = true := by rw [decide_eq_true_iff]; exact h1
          have d2 : decide (z ≤ (64 : Int)) = false := by rw [decide_eq_false_iff_not]; exact h2
          clear h1 h2 hzb
          go_wp2_with (first
            | (go_at_call 14; ((with_reducible refine (CR.out _).mono ?_); rintro e w6 ⟨rfl, b6⟩; have B6 := Lib.hid b6; clear b6))
            | (go_at_call 13; ((with_reducible refine (CN.out _).mono ?_); rintro e w7 ⟨rfl, b7⟩; have B7 := Lib.hid (G.below_on B6.out b7); clear b7)))
          go_roundg (4 - (i + 1))
          case measure => have := HK.out; have := HJ.out; omega
          case rel => exact ⟨i + 1, Lib.hid HJ.out, Lib.hid rfl, rfl, Lib.hid (G.below_on HW.out B7.out)⟩
      · have CN := Lib.hid (fun wx => smnew_no z (by omega) (.agg #[.int .u64 (X : Int), .int .u64 (Y : Int), .int .u64 (Z : Int)]) ⟨_, _, _, rfl⟩ wx)
        have d1 : decide ((1 : Int) ≤ z) = false := by rw [decide_eq_false_iff_not]; exact h1
        clear h1 hzb
        go_wp2_with (first
          | (go_at_call 14; ((with_reducible refine (CR.out _).mono ?_); rintro e w6 ⟨rfl, b6⟩; have B6 := Lib.hid b6; clear b6))
          | (go_at_call 13; ((with_reducible refine (CN.out _).mono ?_); rintro e w7 ⟨rfl, b7⟩; have B7 := Lib.hid (G.below_on B6.out b7); clear b7)))
        go_roundg (4 - (i + 1))
        case measure => have := HK.out; have := HJ.out; omega
        case rel => exact ⟨i + 1, Lib.hid HJ.out, Lib.hid rfl, rfl, Lib.hid (G.below_on HW.out B7.out)⟩
    · have hie : ¬ (i : Int) < 4 := by omega
      clear hi
      go_wp2
      go_ret
      exact ⟨rfl, G.below_on B5.out HW.out⟩
end Go.Proofs.Ytnpiimaapholiaa
