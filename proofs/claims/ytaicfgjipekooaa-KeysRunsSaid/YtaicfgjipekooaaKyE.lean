/- The laws of layer 4 (keys), walked: none. -/
import Derived.Test.YtaicfgjipekooaaKyF
import Derived.Test.YtaicfgjipekooaaBits
namespace Go.Proofs.Ytaicfgjipekooaa
open Go.ChangeShapes Go.WideShapes Go.ChangeAt Go.RowKit
set_option maxHeartbeats 2000000 in
set_option maxRecDepth 100000 in
theorem none_law (w : World) (a : Int) (s : ByteArray) (ha : -9223372036854775808 ≤ a ∧ a ≤ 9223372036854775807) (hs0 : s.size ≤ maxLen) :
    Calls Try.prog 4 #[.int .i64 a, .string s] w fun e w' => e = .returned (.bool true) ∧ Below w.heap.size w w' := by
  unfold maxLen at hs0
  by_cases hn : (300 : Int) < (s.size : Int)
  · go_enter Try.func4, Try.ntmps4
    go_wp2_with (go_at_call 7; refine (fit_any _).mono ?_; rintro e w1 ⟨rfl, b1⟩)
    go_ret
    exact ⟨rfl, b1⟩
  have hnf : decide ((300 : Int) < (s.size : Int)) = false := by simpa using hn
  obtain ⟨r, hr10⟩ : ∃ r, r = a.tmod 100 := ⟨_, rfl⟩
  have er : a.tmod 100 = r := hr10.symm
  obtain ⟨k, hk⟩ : ∃ k, k = a % 4096 := ⟨_, rfl⟩
  have ek : bits .and .i64 a 4095 = k := by rw [i64_mask12, hk]
  have hkb : 0 ≤ k ∧ k ≤ 4095 := by omega
  have hc : ∃ mn : Int, ((131072 < a) = True ∧ mn = 131072) ∨ ((131072 < a) = False ∧ mn = a) := by
    by_cases h : 131072 < a
    · exact ⟨_, Or.inl ⟨eq_true h, rfl⟩⟩
    · exact ⟨_, Or.inr ⟨eq_false h, rfl⟩⟩
  obtain ⟨mn, hc⟩ := hc
  clear hr10 hk hn ha
  rcases hc with ⟨hc, rfl⟩ | ⟨hc, rfl⟩
  all_goals
    go_enter Try.func4, Try.ntmps4
    go_wp2_with (go_at_call 7; refine (fit_any _).mono ?_; rintro e w1 ⟨rfl, b1⟩; have B1 := Lib.hid b1; clear b1)
    obtain ⟨w2, e2, nl, b2, s2⟩ := box_new w1 #[.int .i64 _, .int .i64 r, .int .i64 65536, .int .i64 65537] 3
    rw [e2]
    generalize w1.heap.size = lb at nl ⊢
    have B2 := Lib.hid (below_on B1.out b2)
    have NL := Lib.hid nl
    clear e2 nl b2 s2 B1
    go_loopg [22] 4 (fun k si wr => ∃ i : Nat, i ≤ 4 ∧ k = 4 - i ∧ si = .int .i64 (i : Int) ∧ Below w2.heap.size w2 wr)
    case atStart => exact ⟨0, by omega, by omega, rfl, Below.refl _ _⟩
    case round =>
      obtain ⟨i, hi, hkk, rfl, hf⟩ := hrel
      have HK := Lib.hid hkk
      have HF := Lib.hid hf
      clear hkk hf
      by_cases hin : i < 4
      · have q0 : ∃ x : Int, wr.cell? ⟨lb, i, none⟩ = some (.int .i64 x) := by
          rw [blk_cell (NL.out.keep HF.out)]
          match i, hin with
          | 0, _ => exact ⟨_, rfl⟩
          | 1, _ => exact ⟨_, rfl⟩
          | 2, _ => exact ⟨_, rfl⟩
          | 3, _ => exact ⟨_, rfl⟩
        obtain ⟨x, q0⟩ := q0
        have hii : (i : Int) < 4 := by omega
        by_cases hx1 : 0 ≤ x ∧ x ≤ 65536
        · obtain ⟨nx, hnx⟩ : ∃ nx : Nat, x = (nx : Int) := ⟨x.toNat, by omega⟩
          subst hnx
          have c1 := new_yes nx (by omega) wr
          have C1 := Lib.hid c1
          have t1 : decide (0 ≤ (nx : Int)) = true := by simp
          have t2 : decide ((nx : Int) ≤ 65536) = true := by simp; omega
          have t2' : decide (nx ≤ 65536) = true := by simp; omega
          clear c1 hx1
          go_wp2_with (go_at_call 8; ((with_reducible refine C1.out.mono ?_); rintro e w3 ⟨b, gb, gs, gf, rfl, hb, b3, hbb⟩; have B3 := Lib.hid (below_on HF.out b3); clear hb b3 hbb))
          go_roundg (4 - (i + 1))
          case measure => have := HK.out; omega
          case rel => exact ⟨i + 1, by omega, by omega, by go_num, B3.out⟩
        · have c1 := new_no x (by omega) wr
          have C1 := Lib.hid c1
          by_cases hx2 : 0 ≤ x
          · have t1 : decide (0 ≤ x) = true := by simpa using hx2
            have t2 : decide (x ≤ 65536) = false := by simp; omega
            clear c1 hx1 hx2
            go_wp2_with (go_at_call 8; ((with_reducible refine C1.out.mono ?_); rintro e w3 ⟨rfl, rfl⟩))
            go_roundg (4 - (i + 1))
            case measure => have := HK.out; omega
            case rel => exact ⟨i + 1, by omega, by omega, by go_num, HF.out⟩
          · have t1 : decide (0 ≤ x) = false := by simpa using hx2
            clear c1 hx1 hx2
            go_wp2_with (go_at_call 8; ((with_reducible refine C1.out.mono ?_); rintro e w3 ⟨rfl, rfl⟩))
            go_roundg (4 - (i + 1))
            case measure => have := HK.out; omega
            case rel => exact ⟨i + 1, by omega, by omega, by go_num, HF.out⟩
      · have hii : i = 4 := by omega
        subst hii
        have BW := Lib.hid (below_on B2.out HF.out)
        have cb := fun w => bytes_any k ⟨hkb.1, by omega⟩ w
        have CB := Lib.hid cb
        clear cb hin hi HK
        go_wp2_with (go_at_call 10; ((with_reducible refine (free_nil _ _).mono ?_); rintro e w4 ⟨rfl, rfl⟩))
        refine (key_nil _ _).mono ?_
        rintro e w4 ⟨rfl, rfl⟩
        go_wp2_with (fail)
        refine (show Calls Try.prog 8 #[.int .i64 0] _ _ from new_yes 0 (by omega) _).mono ?_
        rintro e w5 ⟨b, gb, gs, gf, rfl, hb, b5, hbb⟩
        have H5 := Lib.hid (show KeysIn w5 b gb gs gf 0 [] (fun _ => none) from hb)
        have B5 := Lib.hid (below_on BW.out b5)
        have c3 : Calls Try.prog 13 #[.pointer (some ⟨b, 0, none⟩)] w5 fun e w' => e = .returned (.int .i64 0) ∧ w5 = w' := len_any w5 H5.out
        have C3 := Lib.hid c3
        clear hb b5 hbb c3
        go_wp2_with (first
          | (go_at_call 13; first
              | ((with_reducible refine (len_nil _).mono ?_); rintro e w6 ⟨rfl, rfl⟩)
              | ((with_reducible refine C3.out.mono ?_); rintro e w6 ⟨rfl, rfl⟩))
          | (go_at_call 14; ((with_reducible refine (used_nil _).mono ?_); rintro e w6 ⟨rfl, rfl⟩))
          | (go_at_call 9; first
              | ((with_reducible refine (put_nil s _).mono ?_); rintro e w6 ⟨rfl, rfl⟩)
              | ((with_reducible refine (put_no s w5 H5.out (Or.inr rfl)).mono ?_); rintro e w6 ⟨rfl, rfl⟩))
          | (go_at_call 12; ((with_reducible refine (is_nil _ s _).mono ?_); rintro e w6 ⟨rfl, rfl⟩))
          | (go_at_call 15; ((with_reducible refine (CB.out _).mono ?_); rintro e w6 ⟨rfl, rfl⟩)))
        go_ret
        exact ⟨rfl, B5.out⟩
end Go.Proofs.Ytaicfgjipekooaa
