/- The laws of layer 21 (report), walked: any bytes. -/
import Derived.Test.YtghhoofdbmgacaaDoorRpG
namespace Go.Proofs.YtghhoofdbmgacaaDoor
set_option linter.unusedSimpArgs false
set_option linter.unusedVariables false
open Go.ChangeShapes Go.WideShapes Go.ChangeAt Go.RowKit Go.Deep
theorem stp_le {z : List Int} {j : Nat} {r : Nat × List Int} (h : stp z j = some r) {i : Nat} (hi : i ≤ j) : ∃ t L, stp z i = some (t, L) := by
  cases e : stp z i with
  | none =>
    have := stp_none e (j - i)
    rw [show i + (j - i) = j by omega, h] at this
    cases this
  | some tl => exact ⟨tl.1, tl.2, rfl⟩
set_option maxHeartbeats 8000000 in
theorem any_law (w : World) (A : Option Addr) (n c : Nat) (z : List Int) (hr : RdI w .u8 A n c z) (ht : Tb w) :
    Calls Tryd.prog 5 #[.slice A n c] w fun e w' => e = .returned (.bool true) ∧ Below w.heap.size w w' := by
  have CF := Lib.hid (fit_any w ht)
  by_cases h1 : (3000 : Int) < (n : Int)
  · clear hr
    go_enter Tryd.func5, Tryd.ntmps5
    go_wp2_with (go_at_call 7; ((with_reducible refine CF.out.mono ?_); rintro e w1 ⟨rfl, b1⟩; have B1 := Lib.hid b1; clear b1))
    go_ret
    exact ⟨rfl, B1.out⟩
  have HR := Lib.hid hr
  have HT := Lib.hid ht
  have HN := Lib.hid (show n ≤ 3000 from by omega)
  have HBY := Lib.hid (rdI_hd hr)
  have HL := Lib.hid hr.len
  have CS1 := Lib.hid (fun wx (hx : Below w.heap.size w wx) => stream_any A n c z wx (by have := HN.out; omega) (HR.out.below hx) (HT.out.below hx))
  clear hr ht
  go_enter Tryd.func5, Tryd.ntmps5
  go_upto_region 6 with (first
    | (go_at_call 7; ((with_reducible refine CF.out.mono ?_); rintro e w1 ⟨rfl, b1⟩; have B1 := Lib.hid b1; clear b1))
    | (go_at_call 12; ((with_reducible refine (CS1.out _ B1.out).mono ?_); rintro e w2 ⟨j, t, L, rfl, p1, q1, b2⟩; have P1 := Lib.hid p1; have Q1 := Lib.hid q1; have B2 := Lib.hid (B1.out.trans (b2.mono B1.out.size)); clear b2 p1 q1)))
  have HS := Lib.hid (stp_ok HBY.out P1.out)
  have HSL := Lib.hid (stp_len HBY.out P1.out (by have := HN.out; have := HL.out; omega))
  obtain ⟨s, hs⟩ : ∃ s, s = strOfNums L := ⟨_, rfl⟩
  have HNS := Lib.hid (show nums s = L from by rw [hs]; exact nums_str (txt_u8 HS.out.2.2.2.1))
  have hss : (s.size : Int) ≤ 52010000 := by have h : s.size ≤ 52010000 := (by rw [hs, str_size]; exact HSL.out); omega
  have HCN := Lib.hid (show cnt (nums s) = j from by rw [HNS.out]; exact HS.out.2.2.2.2)
  have htn : t ≤ n := by have := HS.out.1; rw [HL.out] at this; exact this
  have hjt : j ≤ 3000 := by have := HS.out.2.1; have := HN.out; omega
  rw [← hs]
  have HJT := Lib.hid hjt
  have HTN := Lib.hid htn
  have B2' := Lib.hid B2.out
  clear hs hjt htn
  go_upto_region 8 with (fail)
  go_loopg [5, 26] s.size (fun k s5 s26 wr => ∃ i : Nat, i ≤ s.size ∧ k = s.size - i ∧ s26 = .int .i64 (i : Int) ∧ s5 = .int .i64 ((cnt ((nums s).take i) : Nat) : Int) ∧ Below w.heap.size w wr)
  case atStart => exact ⟨0, by omega, by omega, rfl, rfl, B2.out⟩
  case round =>
    obtain ⟨i, hi, hkk, rfl, rfl, hb⟩ := hrel
    have HK := Lib.hid hkk
    have HB := Lib.hid hb
    clear hkk hb
    by_cases hin : i < s.size
    · have HNX := Lib.hid (nums_at s i hin)
      obtain ⟨x, hx⟩ : ∃ x : Nat, x = (s[i]'hin).toNat := ⟨_, rfl⟩
      rw [← hx] at HNX
      have ex : (s[i]'hin).toNat = x := hx.symm
      have HCL := Lib.hid (show cnt ((nums s).take i) ≤ i from by
        have := List.countP_le_length (p := fun x => x == 10) (l := (nums s).take i)
        rw [List.length_take] at this
        unfold cnt
        omega)
      obtain ⟨q, hq⟩ : ∃ q, q = cnt ((nums s).take i) := ⟨_, rfl⟩
      rw [← hq] at HCL ⊢
      have HQ := Lib.hid hq
      have hqb : (q : Int) ≤ 52010000 := by have := HCL.out; omega
      clear hx hq
      by_cases hx10 : (x : Int) = 10
      · have HX := Lib.hid (show ((q : Int) + 1) = ((cnt ((nums s).take (i + 1)) : Nat) : Int) from by rw [HNX.out, cnt_app, ← HQ.out, hx10]; rfl)
        have g0 : ((x : Int) == 10) = true := by simpa using hx10
        go_wp2
        go_roundg (s.size - (i + 1))
        case measure => have := HK.out; omega
        case rel => exact ⟨i + 1, by omega, by omega, by go_num, by rw [← HX.out], HB.out⟩
      · have g0 : ((x : Int) == 10) = false := by simpa using hx10
        have HX := Lib.hid (show (q : Int) = ((cnt ((nums s).take (i + 1)) : Nat) : Int) from by
          rw [HNX.out, cnt_app, ← HQ.out]
          unfold cnt
          rw [List.countP_singleton, if_neg (by rw [g0]; simp)]
          rfl)
        go_wp2
        go_roundg (s.size - (i + 1))
        case measure => have := HK.out; omega
        case rel => exact ⟨i + 1, by omega, by omega, by go_num, by rw [← HX.out], HB.out⟩
    · have hie : i = s.size := by omega
      subst hie
      have HCE := Lib.hid (show cnt ((nums s).take s.size) = j from by rw [List.take_of_length_le (by rw [nums_length]; exact Nat.le_refl _)]; exact HCN.out)
      rw [HCE.out]
      have hjb : (j : Int) ≤ 3000 := by have := HJT.out; omega
      have htb : (t : Int) ≤ 3000 := by have := HTN.out; have := HN.out; omega
      have hnb : (n : Int) ≤ 3000 := by have := HN.out; omega
      go_upto_region 14 with (fail)
      go_loopg [6, 37] j (fun k s6 s37 wr => ∃ (i a : Nat) (M : List Int), i ≤ j ∧ k = j - i ∧ s37 = .int .i64 (i : Int) ∧ s6 = .int .i64 (a : Int) ∧ stp z i = some (a, M) ∧ Below w.heap.size w wr)
      case atStart => exact ⟨0, 0, [], by omega, by omega, rfl, rfl, rfl, HB.out⟩
      case round =>
        obtain ⟨i, a, M, hi, hkk, rfl, rfl, hst, hb⟩ := hrel
        have HK := Lib.hid hkk
        have HST := Lib.hid hst
        have HB' := Lib.hid hb
        have hsa := (stp_ok HBY.out hst).1
        rw [HL.out] at hsa
        obtain ⟨A', hsl, hr'⟩ := slice_tail (HR.out.below hb) hsa
        have hna : n - a ≤ 100000 := by have := HN.out; omega
        have hab : (a : Int) ≤ 3000 := by have := HN.out; omega
        have HAN := Lib.hid hsa
        clear hkk hst hb
        by_cases hij : i < j
        · obtain ⟨t1, L1, h2⟩ := stp_le P1.out (show i + 1 ≤ j by omega)
          obtain ⟨t0, L0, sd, m, h3, hrd, e3⟩ := stp_back h2
          have e4 := HST.out.symm.trans h3
          injection e4 with e4; injection e4 with e4 e5
          subst e4 e5
          obtain ⟨op, ru, v, re, rt, aa, dd, b, cc, wt, l, err⟩ := sd
          have CR := Lib.hid (read_yes A' (n - a) (c - a) (z.drop a) op ru v re rt aa dd b cc wt err l m _ hna hr' hrd)
          have HS2 := Lib.hid (stp_step HST.out hrd)
          have HMN := Lib.hid (show a + m ≤ n from by have := (frm_read (byt_drop HBY.out a) hrd).2.1; rw [List.length_drop, HL.out] at this; omega)
          have hmb : (m : Int) ≤ 3000 := by have := HN.out; have := HMN.out; omega
          obtain ⟨n', hn'⟩ : ∃ n', n' = n - a := ⟨_, rfl⟩
          obtain ⟨c', hc'⟩ : ∃ c', c' = c - a := ⟨_, rfl⟩
          rw [← hn', ← hc'] at CR hsl
          clear hr' hna hsa h2 h3 hrd e3 hn' hc'
          go_upto_region 16 with (go_at_call 13; ((with_reducible refine CR.out.mono ?_); rintro e w3 ⟨LA, LN, LC, rfl, hls, b3⟩; have B3 := Lib.hid (HB'.out.trans (b3.mono HB'.out.size)); clear b3 hls))
          obtain ⟨w4, hw4, hbk, hbl, hsz4⟩ := box_new w3 (sdC op ru v re rt aa dd b cc wt (.slice LA LN LC) err) 36
          change Code.wp _ _ _ _ (w3.alloc (.cells (sdC op ru v re rt aa dd b cc wt (.slice LA LN LC) err) 36))
          rw [hw4]
          have B4 := Lib.hid (B3.out.trans (hbl.mono B3.out.size))
          clear hw4 hbk hbl hsz4
          go_wp2
          go_roundg (j - (i + 1))
          case measure => have := HK.out; omega
          case rel => exact ⟨i + 1, a + m, _, by omega, by omega, by go_num, by go_num, HS2.out, B4.out⟩
        · have hie : i = j := by omega
          subst hie
          have e4 := HST.out.symm.trans P1.out
          injection e4 with e4; injection e4 with e4 e5
          subst e4 e5
          have hrn : readZ (z.drop a) = none := by
            cases hh : readZ (z.drop a) with
            | none => rfl
            | some sm => have := stp_step P1.out hh; rw [Q1.out] at this; cases this
          have CR := Lib.hid (read_no A' (n - a) (c - a) (z.drop a) _ hna hr' hrn)
          have hle : (a : Int) ≤ (n : Int) := by omega
          obtain ⟨n', hn'⟩ : ∃ n', n' = n - a := ⟨_, rfl⟩
          obtain ⟨c', hc'⟩ : ∃ c', c' = c - a := ⟨_, rfl⟩
          rw [← hn', ← hc'] at CR hsl
          clear hr' hna hsa hrn hn' hc' hle
          go_upto_region 21 with (go_at_call 13; ((with_reducible refine CR.out.mono ?_); rintro e w3 ⟨rfl, b3⟩; have B3 := Lib.hid (HB'.out.trans (b3.mono HB'.out.size)); clear b3))
          have hle : (a : Int) ≤ (n : Int) := by have := HAN.out; omega
          obtain ⟨w4, hw4, hbk, hbl, hsz4⟩ := box_new w3 (sdC 0 0 0 0 0 0 0 0 0 0 nilV 0) 36
          change Code.wp _ _ _ _ (w3.alloc (.cells (sdC 0 0 0 0 0 0 0 0 0 0 nilV 0) 36))
          rw [hw4]
          have B4 := Lib.hid (B3.out.trans (hbl.mono B3.out.size))
          clear hw4 hbk hbl hsz4
          go_wp2
          go_ret
          exact ⟨rfl, B4.out⟩
end Go.Proofs.YtghhoofdbmgacaaDoor
