/- The law ConnSums of layer 16, walked. -/
import Derived.Test.YtaghookljjpllaaCnF
import Derived.Test.YtaghookljjpllaaSlc
import Derived.Test.YtaghookljjpllaaDcG
import Derived.Test.YtaghookljjpllaaBits
namespace Go.Proofs.Ytaghookljjpllaa
set_option linter.unusedSimpArgs false
set_option linter.unusedVariables false
open Go.ChangeShapes Go.WideShapes Go.ChangeAt Go.RowKit
theorem sums_g (x : Int) : ∃ g : Nat, g ≤ 31 ∧ bits .and .i64 (x / 2) 31 = (g : Int) := by
  refine ⟨(x / 2 % 32).toNat, by omega, ?_⟩
  rw [i64_mask5]
  omega
theorem sums_hi {a g n : Nat} (ha : a ≤ n) (hn : n ≤ 1000) (hg : g ≤ 1000) : ∃ hi : Nat, IntKind.i64.wrap ((a : Int) + (g : Int)) = ((a + g : Nat) : Int) ∧ (if n < a + g then (n : Int) else ((a + g : Nat) : Int)) = (hi : Int) ∧ a ≤ hi ∧ hi ≤ n := by
  refine ⟨min (a + g) n, ?_, ?_, by omega, by omega⟩
  · rw [IntKind.wrap_i64]; omega
  · split <;> omega
theorem wrap_sum {a b : Nat} (h : a + b ≤ 1000000) : IntKind.i64.wrap ((a : Int) + (b : Int)) = ((a + b : Nat) : Int) := by rw [IntKind.wrap_i64]; omega
theorem wrap_le {z : Int} (h : -9223372036854775808 ≤ z ∧ z ≤ 9223372036854775807) : IntKind.i64.wrap z = z := by rw [IntKind.wrap_i64]; omega
set_option maxRecDepth 100000 in
set_option maxHeartbeats 2000000 in
theorem cnsums_law (w : World) (A : Option Addr) (n c : Nat) (zs : List Int) (A2 : Option Addr) (n2 c2 : Nat) (ss : List Int) (hr : RdI w .u8 A n c zs) (hr2 : RdI w .i64 A2 n2 c2 ss) :
    Calls Try.prog 9 #[.slice A n c, .slice A2 n2 c2] w fun e w' => e = .returned (.bool true) ∧ Below w.heap.size w w' := by
  have HR := Lib.hid hr
  have HR2 := Lib.hid hr2
  have hmx1 := hr.max
  have hcp1 := hr.cap
  have hmx2 := hr2.max
  have hcp2 := hr2.cap
  unfold maxLen at hmx1 hmx2
  have HL := Lib.hid hr.len
  have HL2 := Lib.hid hr2.len
  clear hr hr2
  go_enter Try.func9, Try.ntmps9
  go_upto_region 3 with (go_at_call 10; ((refine (cnfit_any _).mono ?_); rintro e w3 ⟨rfl, b3⟩; have B3 := Lib.hid b3; clear b3))
  by_cases hn : 800 < n
  · have t1 : decide ((800 : Int) < (n : Int)) = true := by rw [decide_eq_true_iff]; omega
    clear hn
    go_wp2
    go_ret
    exact ⟨rfl, B3.out⟩
  have t1 : decide ((800 : Int) < (n : Int)) = false := by rw [decide_eq_false_iff_not]; omega
  by_cases hn2 : 200 < n2
  · have t2 : decide ((200 : Int) < (n2 : Int)) = true := by rw [decide_eq_true_iff]; omega
    clear hn hn2
    go_wp2
    go_ret
    exact ⟨rfl, B3.out⟩
  have t2 : decide ((200 : Int) < (n2 : Int)) = false := by rw [decide_eq_false_iff_not]; omega
  have CN := Lib.hid (cnew_z 4 64 64 rfl (by omega) (by omega) w3)
  go_upto_region 6 with (go_at_call 11; ((with_reducible refine CN.out.mono ?_); rintro e w4 ⟨Kn, rfl, hs, hru, h1, lo, b1⟩; have H1 := Lib.hid h1; have LO := Lib.hid lo; have B4 := Lib.hid b1; have HSZ := Lib.hid hs; have HRU := Lib.hid hru; clear h1 lo b1 hs hru))
  have C5 := Lib.hid (c1_new H1.out (fun k hk => Nat.le_trans B3.out.size (LO.out k hk)) (G.below_on B3.out B4.out))
  obtain ⟨hb, hhb⟩ : ∃ x, x = w4.heap.size := ⟨_, rfl⟩
  rw [← hhb] at C5 ⊢
  generalize w4.alloc (.cells #[.slice none 0 0] 33) = w5 at C5 ⊢
  have CO := Lib.hid (copen_yes w5 C5.out.ch.c rfl)
  have HBY := Lib.hid (rdI_byt HR.out)
  have HN := Lib.hid (show n ≤ 800 ∧ n2 ≤ 200 by omega)
  have hn800 : (n : Int) ≤ 800 := by omega
  have hn200 : (n2 : Int) ≤ 200 := by omega
  clear hn hn2 hhb
  go_upto_region 7 with (go_at_call 15; ((with_reducible refine CO.out.mono ?_); rintro e w6 ⟨rfl, h6, f6⟩; have C6 := Lib.hid (C5.out.cn h6 f6); clear h6 f6))
  go_wp2
  go_loopg [31, 7, 8] n2 (fun kk sj sa so wr => ∃ (j at_ : Nat) (ot : Int) (σ : CnS) (s : List Req) (v : Value), j ≤ n2 ∧ Hid (kk = n2 - j) ∧ sj = .int .i64 (j : Int) ∧ sa = .int .i64 (at_ : Int) ∧ so = .int .i64 ot ∧ Hid (at_ ≤ n) ∧ Hid (0 ≤ ot ∧ ot ≤ 64 * (j : Int)) ∧ Hid (C1 w wr Kn hb (hb + 1) σ s v) ∧ Hid (StOK Kn.rules σ ∧ σ.op = true ∧ byt σ.out) ∧ Hid ((s.length ≤ at_ ∧ s.length ≤ 1000) ∧ ∀ q ∈ s, okQ Kn.rules q) ∧ Hid (ot + σ.out.length = sumC s + six σ.err))
  case atStart => exact ⟨0, 0, 0, _, [], _, by omega, Lib.hid rfl, rfl, rfl, rfl, Lib.hid (by omega), Lib.hid (by omega), C6, Lib.hid ⟨st_new _ _ _, rfl, fun z hz => by cases hz⟩, Lib.hid ⟨⟨Nat.le_refl _, Nat.zero_le _⟩, (fun q hq => by cases hq)⟩, Lib.hid rfl⟩
  case round =>
    obtain ⟨j, at_, ot, σ, s, v, hj, HK, rfl, rfl, rfl, HAT, HOT, HC, HST, HSL, HSUM⟩ := hrel
    by_cases hjn : j < n2
    · obtain ⟨b', off, rfl, hbl, hc⟩ := (HR2.out.below HC.out.bl).at_ (by omega)
      have kr := hc j hjn
      obtain ⟨x, hx⟩ : ∃ x, x = ss.getD j 0 := ⟨_, rfl⟩
      rw [← hx] at kr
      have HJ := Lib.hid hjn
      obtain ⟨y, hy⟩ : ∃ y, y = x % 2 := ⟨_, rfl⟩
      have m1 : bits .and .i64 x 1 = y := by rw [hy]; exact G.i64_mask1 x
      have hyb : y = 0 ∨ y = 1 := by omega
      obtain ⟨g, hgb, m2⟩ := sums_g x
      have HG := Lib.hid hgb
      clear hc hbl hx hy hjn
      rcases hyb with rfl | rfl
      · as_aux_lemma =>
          have hat := HAT.out
          obtain ⟨hi, fag, hmin, hh1, hh2⟩ := sums_hi hat (by have := HN.out; omega) (show g ≤ 1000 by omega)
          obtain ⟨ag, hag⟩ : ∃ z, z = at_ + g := ⟨_, rfl⟩
          rw [← hag] at fag hmin
          obtain ⟨A', hsl, hrd⟩ := slice_mid HR.out hh1 hh2
          obtain ⟨m, hm⟩ : ∃ m, m = hi - at_ := ⟨_, rfl⟩
          rw [← hm] at hsl hrd
          obtain ⟨cc, hcc⟩ : ∃ m, m = c - at_ := ⟨_, rfl⟩
          rw [← hcc] at hsl hrd
          have HRD := Lib.hid hrd
          have CA := Lib.hid (hoaccept A' m cc _ wr HC.out (by have := HSL.out.1; have := HN.out; omega) HST.out.2.1 HRD.out)
          have hsum := acc_sum (rules := Kn.rules) (size := Kn.size) ((zs.drop at_).take m) σ HST.out.1 (rdI_byt HRD.out) HC.out.ch.c.b.le.1
          have hob := acc_outb (rules := Kn.rules) (size := Kn.size) ((zs.drop at_).take m) σ HST.out.1 (rdI_byt HRD.out) HST.out.2.2
          have hok := acc_okq (rules := Kn.rules) (size := Kn.size) ((zs.drop at_).take m) σ HST.out.1 (rdI_byt HRD.out)
          obtain ⟨a, ha⟩ : ∃ a, a = accH Kn.rules Kn.size σ ((zs.drop at_).take m) := ⟨_, rfl⟩
          rw [← ha] at CA hsum hob hok
          obtain ⟨N1, σ1, rq⟩ := a
          obtain ⟨i1, i2, i3, i4, i5, i6⟩ := hsum
          have hlm := HRD.out.len
          rw [hlm] at i3
          change N1 ≤ m at i3
          change rq.length ≤ N1 at i5
          change (σ1.out.length : Int) = σ.out.length + sumC rq + six σ1.err - six σ.err at i6
          have hNn : at_ + N1 ≤ n := by omega
          have fN := wrap_sum (a := at_) (b := N1) (by have := HN.out; omega)
          obtain ⟨an, han⟩ : ∃ z, z = at_ + N1 := ⟨_, rfl⟩
          rw [← han] at fN
          have HS1 := Lib.hid (show StOK Kn.rules σ1 ∧ σ1.op = true ∧ byt σ1.out from ⟨i1, i2.trans HST.out.2.1, hob⟩)
          have HA1 := Lib.hid (show an ≤ n by omega)
          have HSL1 := Lib.hid (show ((s ++ rq).length ≤ an ∧ (s ++ rq).length ≤ 1000) ∧ ∀ q ∈ s ++ rq, okQ Kn.rules q from ⟨by rw [List.length_append]; have := HSL.out.1; have := HN.out; omega, fun q hq => (List.mem_append.1 hq).elim (HSL.out.2 q) (hok q)⟩)
          have HSM1 := Lib.hid (show ot + σ1.out.length = sumC (s ++ rq) + six σ1.err by rw [sumC_app]; have := HSUM.out; omega)
          clear hmx1 hcp1 hat hh1 hh2 hag hm hcc hrd ha i1 i2 i3 i4 i5 i6 hlm hNn han hob hok
          go_wp2_with (go_at_call 13; ((with_reducible refine CA.out.mono ?_); rintro e' w7 ⟨rfl, v7, h7⟩; have C7 := Lib.hid h7; clear h7))
          go_roundg (n2 - (j + 1))
          case measure => have := HK.out; have := HJ.out; omega
          case rel => exact ⟨j + 1, an, ot, σ1, s ++ rq, v7, HJ.out, Lib.hid rfl, by go_num, rfl, rfl, HA1, Lib.hid (by have := HOT.out; omega), C7, HS1, HSL1, HSM1⟩
      · as_aux_lemma =>
          obtain ⟨m, hm⟩ : ∃ m : Nat, (m : Int) = max 0 (min (g : Int) (σ.out.length : Int)) := ⟨(max 0 (min (g : Int) (σ.out.length : Int))).toNat, by omega⟩
          have hmg : m ≤ g ∧ m ≤ σ.out.length := by omega
          have CD := Lib.hid (cdrain_yes (g : Int) m wr HC.out.ch.c HST.out.2.1 hm)
          have hot := HOT.out
          obtain ⟨o2, ho2⟩ : ∃ z, z = ot + (m : Int) := ⟨_, rfl⟩
          have fO : IntKind.i64.wrap (ot + (m : Int)) = o2 := by rw [ho2]; exact wrap_le (by omega)
          have HO2 := Lib.hid (show 0 ≤ o2 ∧ o2 ≤ 64 * (j : Int) + 64 by omega)
          have HSM1 := Lib.hid (show o2 + (σ.out.drop m).length = sumC s + six σ.err by rw [List.length_drop]; have := HSUM.out; omega)
          have HS1 := Lib.hid (show StOK Kn.rules ⟨σ.z, σ.err, σ.out.drop m, σ.op⟩ ∧ σ.op = true ∧ byt (σ.out.drop m) from ⟨HST.out.1, HST.out.2.1, byt_drop HST.out.2.2 _⟩)
          clear hm hmg hot ho2
          go_wp2_with (go_at_call 14; ((with_reducible refine CD.out.mono ?_); rintro e' w7 ⟨s8, rfl, k8, h8, f8, n8⟩; have C7 := Lib.hid (HC.out.cn h8 f8); clear k8 h8 f8 n8))
          go_roundg (n2 - (j + 1))
          case measure => have := HK.out; have := HJ.out; omega
          case rel => exact ⟨j + 1, at_, o2, ⟨σ.z, σ.err, σ.out.drop m, σ.op⟩, s, v, HJ.out, Lib.hid rfl, by go_num, rfl, rfl, HAT, Lib.hid (by have := HO2.out; omega), C7, HS1, HSL, HSM1⟩
    · have hje : n2 = j := by omega
      subst hje
      obtain ⟨m, hm⟩ : ∃ m : Nat, m = σ.out.length := ⟨_, rfl⟩
      have hm64 : m ≤ 64 := by have := HC.out.ch.c.b.le.1; rw [HSZ.out] at this; omega
      have CD := Lib.hid (cdrain_yes 64 m wr HC.out.ch.c HST.out.2.1 (by omega))
      have hot := HOT.out
      obtain ⟨o2, ho2⟩ : ∃ z, z = ot + (m : Int) := ⟨_, rfl⟩
      have fO : IntKind.i64.wrap (ot + (m : Int)) = o2 := by rw [ho2]; exact wrap_le (by omega)
      have HO2 := Lib.hid (show o2 = sumC s + six σ.err by have := HSUM.out; omega)
      have HDR := Lib.hid (show σ.out.drop m = [] from List.drop_eq_nil_of_le (by omega))
      have hs1000 := HSL.out.1.2
      clear hm hm64 hot ho2
      go_upto_region 16 with (go_at_call 14; ((with_reducible refine CD.out.mono ?_); rintro e' w7 ⟨s8, rfl, k8, h8, f8, n8⟩; have C7 := Lib.hid (HC.out.cn h8 f8); clear k8 h8 f8 n8))
      obtain ⟨Av, cv, rfl, hq⟩ := rdQ_own C7.out.ch.h.2.1 rfl
      have HQ := Lib.hid hq
      have kh := (c1_len C7.out).1
      have hqm := hq.max
      have hqc := hq.cap
      unfold maxLen at hqm
      have CE := Lib.hid (fun wx (hb : Below w7.heap.size w7 wx) => errx _ _ Kn.c σ.z Kn.rules σ.err wx (C7.out.keep hb).ch.c.d)
      have CW := Lib.hid (fun wx (hb : Below w7.heap.size w7 wx) => show Calls Try.prog 18 #[.pointer (some ⟨Kn.c, 0, none⟩)] wx (fun e w' => e = .returned (.int .i64 0) ∧ wx = w') from by
        have h := cwaits_any wx (C7.out.keep hb).ch.c
        rw [HDR.out] at h
        exact h)
      clear hq
      go_wp2
      go_loopg [74, 11] s.length (fun kk si sw wr => ∃ (i : Nat) (wt : Int), i ≤ s.length ∧ Hid (kk = s.length - i) ∧ si = .int .i64 (i : Int) ∧ sw = .int .i64 wt ∧ Hid (wt = sumC (s.take i)) ∧ Hid (Below w7.heap.size w7 wr))
      case atStart => exact ⟨0, 0, by omega, Lib.hid rfl, rfl, rfl, Lib.hid rfl, Lib.hid (Below.refl _ _)⟩
      case round =>
        obtain ⟨i, wt, hi, HKI, rfl, rfl, HWT, HB⟩ := hrel
        by_cases hin : i < s.length
        · as_aux_lemma =>
            obtain ⟨b', off, rfl, hbl, hc⟩ := (HQ.out.below HB.out).at_ (by omega)
            obtain ⟨c0, c1, c2, c3, c4⟩ := hc i hin
            obtain ⟨q, hq⟩ : ∃ q, q = s[i] := ⟨_, rfl⟩
            rw [← hq] at c0 c1 c2 c3 c4
            have hok := HSL.out.2 q (by rw [hq]; exact List.getElem_mem _)
            have hst := sumC_take hin
            rw [← hq] at hst
            obtain ⟨m, hm⟩ : ∃ m, m = q.cost % 30 := ⟨_, rfl⟩
            have m1 : q.cost.tmod 30 = m := by rw [hm]; exact Int.tmod_eq_emod_of_nonneg hok.2.1.1
            have hmb : 0 ≤ m ∧ m < 30 := by omega
            have e1 : IntKind.u32.wrap m = m := by rw [IntKind.wrap_u32]; omega
            have e2 : IntKind.i64.wrap m = m := by rw [IntKind.wrap_i64]; omega
            have hsi := sumC_in (s.take i)
            have hlt : (s.take i).length ≤ 1000 := by rw [List.length_take]; omega
            obtain ⟨w2, hw2⟩ : ∃ z, z = wt + m := ⟨_, rfl⟩
            have e3 : IntKind.i64.wrap (wt + m) = w2 := by rw [hw2]; have := HWT.out; exact wrap_le (by omega)
            have HW2 := Lib.hid (show w2 = sumC (s.take (i + 1)) by rw [hst, hw2, HWT.out, ← hm])
            have HI := Lib.hid hin
            have hil : (i : Int) < (s.length : Int) := by omega
            obtain ⟨w8, hw8, hbk, hbw, hsz⟩ := box_new wr (rqA q) 41
            obtain ⟨bx, hbx⟩ : ∃ b, b = wr.heap.size := ⟨_, rfl⟩
            rw [← hbx] at hbk
            have BK := Lib.hid hbk
            have B8 := Lib.hid (HB.out.trans (hbw.mono HB.out.size))
            clear hc hbl hq hok hst hm hmb hsi hlt hw2 hin hbk hbw hsz
            go_upto_region 20 with (fail)
            rw [← hbx]
            clear c0 c1 c2 c3 c4 hw8 hbx
            have kc := BK.out.rd
            go_wp2
            go_roundg (s.length - (i + 1))
            case measure => have := HKI.out; have := HI.out; omega
            case rel => exact ⟨i + 1, w2, HI.out, Lib.hid rfl, by go_num, rfl, HW2, B8⟩
        · as_aux_lemma =>
            have hie : i = s.length := by omega
            have hwt : wt = sumC s := by
              have h := HWT.out
              rw [hie, List.take_of_length_le (Nat.le_refl _)] at h
              exact h
            have hil : ¬ (i : Int) < (s.length : Int) := by omega
            have hsi := sumC_in s
            have HWS := Lib.hid hwt
            by_cases he : σ.err = 0
            · have g1 : (σ.err != 0) = false := by simp [he]
              have ho : o2 = wt := by rw [HO2.out, hwt, he]; unfold six; rw [if_neg (by simp)]; omega
              have b1 : (o2 == wt) = true := by rw [ho]; simp
              clear hie hwt hsi he ho
              go_wp2_with (first
                | (go_at_call 20; ((with_reducible refine (CE.out _ HB.out).mono ?_); rintro e' w9 ⟨rfl, rfl⟩))
                | (go_at_call 18; ((with_reducible refine (CW.out _ HB.out).mono ?_); rintro e' w9 ⟨rfl, rfl⟩)))
              go_ret
              exact ⟨rfl, C7.out.bl.trans (HB.out.mono C7.out.bl.size)⟩
            · have g1 : (σ.err != 0) = true := by simpa using he
              obtain ⟨w2, hw2⟩ : ∃ z, z = wt + 6 := ⟨_, rfl⟩
              have e3 : IntKind.i64.wrap (wt + 6) = w2 := by rw [hw2]; exact wrap_le (by omega)
              have ho : o2 = w2 := by rw [HO2.out, hw2, hwt]; unfold six; rw [if_pos he]
              have b1 : (o2 == w2) = true := by rw [ho]; simp
              clear hie hwt hsi he ho hw2
              go_wp2_with (first
                | (go_at_call 20; ((with_reducible refine (CE.out _ HB.out).mono ?_); rintro e' w9 ⟨rfl, rfl⟩))
                | (go_at_call 18; ((with_reducible refine (CW.out _ HB.out).mono ?_); rintro e' w9 ⟨rfl, rfl⟩)))
              go_ret
              exact ⟨rfl, C7.out.bl.trans (HB.out.mono C7.out.bl.size)⟩
end Go.Proofs.Ytaghookljjpllaa
