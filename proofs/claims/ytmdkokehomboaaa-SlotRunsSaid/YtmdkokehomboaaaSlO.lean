/- The law SlotOne of layer 6 (slot), walked. -/
import Derived.Test.YtmdkokehomboaaaSlL
import Derived.Test.YtmdkokehomboaaaBits
namespace Go.Proofs.Ytmdkokehomboaaa
set_option linter.unusedSimpArgs false
set_option linter.unusedVariables false
set_option maxRecDepth 100000
open Go.ChangeShapes Go.WideShapes Go.ChangeAt Go.RowKit
open Ar (inR)
/-- a sketch of the law's own. -/
structure S1 (W w : World) (N : SlN) (f : Nat → Nat → Int) : Prop where
  at_ : SlAt w N f
  lo : W.heap.size ≤ N.b ∧ W.heap.size ≤ N.g
  bl : Below W.heap.size W w
theorem S1.keep {W w w' : World} {N : SlN} {f : Nat → Nat → Int} (h : S1 W w N f) (hb : Below w.heap.size w w') : S1 W w' N f := ⟨h.at_.keep hb, h.lo, h.bl.trans (hb.mono h.bl.size)⟩
theorem S1.op {W w w' : World} {N : SlN} {f g : Nat → Nat → Int} (h : S1 W w N f) (h1 : SlAt w' N g) (hf : Fr (fun k => k = N.g) w w') : S1 W w' N g := ⟨h1, h.lo, h.bl.trans (hf.below h.bl.size (fun k hk => by have := h.lo; omega))⟩
theorem sum_sat {s c : Int} (hs : 0 ≤ s ∧ s ≤ 9223372036854775807) (hc : 1 ≤ c ∧ c ≤ 9223372036854775807) :
    (IntKind.i64.wrap (s + c) < 0 → clamp (s + c) = 9223372036854775807) ∧ (¬ IntKind.i64.wrap (s + c) < 0 → IntKind.i64.wrap (s + c) = clamp (s + c)) := by
  rw [IntKind.wrap_i64]
  unfold clamp
  constructor
  · intro h; split; omega; split <;> omega
  · intro h; split; omega; split <;> omega
set_option maxRecDepth 100000 in
set_option maxHeartbeats 4000000 in
theorem slone_law (w : World) (A : Option Addr) (n c : Nat) (zs : List Int) (a1 a2 : Int) (A2 : Option Addr) (n2 c2 : Nat) (cs : List Int) (hr : RdI w .u64 A n c zs) (h1 : inR a1) (h2 : inR a2) (hr2 : RdI w .i64 A2 n2 c2 cs) :
    Calls Try.prog 8 #[.slice A n c, .agg #[.int .i64 a1, .int .i64 a2], .slice A2 n2 c2] w fun e w' => e = .returned (.bool true) ∧ Below w.heap.size w w' := by
  have hmx := hr.max
  unfold maxLen at hmx
  have hcp := hr.cap
  have hmx2 := hr2.max
  unfold maxLen at hmx2
  have hcp2 := hr2.cap
  have HR := Lib.hid hr
  have HR2 := Lib.hid hr2
  obtain ⟨m0, hm0⟩ : ∃ k : Nat, a1 % 8 = (k : Int) := ⟨(a1 % 8).toNat, by omega⟩
  have eb0 : bits BinOp.and IntKind.i64 a1 7 = (m0 : Int) := by rw [i64_mask3, hm0]
  obtain ⟨m1, hm1⟩ : ∃ k : Nat, a2 % 32 = (k : Int) := ⟨(a2 % 32).toNat, by omega⟩
  have eb1 : bits BinOp.and IntKind.i64 a2 31 = (m1 : Int) := by rw [i64_mask5, hm1]
  obtain ⟨k, hk⟩ : ∃ k, k = m0 + 1 := ⟨_, rfl⟩
  obtain ⟨W, hW⟩ : ∃ W, W = m1 + 1 := ⟨_, rfl⟩
  have ek : IntKind.i64.wrap ((m0 : Int) + 1) = (k : Int) := by rw [IntKind.wrap_i64]; omega
  have eW : IntKind.i64.wrap ((m1 : Int) + 1) = (W : Int) := by rw [IntKind.wrap_i64]; omega
  have HK := Lib.hid (show (1 ≤ k ∧ k ≤ 8) ∧ (1 ≤ W ∧ W ≤ 32) by omega)
  clear hr hr2 h1 h2 hm0 hm1 hk hW
  go_enter Try.func8, Try.ntmps8
  go_upto_region 1 with (fail)
  obtain ⟨w1, hw1, k1, l1, s1⟩ := box_new w #[.int .i64 a1, .int .i64 a2] 23
  rw [hw1]
  obtain ⟨sb, hsb⟩ : ∃ sb, sb = w.heap.size := ⟨_, rfl⟩
  rw [← hsb] at k1 ⊢
  have T1 := Lib.hid (And.intro k1 l1)
  clear k1 l1 s1 hw1 hsb
  go_upto_region 3 with (go_at_call 9; ((refine (slfit_any _).mono ?_); rintro e w2 ⟨rfl, b2⟩; have T2 := Lib.hid (And.intro (T1.out.1.keep b2) (T1.out.2.trans (b2.mono T1.out.2.size))); clear b2))
  by_cases hb : 60 < n ∨ 100 < n2
  · have hund : undef = Value.tuple #[] := rfl
    by_cases hb1 : (60 : Int) < (n : Int)
    · go_wp2
      go_ret
      exact ⟨rfl, T2.out.2⟩
    · have hb2 : (100 : Int) < (n2 : Int) := by omega
      clear hund
      go_wp2
      go_ret
      exact ⟨rfl, T2.out.2⟩
  have hb1 : (n : Int) ≤ 60 := by omega
  have hb2 : (n2 : Int) ≤ 100 := by omega
  clear hb
  have CR := Lib.hid (fun wx (hb : Below w.heap.size w wx) => rows_any wx A n c zs (HR.out.below hb) k (by have := HK.out; omega))
  have CN := Lib.hid (fun b0 wx (hr : RowsAt wx b0 k (rX zs) (rA zs) (rB zs)) => snew_any k W (HK.out.1) ⟨HK.out.2.1, by have := HK.out; have := Nat.mul_le_mul this.1.2 this.2.2; omega⟩ b0 _ _ _ wx hr (rows_lt zs k))
  have SB := Lib.hid (fun wx (hb : Below w2.heap.size w2 wx) => show ∀ i, wx.cell? ⟨sb, i, none⟩ = (#[.int .i64 a1, .int .i64 a2] : Array Value)[i]? from (T2.out.1.keep hb).rd)
  have D2 := Lib.hid (show Below w2.heap.size w2 w2.drew from below_draws (Below.refl _ _) 1)
  have hS := SB.out _ D2.out
  go_upto_region 5 with (fail)
  go_region_held3 (fun wx => ∀ i, wx.cell? ⟨sb, i, none⟩ = (#[.int .i64 a1, .int .i64 a2] : Array Value)[i]?) (first | assumption | exact SB.out _ D3.out | exact SB.out _ D4.out)
    (first
      | (go_at_call 12; ((with_reducible refine (CR.out _ (T2.out.2.trans (D2.out.mono T2.out.2.size))).mono ?_); rintro e w3 ⟨rfl, r3, b3⟩; have R3 := Lib.hid (show RowsAt w3 w2.heap.size k (rX zs) (rA zs) (rB zs) from r3); have D3 := Lib.hid (D2.out.trans (b3.mono D2.out.size)); clear r3 b3))
      | (go_at_call 11; ((with_reducible refine (CN.out _ _ R3.out).mono ?_); rintro e w4 ⟨N, rfl, s4, n1, n2, n3, n4, n5, o1, o2, b4⟩; have D4 := Lib.hid (D3.out.trans (b4.mono D3.out.size)); have S4 := Lib.hid (show S1 w w4 N (fun _ _ => 0) from ⟨s4, ⟨Nat.le_trans (Nat.le_trans T2.out.2.size D3.out.size) o1, Nat.le_trans (Nat.le_trans T2.out.2.size D3.out.size) o2⟩, T2.out.2.trans (D4.out.mono T2.out.2.size)⟩); clear s4 n1 n2 n3 n4 n5 o1 o2 b4)))
  clear hS SB CR CN eb0 eb1 ek eW
  go_wp2
  go_loopg [34, 8] n2 (fun kk si ss wr => ∃ (i : Nat) (sum : Int) (f : Nat → Nat → Int), i ≤ n2 ∧ Hid (kk = n2 - i) ∧ si = .int .i64 (i : Int) ∧ ss = .int .i64 sum ∧ Hid (0 ≤ sum ∧ sum ≤ 9223372036854775807) ∧ Hid (S1 w wr N f) ∧ Hid (Sk.leastR f N.P ⟨#[107]⟩ (N.k - 1) = sum))
  case atStart => exact ⟨0, 0, _, by omega, Lib.hid rfl, rfl, rfl, Lib.hid (by omega), S4, Lib.hid (by obtain ⟨_, _, he⟩ := Sk.leastR_is (fun _ _ => (0 : Int)) N.P ⟨#[107]⟩ (N.k - 1); exact he)⟩
  case round =>
    obtain ⟨i, sum, f, hi, HKK, rfl, rfl, HU, HS, HL⟩ := hrel
    by_cases hin : i < n2
    · have hl2 := HR2.out.len
      obtain ⟨b, off, rfl, hbl, hc⟩ := (HR2.out.below HS.out.bl).at_ (by omega)
      have hcell := hc i hin
      have hwf := bounds_i64 (HR2.out.wf_at hin)
      obtain ⟨v, hv⟩ : ∃ v, v = cs.getD i 0 := ⟨_, rfl⟩
      rw [← hv] at hcell hwf
      have hsz : (⟨#[107]⟩ : ByteArray).size ≤ maxLen := by show 1 ≤ maxLen; unfold maxLen; omega
      have CA := Lib.hid (sadd_any ⟨#[107]⟩ hsz v hwf wr HS.out.at_)
      have CL := Lib.hid (fun wx g (hs : SlAt wx N g) => sleast_any ⟨#[107]⟩ hsz wx hs)
      have t2 : (i : Int) < (n2 : Int) := by omega
      have HIN := Lib.hid hin
      have hk1 : 1 ≤ N.k := HS.out.at_.bd.1.1
      have hself := fun (h : 1 ≤ v) => Sk.add_self HS.out.at_.ok N.P hk1 ⟨#[107]⟩ (c := v) ⟨h, hwf.2⟩
      rw [HL.out] at hself
      have HSE := Lib.hid hself
      have hu := HU.out
      have HV := Lib.hid hwf
      clear hl2 hc hbl hv hsz hself hk1 hwf
      go_upto_region 11 with (go_at_call 17; ((with_reducible refine CA.out.mono ?_); rintro e w5 ⟨rfl, s5, f5⟩; have S5 := Lib.hid (HS.out.op s5 f5); clear s5 f5))
      clear hcell
      by_cases hv1 : v < 1
      · have t3 : decide ((0 : Int) < v) = false := by rw [decide_eq_false_iff_not]; omega
        have e5 : Sk.add f N.P N.k ⟨#[107]⟩ v = f := by unfold Sk.add; rw [if_pos hv1]
        rw [e5] at S5
        have C5 := Lib.hid (CL.out w5 f S5.out.at_)
        rw [HL.out] at C5
        clear hv1 e5 hu
        go_wp2_with (go_at_call 19; ((with_reducible refine C5.out.mono ?_); rintro e w6 ⟨rfl, b6⟩; have S6 := Lib.hid (S5.out.keep b6); clear b6))
        go_roundg (n2 - (i + 1))
        case measure => have := HKK.out; have := HIN.out; omega
        case rel => exact ⟨i + 1, sum, f, HIN.out, Lib.hid rfl, by go_num, rfl, HU, S6, HL⟩
      · have t3 : decide ((0 : Int) < v) = true := by rw [decide_eq_true_iff]; omega
        have hss := sum_sat hu (c := v) ⟨by omega, HV.out.2⟩
        have hcp := Sk.clamp_pos hu (c := v) ⟨by omega, HV.out.2⟩
        have C5 := Lib.hid (CL.out w5 _ S5.out.at_)
        rw [HSE.out (by omega)] at C5
        obtain ⟨z, hz⟩ : ∃ z, z = IntKind.i64.wrap (sum + v) := ⟨_, rfl⟩
        obtain ⟨q, hq⟩ : ∃ q, q = clamp (sum + v) := ⟨_, rfl⟩
        rw [← hz, ← hq] at hss
        rw [← hq] at hcp C5
        have HE := Lib.hid (show Sk.leastR (Sk.add f N.P N.k ⟨#[107]⟩ v) N.P ⟨#[107]⟩ (N.k - 1) = q from by rw [hq]; exact HSE.out (by omega))
        have ez : IntKind.i64.wrap (sum + v) = z := hz.symm
        have HQ := Lib.hid (show 0 ≤ q ∧ q ≤ 9223372036854775807 by omega)
        have HSS := Lib.hid hss
        clear hv1 hu hz hq hcp hss
        by_cases hz0 : z < 0
        · have hq9 := HSS.out.1 hz0
          have HZ := Lib.hid hz0
          rw [hq9] at C5
          have HQ9 := Lib.hid hq9
          clear hq9
          go_wp2_with (go_at_call 19; ((with_reducible refine C5.out.mono ?_); rintro e w6 ⟨rfl, b6⟩; have S6 := Lib.hid (S5.out.keep b6); clear b6))
          go_roundg (n2 - (i + 1))
          case measure => have := HKK.out; have := HIN.out; omega
          case rel => exact ⟨i + 1, _, _, HIN.out, Lib.hid rfl, by go_num, by rw [HQ9.out], HQ, S6, HE⟩
        · have hzq := HSS.out.2 hz0
          rw [← hzq] at C5
          have HZQ := Lib.hid hzq
          clear hzq
          go_wp2_with (go_at_call 19; ((with_reducible refine C5.out.mono ?_); rintro e w6 ⟨rfl, b6⟩; have S6 := Lib.hid (S5.out.keep b6); clear b6))
          go_roundg (n2 - (i + 1))
          case measure => have := HKK.out; have := HIN.out; omega
          case rel => exact ⟨i + 1, _, _, HIN.out, Lib.hid rfl, by go_num, by rw [HZQ.out], HQ, S6, HE⟩
    · have hie : i = n2 := by omega
      subst hie
      go_wp2
      go_ret
      exact ⟨rfl, HS.out.bl⟩
end Go.Proofs.Ytmdkokehomboaaa
