/- The laws of layer 14 (decode), walked: joins. -/
import Derived.Test.YtkcoofpoipgiaaaDcJ
namespace Go.Proofs.Ytkcoofpoipgiaaa
set_option linter.unusedSimpArgs false
set_option linter.unusedVariables false
open Go.ChangeShapes Go.WideShapes Go.ChangeAt Go.RowKit
set_option maxHeartbeats 8000000 in
set_option maxRecDepth 100000 in
theorem joins_law (w : World) (A : Option Addr) (n c : Nat) (l : List Req) (cut : Int) (hr : RdQ w A n c l) (hok : ∀ q ∈ l, okQ q) (hcut : -9223372036854775808 ≤ cut ∧ cut ≤ 9223372036854775807) :
    Calls Try.prog 5 #[.slice A n c, .int .i64 cut] w fun e w' => e = .returned (.bool true) ∧ Below w.heap.size w w' := by
  have hmx := hr.max
  have hcp := hr.cap
  have hlen := hr.len
  unfold maxLen at hmx
  have HR := Lib.hid hr
  have HOK := Lib.hid hok
  have HCUT := Lib.hid hcut
  clear hr hok hcut
  by_cases hn : (20 : Int) < (n : Int)
  · have t1 : decide ((20 : Int) < (n : Int)) = true := by rw [decide_eq_true_eq]; exact hn
    go_enter Try.func5, Try.ntmps5
    go_wp2_with (go_at_call 9; refine (fit_any _).mono ?_; rintro e w1 ⟨rfl, b1⟩; have B1 := Lib.hid b1; clear b1)
    go_ret
    exact ⟨rfl, B1.out⟩
  have t1 : decide ((20 : Int) < (n : Int)) = false := by rw [decide_eq_false_iff_not]; exact hn
  have HN := Lib.hid (show n ≤ 20 by omega)
  have HL := Lib.hid hlen
  have hni : (n : Int) ≤ 20 := by omega
  clear hn hlen
  go_enter Try.func5, Try.ntmps5
  go_wp2_with (go_at_call 9; refine (fit_any _).mono ?_; rintro e w1 ⟨rfl, b1⟩; have B1 := Lib.hid b1; clear b1)
  clear t1
  go_loopg [5, 22] n (fun k0 xb sj wr => ∃ j : Nat, j ≤ n ∧ k0 = n - j ∧ sj = .int .i64 (j : Int) ∧ Own wr w.heap.size xb (joinE (l.take j)) ∧ Below w.heap.size w wr ∧ ∀ q ∈ l.take j, rightP q 9)
  case atStart => exact ⟨0, by omega, by omega, rfl, by rw [List.take_zero]; exact own_nil _ _, B1.out, by simp⟩
  case round =>
    obtain ⟨j, hj, hkk, rfl, ho, hb, hrt⟩ := hrel
    have HK := Lib.hid hkk
    have HB := Lib.hid hb
    have HO := Lib.hid ho
    have HRT := Lib.hid hrt
    clear hkk ho hrt
    by_cases hjn : j < n
    · have ja : j < l.length := by rw [HL.out]; exact hjn
      obtain ⟨g, off, rfl, hlt, hc⟩ := (HR.out.below hb).at_ (by omega)
      obtain ⟨c0, c1, c2, c3, c4⟩ := hc j ja
      obtain ⟨q, hq⟩ : ∃ q, q = l[j] := ⟨_, rfl⟩
      rw [← hq] at c0 c1 c2 c3 c4
      have hqok : okQ q := HOK.out q (by rw [hq]; exact List.getElem_mem ja)
      have HTK := Lib.hid (show l.take (j + 1) = l.take j ++ [q] from by rw [List.take_succ_eq_append_getElem ja, hq])
      have hmk := hqok.mk
      have hs := hqok.2.1
      have hsz : ((strOfNums q.key).size : Int) ≤ 9223372036854775807 := by unfold maxLen at hs; omega
      have HQK := Lib.hid hqok
      have HMK := Lib.hid hmk
      have HJN := Lib.hid hjn
      have HS := Lib.hid hs
      clear hc hb hlt hq ja hqok hmk hs
      go_upto_region 9 with (fail)
      obtain ⟨w2, hw2, hq2, hbl, _⟩ := box_new wr (reqC q.op q.rule q.cost (strOfNums q.key) q.k) 32
      change Code.wp _ _ _ _ (wr.alloc (.cells (reqC q.op q.rule q.cost (strOfNums q.key) q.k) 32))
      rw [hw2]
      generalize wr.heap.size = b2 at hq2 ⊢
      have Q2 := Lib.hid hq2
      have B2 := Lib.hid (G.below_on HB.out hbl)
      have O2 := Lib.hid (HO.out.below hbl)
      have k2 := hq2.rd
      clear hw2 hq2 hbl c0 c1 c2 c3 c4
      by_cases hkey : (100 : Int) < ((strOfNums q.key).size : Int)
      · have t2 : decide ((100 : Int) < ((strOfNums q.key).size : Int)) = true := by rw [decide_eq_true_eq]; exact hkey
        clear hkey
        have hund : undef = Value.tuple #[] := rfl
        go_wp2
        go_ret
        exact ⟨rfl, B2.out⟩
      have t2 : decide ((100 : Int) < ((strOfNums q.key).size : Int)) = false := by rw [decide_eq_false_iff_not]; exact hkey
      by_cases hR : rightP q 9
      rotate_left 1
      · have CR := Lib.hid (fun w => (rright_any q.op q.rule q.cost q.k 9 (strOfNums q.key) w HS.out).2 (by rw [HMK.out]; exact hR))
        clear hkey hR
        go_wp2_with (go_at_call 18; ((with_reducible refine (CR.out _).mono ?_); rintro e w3 ⟨rfl, b3⟩; have B3 := Lib.hid (G.below_on B2.out b3); clear b3))
        go_ret
        exact ⟨rfl, B3.out⟩
      have CR := Lib.hid (fun w => (rright_any q.op q.rule q.cost q.k 9 (strOfNums q.key) w HS.out).1 (by rw [HMK.out]; exact hR))
      have CE0 := fun w => rencode_any q.op q.rule q.cost q.k (strOfNums q.key) w (by rw [HMK.out]; exact right_less hR (by omega)) HQK.out.1
      have HRQ := Lib.hid hR
      have HEB := Lib.hid (enc_byt (right_less hR (by omega)) HQK.out.byt)
      have HE75 := Lib.hid (enc_75 hR)
      have H75 := Lib.hid (show (joinE (l.take j)).length ≤ 1500 from by have := join_len _ HRT.out; rw [List.length_take] at this; have := HN.out; omega)
      rw [HMK.out] at CE0
      have CE := Lib.hid CE0
      clear hkey hR CE0
      go_wp2_with (first
        | (go_at_call 18; ((with_reducible refine (CR.out _).mono ?_); rintro e w3 ⟨rfl, b3⟩; have B3 := Lib.hid (G.below_on B2.out b3); have O3 := Lib.hid (O2.out.below b3); have k3 := (Q2.out.keep b3).rd; clear b3))
        | (go_at_call 19; ((with_reducible refine (CE.out _).mono ?_); rintro e w4 ⟨v4, rfl, o4, b4⟩; obtain ⟨A4, c4, rfl, r4, _⟩ := o4.rd HEB.out; have R4 := Lib.hid r4; have B4 := Lib.hid (G.below_on B3.out b4); have O4 := Lib.hid (O3.out.below b4); clear b4 o4 r4))
        | (at_builtin; refine wpList_appI (by rfl) _ _ c4 (by rfl) (by rfl) (by rfl) O4.out R4.out (by have := H75.out; have := HE75.out; omega) B4.out.size ?_; intro v5 w5 o5 hg5; have O5 := Lib.hid o5; have B5 := Lib.hid (B4.out.trans ((fr_row hg5).below B4.out.size (fun g hg => (O4.out.lt g hg).1))); clear o5 hg5))
      go_roundg (n - (j + 1))
      case measure => have := HK.out; have := HJN.out; omega
      case rel => exact ⟨j + 1, by have := HJN.out; omega, by omega, by go_num, by rw [HTK.out, joinE_app]; exact O5.out, B5.out, fun p hp => by rw [HTK.out, List.mem_append] at hp; rcases hp with hp | hp; exact HRT.out p hp; rw [List.mem_singleton] at hp; subst hp; exact HRQ.out⟩
    · have hje : j = n := by omega
      subst hje
      have HALL := Lib.hid (show ∀ q ∈ l, rightP q 9 ∧ okQ q from fun q hq => ⟨HRT.out q (by rw [← HL.out, List.take_length]; exact hq), HOK.out q hq⟩)
      have ho := HO.out
      rw [show l.take j = l from by rw [← HL.out, List.take_length]] at ho
      obtain ⟨Ab, cb, hxb, hrb, _⟩ := ho.rd (join_byt l HALL.out)
      subst hxb
      obtain ⟨m, hm⟩ : ∃ m, m = (joinE l).length := ⟨_, rfl⟩
      have hm15 : m ≤ 1500 := by have := join_len l (fun q hq => (HALL.out q hq).1); rw [HL.out] at this; have := HN.out; omega
      rw [← hm] at hrb ⊢
      have HRB := Lib.hid hrb
      have hcb := hrb.cap
      have hmb := hrb.max
      unfold maxLen at hmb
      have hj := all_join l HALL.out
      rw [← hm] at hj
      obtain ⟨N, hN⟩ : ∃ N : Int, N = (m : Int) + 1 := ⟨_, rfl⟩
      obtain ⟨rm, hrm⟩ : ∃ rm, rm = cut.tmod N := ⟨_, rfl⟩
      have hrmb : -N < rm ∧ rm < N := by
        rw [hrm]
        have h1 := Int.tmod_lt_of_pos cut (show (0 : Int) < N by omega)
        have h2 := Int.lt_tmod_of_pos cut (show (0 : Int) < N by omega)
        omega
      obtain ⟨a, ha⟩ : ∃ a : Nat, (rm + (m : Int) + 1) % N = (a : Int) := ⟨((rm + (m : Int) + 1) % N).toNat, by have := Int.emod_nonneg (rm + (m : Int) + 1) (show N ≠ 0 by omega); omega⟩
      have han : a ≤ m := by have := Int.emod_lt_of_pos (rm + (m : Int) + 1) (show (0 : Int) < N by omega); omega
      have er2 : (rm + (m : Int) + 1).tmod N = (a : Int) := by rw [Int.tmod_eq_emod_of_nonneg (by omega)]; exact ha
      have hN2 := hN.symm
      have er1 : cut.tmod ((m : Int) + 1) = rm := by rw [hN2, hrm]
      rw [← hN2] at er2 ha
      have er3 : (rm + (m : Int) + 1).tmod ((m : Int) + 1) = (a : Int) := er2
      have er4 : (rm + (m : Int) + 1) % ((m : Int) + 1) = (a : Int) := ha
      have b1a : -1501 ≤ rm := by omega
      have b1b : rm ≤ 1501 := by omega
      have b2 : (m : Int) ≤ 1500 := by omega
      have ens : ¬ (m : Int) + 1 = 0 := by omega
      have g1 : (a : Int) ≤ (m : Int) := by omega
      have g2 : (a : Int) ≤ (cb : Int) := by omega
      have CA := fun W (hW : RdI W .u8 Ab m cb (joinE l)) => all_any W Ab m cb (joinE l) 9 hW (by omega)
      obtain ⟨M, hM⟩ : ∃ M, M = allZ 9 [] ((joinE l).take a) := ⟨_, rfl⟩
      have CB := fun W (hW : RdI W .u8 Ab m cb (joinE l)) => all_any W Ab a cb ((joinE l).take a) 9 (rdI_pre hW han) (by omega)
      rw [hj, HL.out] at CA
      rw [← hM] at CB
      have key : M.2.2 = 0 ∧ M.2.1 = a ∧ M.1.length ≤ j := by
        have h := all_cut (rules := 9) (b := (joinE l).drop a) ((joinE l).take a) []
        rw [List.take_append_drop, ← hM, hj] at h
        rcases h with ⟨h1, h2⟩ | ⟨h1, h2, z', h3⟩
        · exact absurd (by rw [← h2]) h1
        · injection h3 with h3 _
          refine ⟨h1, by rw [h2, List.length_take]; omega, ?_⟩
          have := congrArg List.length h3
          rw [List.length_append, HL.out] at this
          omega
      obtain ⟨l2, k2, e2⟩ := M
      obtain ⟨rfl, rfl, hl2⟩ := key
      obtain ⟨nm, hnm⟩ : ∃ x, x = l2.length := ⟨_, rfl⟩
      simp only at CA CB hl2
      rw [← hnm] at CB hl2
      have CA' := Lib.hid CA
      have CB' := Lib.hid CB
      have hl3 : (nm : Int) ≤ (j : Int) := by omega
      clear hb hjn CA CB hN hN2 hrm hrmb ha hM hnm er2 hj hrb hm hm15 han hl2 ho
      go_upto_region 14 with (go_at_call 10; ((with_reducible refine (CA'.out _ HRB.out).mono ?_); rintro e' w2 ⟨v2, rfl, o2, b2'⟩; have HQ := Lib.hid (rdQ_own o2 HL.out); have B2 := Lib.hid (G.below_on HB.out b2'); have HRB2 := Lib.hid (HRB.out.below b2'); clear b2' o2))
      obtain ⟨A2, c2, hv2, HQ2⟩ := HQ.out
      subst hv2
      have HQ3 := Lib.hid HQ2
      have HR3 := Lib.hid (HR.out.below B2.out)
      have k1 : j ≤ c2 := HQ2.cap
      have k2' : (c2 : Int) ≤ 9223372036854775807 := by have := HQ2.max; unfold maxLen at this; omega
      go_wp2
      go_loopg [63] j (fun k0 sj wq => ∃ i : Nat, i ≤ j ∧ k0 = j - i ∧ sj = .int .i64 (i : Int) ∧ Below w2.heap.size w2 wq)
      case atStart => exact ⟨0, by omega, by omega, rfl, Below.refl _ _⟩
      case round =>
        obtain ⟨i, hi, hkk, rfl, hb⟩ := hrel
        have HK2 := Lib.hid hkk
        have HB2 := Lib.hid hb
        clear hkk
        by_cases hij : i < j
        · obtain ⟨g, off, rfl, hlt, hc⟩ := (HQ3.out.below hb).at_ (by omega)
          obtain ⟨g', off', rfl, hlt', hc'⟩ := (HR3.out.below hb).at_ (by omega)
          have ja : i < l.length := by have := HL.out; omega
          obtain ⟨c0, c1, c2, c3, c4⟩ := hc i ja
          obtain ⟨d0, d1, d2, d3, d4⟩ := hc' i ja
          obtain ⟨q, hq⟩ : ∃ q, q = l[i] := ⟨_, rfl⟩
          rw [← hq] at c0 c1 c2 c3 c4 d0 d1 d2 d3 d4
          have heq : ∀ w, (Op.equalIn 10000 32 (.agg (reqC q.op q.rule q.cost (strOfNums q.key) q.k)) (.agg (reqC q.op q.rule q.cost (strOfNums q.key) q.k))).run Try.prog w = .ok true w := fun w => by rw [req_equal]; simp
          have t6 : (0 : Int) ≤ (i : Int) := by omega
          have t7 : (i : Int) < (j : Int) := by omega
          clear hc hc' hb hlt hlt' hq ja
          go_upto_region 19 with (fail)
          go_quiet (fail)
          go_wp2
          go_roundg (j - (i + 1))
          case measure => have := HK2.out; omega
          case rel => exact ⟨i + 1, by omega, by omega, by go_num, below_draws HB2.out _⟩
        · have hie : i = j := by omega
          subst hie
          have HRB3 := Lib.hid (HRB2.out.below hb)
          have B3 := Lib.hid (G.below_on B2.out hb)
          clear hb hij
          go_wp2_with (go_at_call 10; ((with_reducible refine (CB'.out _ HRB3.out).mono ?_); rintro e' w4 ⟨v4, rfl, o4, b4⟩; obtain ⟨A4, c4, hv4, _⟩ := G.own_at o4; subst hv4; have B4 := Lib.hid (G.below_on B3.out b4); clear b4 o4))
          go_ret
          exact ⟨rfl, B4.out⟩
end Go.Proofs.Ytkcoofpoipgiaaa
