/- The laws of layer 14 (decode), walked: streams. -/
import Derived.Test.YtkcoofpoipgiaaaDcF
import Derived.Test.YtkcoofpoipgiaaaDcG
namespace Go.Proofs.Ytkcoofpoipgiaaa
set_option linter.unusedSimpArgs false
set_option linter.unusedVariables false
open Go.ChangeShapes Go.WideShapes Go.ChangeAt Go.RowKit
set_option maxHeartbeats 4000000 in
set_option maxRecDepth 100000 in
theorem streams_law (w : World) (A : Option Addr) (n c : Nat) (zs : List Int) (rules0 : Int) (hr : RdI w .u8 A n c zs) (_ : -9223372036854775808 ≤ rules0 ∧ rules0 ≤ 9223372036854775807) :
    Calls Try.prog 3 #[.slice A n c, .int .i64 rules0] w fun e w' => e = .returned (.bool true) ∧ Below w.heap.size w w' := by
  have hmx := hr.max
  have hcp := hr.cap
  have hlen := hr.len
  unfold maxLen at hmx
  have HR := Lib.hid hr
  clear hr
  by_cases hn : (1500 : Int) < (n : Int)
  · have t1 : decide ((1500 : Int) < (n : Int)) = true := by rw [decide_eq_true_eq]; exact hn
    go_enter Try.func3, Try.ntmps3
    go_wp2_with (go_at_call 9; refine (fit_any _).mono ?_; rintro e w1 ⟨rfl, b1⟩; have B1 := Lib.hid b1; clear b1)
    go_ret
    exact ⟨rfl, B1.out⟩
  have t1 : decide ((1500 : Int) < (n : Int)) = false := by rw [decide_eq_false_iff_not]; exact hn
  obtain ⟨rules, hru⟩ : ∃ r, bits .and .i64 rules0 15 = r := ⟨_, rfl⟩
  obtain ⟨L, hL⟩ : ∃ L, L = allZ rules [] zs := ⟨_, rfl⟩
  have CA := Lib.hid (fun W (hW : RdI W .u8 A n c zs) => all_any W A n c zs rules hW (by omega))
  have CB := Lib.hid (fun W (hW : RdI W .u8 A n c zs) => lall_any W A n c zs rules hW (by omega))
  rw [← hL] at CA CB
  have HL1 := Lib.hid (show L.1.length ≤ 1500 from by have := all_some rules zs []; rw [← hL] at this; omega)
  obtain ⟨l, k, e⟩ := L
  obtain ⟨nl, hnl⟩ : ∃ x, x = l.length := ⟨_, rfl⟩
  have HNL := Lib.hid hnl.symm
  simp only at CA CB HL1
  rw [← hnl] at CA CB HL1
  have hb1 : (nl : Int) ≤ 1500 := by have := HL1.out; omega
  clear hn hL hnl hlen
  go_enter Try.func3, Try.ntmps3
  go_upto_region 8 with (first
    | (go_at_call 9; refine (fit_any _).mono ?_; rintro e w1 ⟨rfl, b1⟩; have B1 := Lib.hid b1; clear b1)
    | (go_at_call 10; ((with_reducible refine (CA.out _ (HR.out.below B1.out)).mono ?_); rintro e' w2 ⟨v2, rfl, o2, b2⟩; have HQ := Lib.hid (rdQ_own o2 HNL.out); have B2 := Lib.hid (G.below_on B1.out b2); clear b2 o2))
    | (go_at_call 11; ((with_reducible refine (CB.out _ (HR.out.below B2.out)).mono ?_); rintro e' w3 ⟨v3, rfl, o3, b3⟩; obtain ⟨A2, c2, hv2, HQ2⟩ := HQ.out; have HQ3 := Lib.hid (HQ2.below b3); obtain ⟨A3, c3, hv3, HQ4⟩ := rdQ_own o3 HNL.out; have HQ5 := Lib.hid HQ4; have B3 := Lib.hid (G.below_on B2.out b3); clear b3 o3)))
  subst hv2 hv3
  have k1 : nl ≤ c2 := HQ3.out.cap
  have k2' : (c2 : Int) ≤ 9223372036854775807 := by have := HQ3.out.max; unfold maxLen at this; omega
  have k3 : nl ≤ c3 := HQ5.out.cap
  have k4 : (c3 : Int) ≤ 9223372036854775807 := by have := HQ5.out.max; unfold maxLen at this; omega
  go_wp2
  go_loopg [50] nl (fun k0 sj wr => ∃ j : Nat, j ≤ nl ∧ k0 = nl - j ∧ sj = .int .i64 (j : Int) ∧ Below w3.heap.size w3 wr)
  case atStart => exact ⟨0, by omega, by omega, rfl, Below.refl _ _⟩
  case round =>
    obtain ⟨j, hj, hkk, rfl, hb⟩ := hrel
    have HK := Lib.hid hkk
    have HB := Lib.hid hb
    clear hkk
    by_cases hjn : j < nl
    · obtain ⟨g, off, rfl, hlt, hc⟩ := (HQ3.out.below hb).at_ (by omega)
      obtain ⟨g', off', rfl, hlt', hc'⟩ := (HQ5.out.below hb).at_ (by omega)
      have ja : j < l.length := by have := HQ3.out.len; omega
      have jb : j < l.length := by have := HQ5.out.len; omega
      obtain ⟨c0, c1, c2, c3, c4⟩ := hc j ja
      obtain ⟨d0, d1, d2, d3, d4⟩ := hc' j jb
      obtain ⟨q, hq⟩ : ∃ q, q = l[j] := ⟨_, rfl⟩
      have hq2 : l[j] = q := hq.symm
      rw [← hq] at c0 c1 c2 c3 c4
      rw [hq2] at d0 d1 d2 d3 d4
      have heq : ∀ w, (Op.equalIn 10000 32 (.agg (reqC q.op q.rule q.cost (strOfNums q.key) q.k)) (.agg (reqC q.op q.rule q.cost (strOfNums q.key) q.k))).run Try.prog w = .ok true w := fun w => by rw [req_equal]; simp
      have t6 : (0 : Int) ≤ (j : Int) := by omega
      have t7 : (j : Int) < (nl : Int) := by omega
      clear hc hc' hb hlt hlt' hq hq2 ja jb
      go_upto_region 13 with (fail)
      go_quiet (fail)
      go_wp2
      go_roundg (nl - (j + 1))
      case measure => have := HK.out; omega
      case rel => exact ⟨j + 1, by omega, by omega, by go_num, below_draws HB.out _⟩
    · have hje : j = nl := by omega
      subst hje
      clear hb
      go_wp2
      go_ret
      exact ⟨rfl, B3.out.trans (HB.out.mono B3.out.size)⟩
end Go.Proofs.Ytkcoofpoipgiaaa
