/- The contract of arith.Product: the nearest product. -/
import Derived.Test.YtmdkokehomboaaaArSum
import Derived.WalkKit
import Derived.ProofKit
import Derived.OpenShut
import Derived.Lib.Hide
namespace Go.Proofs.Ytmdkokehomboaaa
set_option linter.unusedSimpArgs false
set_option linter.unusedVariables false
set_option maxRecDepth 100000
open Go.ChangeShapes Go.WideShapes Go.ChangeAt Go.RowKit
open Ar (inR)
theorem sgn_b (p a b : Int) : (decide (p < 0) == !(decide (a < 0) == decide (b < 0))) = true ↔ (p < 0 ↔ ¬(a < 0 ↔ b < 0)) := by
  by_cases hp : p < 0 <;> by_cases ha : a < 0 <;> by_cases hb : b < 0 <;> simp [hp, ha, hb]
theorem mul_any (a b : Int) (ha : inR a) (hb : inR b) (w : World) :
    Calls Try.prog 42 #[.int .i64 a, .int .i64 b] w fun e w' => e = .returned (.tuple #[.int .i64 (wrap64 (a * b)), .bool (decide (inR (a * b)))]) ∧ w = w' := by
  by_cases ha0 : a = 0
  · subst ha0
    go_enter Try.func42, Try.ntmps42
    go_wp2
    go_ret2
    exact ⟨ret_ib (by rw [Int.zero_mul, Ar.wrap_eq (by unfold inR; omega)]) (by rw [Int.zero_mul]; rfl), rfl⟩
  by_cases hb0 : b = 0
  · subst hb0
    have e : (a == 0) = false := by simpa using ha0
    go_enter Try.func42, Try.ntmps42
    go_wp2
    go_ret2
    exact ⟨ret_ib (by rw [Int.mul_zero, Ar.wrap_eq (by unfold inR; omega)]) (by rw [Int.mul_zero]; rfl), rfl⟩
  have hm := Ar.mul_ok a b ha hb ha0 hb0
  obtain ⟨p, hp⟩ : ∃ p, p = wrap64 (a * b) := ⟨_, rfl⟩
  obtain ⟨t, ht⟩ : ∃ t, t = wrap64 (p.tdiv b) := ⟨_, rfl⟩
  rw [← hp, ← ht] at hm
  have HM := Lib.hid hm
  have hpi : inR p := by rw [hp]; exact Ar.wrap_in _
  unfold inR at ha hb hpi
  have e1 : (a == 0) = false := by simpa using ha0
  have e2 : (b == 0) = false := by simpa using hb0
  have e3 : wrap64 (a * b) = p := hp.symm
  have e4 : wrap64 (p.tdiv b) = t := ht.symm
  rw [← hp]
  clear hm hp ht
  have HB := Lib.hid hb0
  clear ha0 hb0
  by_cases hta : t = a
  · have e5 : (t == a) = true := by simpa using hta
    have HT := Lib.hid hta
    clear hta
    go_enter Try.func42, Try.ntmps42
    go_wp2
    go_ret2
    refine ⟨ret_ib rfl ?_, rfl⟩
    have hm := HM.out
    have ht := HT.out
    rw [Bool.eq_iff_iff, decide_eq_true_eq, ← hm]
    simp only [ht, true_and]
    exact sgn_b p a b
  · have e5 : (t == a) = false := by simpa using hta
    have HT := Lib.hid hta
    clear hta
    go_enter Try.func42, Try.ntmps42
    go_wp2
    go_ret2
    refine ⟨ret_ib rfl ?_, rfl⟩
    have hm := HM.out
    have ht := HT.out
    symm
    rw [decide_eq_false_iff_not, ← hm]
    exact fun h => ht h.1
theorem product_any (a b : Int) (ha : inR a) (hb : inR b) (w : World) :
    Calls Try.prog 32 #[.int .i64 a, .int .i64 b] w fun e w' => e = .returned (.int .i64 (clamp (a * b))) ∧ w = w' := by
  by_cases h : inR (a * b)
  · have hd : decide (inR (a * b)) = true := by rw [decide_eq_true_eq]; exact h
    have HA := Lib.hid ha
    have HB := Lib.hid hb
    have HH := Lib.hid h
    clear h ha hb
    go_enter Try.func32, Try.ntmps32
    go_wp2_with (go_at_call 42; refine (mul_any _ _ HA.out HB.out _).mono ?_; rintro e w' ⟨rfl, rfl⟩)
    go_ret
    have h := HH.out
    exact ⟨ret_i (by rw [Ar.wrap_eq h]; unfold clamp; unfold inR at h; rw [if_neg (by omega), if_neg (by omega)]), rfl⟩
  · have hd : decide (inR (a * b)) = false := by rw [decide_eq_false_iff_not]; exact h
    have h0 : a ≠ 0 ∧ b ≠ 0 := by
      constructor
      · intro g; subst g; apply h; rw [Int.zero_mul]; unfold inR; omega
      · intro g; subst g; apply h; rw [Int.mul_zero]; unfold inR; omega
    have hs := Ar.sgn a b h0.1 h0.2
    clear h0
    by_cases ga : a < 0 <;> by_cases gb : b < 0 <;> simp [ga, gb] at hs
    all_goals
      have HS := Lib.hid hs
      have HA := Lib.hid ha
      have HB := Lib.hid hb
      have HH := Lib.hid h
      clear h ha hb hs
      go_enter Try.func32, Try.ntmps32
      go_wp2_with (first | (go_at_call 42; refine (mul_any _ _ HA.out HB.out _).mono ?_; rintro e w' ⟨rfl, rfl⟩) | (go_at_call 36; refine (edge_any _ _).mono ?_; rintro e w' ⟨rfl, rfl⟩))
    all_goals
      go_ret
      have h := HH.out
      have hs := HS.out
      unfold inR at h
      refine ⟨ret_i ?_, rfl⟩
      unfold clamp
      first | rw [if_pos (by omega)] | rw [if_neg (by omega), if_pos (by omega)]

end Go.Proofs.Ytmdkokehomboaaa
