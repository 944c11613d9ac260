/- The contracts of layer 9 (cell): gaps, Bound, Idle. -/
import Derived.Test.YtfegoehiopkcnaaCellR
namespace Go.Proofs.Ytfegoehiopkcnaa
set_option linter.unusedSimpArgs false
set_option linter.unusedVariables false
set_option maxRecDepth 100000
open Go.ChangeShapes Go.WideShapes Go.ChangeAt Go.RowKit
open Ar (inR)
theorem i64_mask1 (n : Int) : bits .and .i64 n 1 = n % 2 := by
  have hm : (BitVec.ofInt 64 1).toNat = 2 ^ 1 - 1 := by decide
  have key : (BitVec.ofInt 64 n &&& BitVec.ofInt 64 1).toNat = (n % ((2 ^ 64 : Nat) : Int)).toNat % 2 ^ 1 := by
    rw [BitVec.toNat_and, BitVec.toNat_ofInt, hm, Nat.and_two_pow_sub_one_eq_mod]
  show IntKind.i64.wrap ((BitVec.ofInt 64 n &&& BitVec.ofInt 64 1).toNat : Nat) = n % 2
  rw [key, IntKind.wrap_i64]
  omega
/-- how much later a call is. -/
def gapZ (n : Int) : Int := if n % 2 = 1 then n / 2 % 4096 else n / 2 % 32
theorem gap_bd (n : Int) : 0 ≤ gapZ n ∧ gapZ n ≤ 4095 := by unfold gapZ; split <;> omega
set_option maxHeartbeats 400000 in
theorem gap_any (n : Int) (w : World) : Calls Try.prog 16 #[.int .i64 n] w fun e w' => e = .returned (.int .i64 (gapZ n)) ∧ w = w' := by
  obtain ⟨m, hm⟩ : ∃ m, m = n / 2 := ⟨_, rfl⟩
  obtain ⟨q, hq⟩ : ∃ q, q = n % 2 := ⟨_, rfl⟩
  have e1 : bits .and .i64 n 1 = q := by rw [i64_mask1, hq]
  obtain ⟨x, hx⟩ : ∃ x, x = m % 4096 := ⟨_, rfl⟩
  obtain ⟨y, hy⟩ : ∃ y, y = m % 32 := ⟨_, rfl⟩
  have e2 : bits .and .i64 m 4095 = x := by rw [i64_mask12, hx]
  have e3 : bits .and .i64 m 31 = y := by rw [i64_mask5, hy]
  have e0 : n / 2 = m := hm.symm
  have g : gapZ n = if q = 1 then x else y := by unfold gapZ; rw [← hq, ← hm, hx, hy]
  rw [g]
  by_cases h : q = 1
  · have t : (q == 1) = true := by simpa using h
    have gg : (if q = 1 then x else y) = x := if_pos h
    rw [gg]
    clear hm hq hx hy g h gg
    go_enter Try.func16, Try.ntmps16
    go_wp2
    go_ret
    exact ⟨rfl, rfl⟩
  · have t : (q == 1) = false := by simpa using h
    have gg : (if q = 1 then x else y) = y := if_neg h
    rw [gg]
    clear hm hq hx hy g h gg
    go_enter Try.func16, Try.ntmps16
    go_wp2
    go_ret
    exact ⟨rfl, rfl⟩
/-- no more than this was let through in the window that ends now. -/
def boundP (F S D U W L t : Int) : Int := min (if t < S + W then D else max 0 ((F - (t - W)).tdiv U)) L
section
variable {F S C D U W B L t : Int}
theorem young_rng (h : Rng F S C D U W B L t) (w : World) :
    Calls Try.prog 29 #[cv F S C D, pv U W B L, .int .i64 t] w fun e w' => e = .returned (.bool (decide (t < S + W))) ∧ Below w.heap.size w w' := by
  obtain ⟨_, _, _, h4, _⟩ := h.clamps
  obtain ⟨hF, hS, hC, hD, hU, hW, hB, hL, ht⟩ := h
  have := young_any F S C D U W B L t (by unfold inR; omega) (by unfold inR; omega) w
  rw [h4] at this
  exact this
set_option maxHeartbeats 1000000 in
theorem bound_rng (h : Rng F S C D U W B L t) (w : World) :
    Calls Try.prog 23 #[cv F S C D, pv U W B L, .int .i64 t] w fun e w' => e = .returned (.int .i64 (boundP F S D U W L t)) ∧ Below w.heap.size w w' := by
  have c4 := fun w => young_rng h w
  obtain ⟨hF, hS, hC, hD, hU, hW, hB, hL, ht⟩ := h
  have e1 : IntKind.i64.wrap (t - W) = t - W := by rw [IntKind.wrap_i64]; omega
  have e2 : IntKind.i64.wrap (F - (t - W)) = F - (t - W) := by rw [IntKind.wrap_i64]; omega
  have c3 := fun w => by_any (F - (t - W)) U W B L (by unfold inR; omega) (by omega) w
  obtain ⟨s, hs⟩ : ∃ s, s = t - W := ⟨_, rfl⟩
  rw [← hs] at e1 e2 c3
  obtain ⟨d, hd⟩ : ∃ d, d = F - s := ⟨_, rfl⟩
  rw [← hd] at e2 c3
  obtain ⟨q, hq⟩ : ∃ q, q = d.tdiv U := ⟨_, rfl⟩
  rw [← hq] at c3
  obtain ⟨y, hy⟩ : ∃ y, y = decide (t < S + W) := ⟨_, rfl⟩
  rw [← hy] at c4
  have e : boundP F S D U W L t = min (if y = true then D else max 0 q) L := by
    unfold boundP; rw [hq, hd, hs, hy]; by_cases g : t < S + W <;> simp [g]
  rw [e]
  have hbt : -9223372036854775808 ≤ t - W ∧ t - W ≤ 9223372036854775807 := by omega
  have C3 := Lib.hid c3
  have C4 := Lib.hid c4
  clear c3 c4 e hq hF hS hC hD hU hW hB hL ht hbt
  have EY := Lib.hid hy
  clear hy
  cases y
  all_goals
    have E1 := Lib.hid e1
    have E2 := Lib.hid e2
    have HS := Lib.hid hs
    have HD := Lib.hid hd
    clear e1 e2 hs hd
    go_enter Try.func23, Try.ntmps23
    go_upto_region 2 with (fail)
    obtain ⟨f0, f1, f2, f3, f4, f5, f6, f7, fb⟩ := boxes_at w F S C D U W B L
    unfold boxes at *
    generalize (w.alloc (.cells #[.int .i64 F, .int .i64 S, .int .i64 C, .int .i64 D] 36)).alloc (.cells #[.int .i64 U, .int .i64 W, .int .i64 B, .int .i64 L] 31) = w2 at *
    have FB := Lib.hid fb
    have Z := Lib.hid (Below.refl w2.heap.size w2)
    clear fb
    generalize w.heap.size = b0 at f0 f1 f2 f3 f4 f5 f6 f7 ⊢
    have F0 := Lib.hid f0
    have F1 := Lib.hid f1
    have F2 := Lib.hid f2
    have F3 := Lib.hid f3
    have F4 := Lib.hid f4
    have F5 := Lib.hid f5
    have F6 := Lib.hid f6
    have F7 := Lib.hid f7
    have e1 := E1.out
    have e2 := E2.out
    have ew : t - W = s := HS.out.symm
    have ed : F - s = d := HD.out.symm
    go_wp2_with (first
      | (go_at_call 29; ((with_reducible refine (Calls.heldC C4.out _ Z.out).mono ?_); rintro e w3 ⟨rfl, y⟩; have g0 := cell_kept y F0.out; have g1 := cell_kept y F1.out; have g2 := cell_kept y F2.out; have g3 := cell_kept y F3.out; have g4 := cell_kept y F4.out; have g5 := cell_kept y F5.out; have g6 := cell_kept y F6.out; have g7 := cell_kept y F7.out; have Y := Lib.hid y; clear y))
      | (go_at_call 28; ((with_reducible refine (Calls.heldC C3.out _ Y.out).mono ?_); rintro e w4 ⟨rfl, y⟩; have k0 := cell_kept y F0.out; have k7 := cell_kept y F7.out; have Y2 := Lib.hid y; clear y)))
    all_goals
      go_ret
      first
        | exact ⟨ret_i (by simp only [Int.min_def, Int.max_def]; (repeat' split) <;> simp_all <;> omega), below_from FB.out Y2.out⟩
        | exact ⟨ret_i (by simp only [Int.min_def, Int.max_def]; (repeat' split) <;> simp_all <;> omega), below_from FB.out Y.out⟩
end
end Go.Proofs.Ytfegoehiopkcnaa
