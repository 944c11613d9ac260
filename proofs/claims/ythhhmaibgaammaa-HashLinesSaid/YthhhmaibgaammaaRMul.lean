/- The contract of the document's Mul of layer 2. -/
import Derived.Test.YthhhmaibgaammaaHashB
namespace Go.Proofs.Ythhhmaibgaammaa
open Go.ChangeShapes Go.WideShapes Go.ChangeAt Go.RowKit
theorem rmul_any (a b : Nat) (ha : a < 2305843009213693951) (hb : b < 2305843009213693952) (w : World) :
    Calls Try.prog 11 #[.int .u64 a, .int .u64 b] w fun e w' => e = .returned (.int .u64 (a * b % 2305843009213693951 : Nat)) ∧ w = w' := by
  obtain ⟨T, hT⟩ : ∃ T, T = a * b % 2305843009213693951 := ⟨_, rfl⟩
  rw [← hT]
  have HT := Lib.hid hT
  clear hT
  go_enter Try.func11, Try.ntmps11
  go_wp2
  go_loopg [5, 6] 61 (fun k so si wr => ∃ (o : Nat), so = .int .u64 o ∧ si = .int .i64 ((k : Int) - 1) ∧ k ≤ 61 ∧ o < 2305843009213693951 ∧ Hid (o = a * (b / 2 ^ k) % 2305843009213693951) ∧ wr = w)
  case atStart =>
    refine ⟨0, rfl, rfl, by omega, by omega, Lib.hid ?_, rfl⟩
    rw [show b / 2 ^ 61 = 0 from Nat.div_eq_of_lt hb, Nat.mul_zero, Nat.zero_mod]
  case round =>
    obtain ⟨o, rfl, rfl, hk, ho, HJ, rfl⟩ := hrel
    cases gk with
    | zero =>
      go_wp2
      go_ret
      have := HJ.out
      rw [Nat.pow_zero, Nat.div_one] at this
      exact ⟨ret_i (by rw [this, HT.out]), rfl⟩
    | succ k =>
      rw [show ((k + 1 : Nat) : Int) - 1 = (k : Int) by omega]
      obtain ⟨o2, ho2⟩ : ∃ x, x = o * 2 % 2305843009213693951 := ⟨_, rfl⟩
      have e1 : (o : Int) * 2 % 2305843009213693951 = (o2 : Int) := by omega
      have ho2l : o2 < 2305843009213693951 := by omega
      obtain ⟨d, hd⟩ : ∃ d, d = b / 2 ^ k % 2 := ⟨_, rfl⟩
      have e2 : bits .and .u64 ((b : Int) / 2 ^ k) 1 = (d : Int) := by rw [Kn.div_cast, Ar.and_one _ (Nat.lt_of_le_of_lt (Nat.div_le_self _ _) (by omega)), hd]
      rcases Nat.mod_two_eq_zero_or_one (b / 2 ^ k) with g | g
      · have hj := Fp.add_even (a := a) (B := b) (k := k) (p := 2305843009213693951) g
        rw [← HJ.out, ← ho2] at hj
        have HJ2 := Lib.hid hj
        rw [g] at hd
        subst hd
        clear hj ho2 g
        go_wp2
        go_roundg k
        case measure => omega
        case rel => exact ⟨o2, by first | rfl | exact congrArg _ e1, rfl, by omega, ho2l, HJ2, rfl⟩
      · have hj := Fp.add_odd (a := a) (B := b) (k := k) (p := 2305843009213693951) g
        rw [← HJ.out, ← ho2] at hj
        obtain ⟨o3, ho3⟩ : ∃ x, x = (o2 + a) % 2305843009213693951 := ⟨_, rfl⟩
        have e3 : ((o2 : Int) + (a : Int)) % 2305843009213693951 = (o3 : Int) := by omega
        have ho3l : o3 < 2305843009213693951 := by omega
        rw [← ho3] at hj
        have HJ2 := Lib.hid hj
        rw [g] at hd
        subst hd
        clear hj ho2 g ho3
        go_wp2
        go_roundg k
        case measure => omega
        case rel => exact ⟨o3, by first | rfl | exact congrArg _ e3, rfl, by omega, ho3l, HJ2, rfl⟩
end Go.Proofs.Ythhhmaibgaammaa
