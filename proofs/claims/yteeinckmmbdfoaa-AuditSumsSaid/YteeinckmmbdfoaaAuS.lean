/- The contracts of layer 20 (audit): comparing, sorting. -/
import Derived.Test.YteeinckmmbdfoaaAuM
import Derived.Test.YteeinckmmbdfoaaShelf
import Derived.WalkLawsBesides
namespace Go.Proofs.Yteeinckmmbdfoaa
set_option linter.unusedSimpArgs false
set_option linter.unusedVariables false
set_option maxRecDepth 100000
open Go.ChangeShapes Go.WideShapes Go.ChangeAt Go.RowKit Go.Maps
open Go.Sort (SWO grow PermIn SortedIn alloc_eq_grow grow_grow)
set_option maxHeartbeats 1000000 in
theorem nanS (x : ByteArray) (w : World) : Calls Try.prog 26 #[.string x] w fun e w' => e = .returned (.bool false) ∧ w' = w := by
  go_enter Try.func26, Try.ntmps26
  go_wp2
  go_ret
  exact ⟨by simp, rfl⟩
set_option maxHeartbeats 1000000 in
theorem nanI (x : Int) (w : World) : Calls Try.prog 30 #[.int .i64 x] w fun e w' => e = .returned (.bool false) ∧ w' = w := by
  go_enter Try.func30, Try.ntmps30
  go_wp2
  go_ret
  exact ⟨by simp, rfl⟩
theorem not_less_both {a b : List UInt8} (h : Op.bytesLess a b = true) : Op.bytesLess b a = false := by
  cases h2 : Op.bytesLess b a with
  | false => rfl
  | true =>
    have := less_swo.trans _ _ _ h h2
    rw [less_swo.irrefl] at this
    cases this
set_option maxHeartbeats 1000000 in
theorem cmpS_any (x y : ByteArray) (w : World) : Calls Try.prog 17 #[.string x, .string y] w fun e w' => e = .returned (.int .i64 (cfS x y)) ∧ w' = w := by
  unfold cfS
  have hg : (!(Op.bytesLess x.toList y.toList || x.toList == y.toList)) = Op.bytesLess y.toList x.toList := by
    cases h1 : Op.bytesLess x.toList y.toList with
    | true => rw [not_less_both h1]; rfl
    | false =>
      cases h2 : Op.bytesLess y.toList x.toList with
      | true =>
        have : ¬ x.toList = y.toList := fun e => by rw [e, less_swo.irrefl] at h2; cases h2
        simp [this]
      | false => simp [less_anti h1 h2]
  by_cases h1 : Op.bytesLess x.toList y.toList = true
  · rw [if_pos h1]
    clear hg
    go_enter Try.func17, Try.ntmps17
    go_wp2_with (go_at_call 26; refine (nanS _ _).mono ?_; rintro e w' ⟨rfl, rfl⟩)
    go_ret
    exact ⟨rfl, rfl⟩
  · rw [if_neg h1]
    have h1 : Op.bytesLess x.toList y.toList = false := by simpa using h1
    by_cases h2 : Op.bytesLess y.toList x.toList = true
    · rw [if_pos h2]
      rw [h1, h2] at hg
      have hg : (x.toList == y.toList) = false := by simpa using hg
      go_enter Try.func17, Try.ntmps17
      go_wp2_with (go_at_call 26; refine (nanS _ _).mono ?_; rintro e w' ⟨rfl, rfl⟩)
      go_ret
      exact ⟨rfl, rfl⟩
    · rw [if_neg h2]
      have h2 : Op.bytesLess y.toList x.toList = false := by simpa using h2
      have hg : (x.toList == y.toList) = true := by simp [less_anti h1 h2]
      go_enter Try.func17, Try.ntmps17
      go_wp2_with (go_at_call 26; refine (nanS _ _).mono ?_; rintro e w' ⟨rfl, rfl⟩)
      go_ret
      exact ⟨rfl, rfl⟩
set_option maxHeartbeats 1000000 in
theorem cmpI_any (x y : Int) (w : World) : Calls Try.prog 22 #[.int .i64 x, .int .i64 y] w fun e w' => e = .returned (.int .i64 (Lib.compareInt x y)) ∧ w' = w := by
  unfold Lib.compareInt
  by_cases h1 : x < y
  · rw [if_pos h1]
    go_enter Try.func22, Try.ntmps22
    go_wp2_with (go_at_call 30; refine (nanI _ _).mono ?_; rintro e w' ⟨rfl, rfl⟩)
    go_ret
    exact ⟨rfl, rfl⟩
  · rw [if_neg h1]
    by_cases h2 : x > y
    · rw [if_pos h2]
      go_enter Try.func22, Try.ntmps22
      go_wp2_with (go_at_call 30; refine (nanI _ _).mono ?_; rintro e w' ⟨rfl, rfl⟩)
      go_ret
      exact ⟨rfl, rfl⟩
    · rw [if_neg h2]
      have h2 : ¬ y < x := h2
      go_enter Try.func22, Try.ntmps22
      go_wp2_with (go_at_call 30; refine (nanI _ _).mono ?_; rintro e w' ⟨rfl, rfl⟩)
      go_ret
      exact ⟨rfl, rfl⟩
/-- a key's two cells. -/
def encW (x : Who) : List Value := [.int .i64 x.r, .string x.s]
theorem encW_len : ∀ a, (encW a).length = 2 := fun _ => rfl
set_option maxHeartbeats 1000000 in
theorem closG (x y : Int × Int) (W : World) : Calls Try.prog 21 #[.agg #[.int .i64 x.1, .int .i64 x.2], .agg #[.int .i64 y.1, .int .i64 y.2]] W fun e w' => e = .returned (.int .i64 (cfG x y)) ∧ ∃ q os', w' = grow (W.drewN q) os' := by
  have hcon := fun W' => cmpI_any x.1 y.1 W'
  unfold cfG
  generalize Lib.compareInt x.1 y.1 = r at hcon ⊢
  have HC := Lib.hid hcon
  clear hcon
  go_enter Try.func21, Try.ntmps21
  go_wp2_with (go_at_call 22; refine (HC.out _).mono ?_; rintro e w' ⟨rfl, rfl⟩)
  go_ret
  exact ⟨rfl, 0, _, by rw [alloc_eq_grow, alloc_eq_grow, grow_grow]; rfl⟩
set_option maxHeartbeats 1000000 in
theorem closW (x y : Who) (W : World) : Calls Try.prog 15 #[.agg #[.int .i64 x.r, .string x.s], .agg #[.int .i64 y.r, .string y.s]] W fun e w' => e = .returned (.int .i64 (cfW x y)) ∧ ∃ q os', w' = grow (W.drewN q) os' := by
  have hc1 := fun W' => Try.cmp_Compare_int x.r y.r W'
  have hc2 := fun W' => cmpS_any x.s y.s W'
  unfold cfW
  by_cases e : x.r = y.r
  · rw [if_pos e]
    have e' : (x.r != y.r) = false := by simp [e]
    generalize cfS x.s y.s = r at hc2 ⊢
    obtain ⟨a1, ha1⟩ : ∃ z, z = x.r := ⟨_, rfl⟩
    obtain ⟨b1, hb1⟩ : ∃ z, z = y.r := ⟨_, rfl⟩
    rw [← ha1, ← hb1] at e' ⊢
    have HC2 := Lib.hid hc2
    clear hc1 hc2 e ha1 hb1
    go_enter Try.func15, Try.ntmps15
    go_wp2_with (go_at_call 17; refine (HC2.out _).mono ?_; rintro e w' ⟨rfl, rfl⟩)
    go_ret
    exact ⟨rfl, 0, _, by rw [alloc_eq_grow, alloc_eq_grow, grow_grow]; rfl⟩
  · rw [if_neg e]
    have e' : (x.r != y.r) = true := by simp [e]
    generalize Lib.compareInt x.r y.r = r at hc1 ⊢
    have HC1 := Lib.hid hc1
    clear hc1 hc2 e
    go_enter Try.func15, Try.ntmps15
    go_wp2_with (go_at_call 16; refine (HC1.out _).mono ?_; rintro e w' ⟨rfl, rfl⟩)
    go_ret
    exact ⟨rfl, 0, _, by rw [alloc_eq_grow, alloc_eq_grow, grow_grow]; rfl⟩
end Go.Proofs.Yteeinckmmbdfoaa
