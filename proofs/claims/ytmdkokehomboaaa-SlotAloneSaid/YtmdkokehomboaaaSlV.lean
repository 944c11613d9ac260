/- The law SlotOver of layer 6 (slot), walked. -/
import Derived.Test.YtmdkokehomboaaaSlC
import Derived.Test.YtmdkokehomboaaaMap
namespace Go.Proofs.Ytmdkokehomboaaa
set_option linter.unusedSimpArgs false
set_option linter.unusedVariables false
open Go.ChangeShapes Go.WideShapes Go.ChangeAt Go.RowKit
open Ar (inR)
/-- a map of numbers, as one of values. -/
def liftH (H : ByteArray → Option Int) : ByteArray → Option Value := fun s => (H s).map (Value.int .i64)
def putH (H : ByteArray → Option Int) (s : ByteArray) (x : Int) : ByteArray → Option Int := fun t => if t = s then some x else H t
theorem liftH_put (H : ByteArray → Option Int) (s : ByteArray) (x : Int) : (fun t => if t = s then some (Value.int .i64 x) else liftH H t) = liftH (putH H s x) := by
  funext t
  unfold liftH putH
  split <;> rfl
theorem liftH_getD (H : ByteArray → Option Int) (s : ByteArray) : (liftH H s).getD (.int .i64 0) = .int .i64 ((H s).getD 0) := by
  unfold liftH; cases H s <;> rfl
theorem liftH_some {H : ByteArray → Option Int} {s : ByteArray} {v : Value} (h : liftH H s = some v) : ∃ x, H s = some x ∧ v = .int .i64 x := by
  unfold liftH at h
  cases hH : H s with
  | none => rw [hH] at h; cases h
  | some x => rw [hH] at h; exact ⟨x, rfl, (Option.some.inj h).symm⟩
theorem liftH_none : liftH (fun _ => none) = fun _ => none := rfl
/-- what the law knows behind i calls. -/
structure OvI (H : ByteArray → Option Int) (f : Nat → Nat → Int) (P : Nat → ByteArray → Nat) (k : Nat) (g : Nat → Nat → Int) (A : Int) (i : Nat) : Prop where
  has : ∀ s x, H s = some x → (0 ≤ x ∧ x ≤ 65535 * (i : Int)) ∧ x ≤ Sk.leastR f P s (k - 1)
  up : ∀ j p, f j p ≤ A
  al : 0 ≤ A ∧ A ≤ 65535 * (i : Int)
  one : g 0 0 = A
theorem OvI.getD {H : ByteArray → Option Int} {f : Nat → Nat → Int} {P : Nat → ByteArray → Nat} {k : Nat} {g : Nat → Nat → Int} {A : Int} {i : Nat} (h : OvI H f P k g A i) (hf : Sk.okC f) (s : ByteArray) : (0 ≤ (H s).getD 0 ∧ (H s).getD 0 ≤ 65535 * (i : Int)) ∧ (H s).getD 0 ≤ Sk.leastR f P s (k - 1) := by
  cases hH : H s with
  | none => exact ⟨⟨Int.le_refl _, by show (0:Int) ≤ _; omega⟩, (hf.least P s (k - 1)).1⟩
  | some x => exact h.has s x hH
theorem OvI.step {H : ByteArray → Option Int} {f : Nat → Nat → Int} {P : Nat → ByteArray → Nat} {k : Nat} {g : Nat → Nat → Int} {A : Int} {i : Nat} (h : OvI H f P k g A i) (hf : Sk.okC f) (hg : Sk.okC g) (hk : 1 ≤ k) (hi : i ≤ 100) (Q : Nat → ByteArray → Nat) (ky : ByteArray) (hQ : Q 0 ky = 0) {c : Int} (hc : 0 ≤ c ∧ c ≤ 65535) :
    OvI (putH H ky ((H ky).getD 0 + c)) (Sk.add f P k ky c) P k (Sk.add g Q 1 ky c) (A + c) (i + 1) := by
  have hd := h.getD hf ky
  have hal := h.al
  refine ⟨fun s x hx => ?_, fun j p => ?_, by omega, ?_⟩
  · unfold putH at hx
    by_cases e : s = ky
    · subst e
      rw [if_pos rfl] at hx
      injection hx with hx
      refine ⟨by omega, ?_⟩
      by_cases h0 : c < 1
      · rw [add_none _ _ _ _ h0]; omega
      · rw [Sk.add_self hf P hk s ⟨by omega, by omega⟩]
        obtain ⟨j, _, he⟩ := Sk.leastR_is f P s (k - 1)
        have := h.up j (P j s)
        rw [clamp_in (by omega)]; omega
    · rw [if_neg e] at hx
      have := h.has s x hx
      exact ⟨by omega, Int.le_trans this.2 (Sk.least_mono (Sk.add_ge f P k ky c) P s (k - 1))⟩
  · have := Sk.add_le hf P (k := k) ky (c := c) (by omega) j p
    have := h.up j p
    omega
  · by_cases h0 : c < 1
    · rw [add_none _ _ _ _ h0, h.one]; omega
    · have h1 := Sk.add_self hg Q (k := 1) (Nat.le_refl _) ky (c := c) ⟨by omega, by omega⟩
      have e1 : ∀ q : Nat → Nat → Int, Sk.leastR q Q ky (1 - 1) = q 0 0 := fun q => by show q 0 (Q 0 ky) = q 0 0; rw [hQ]
      rw [e1, e1, h.one, clamp_in (by omega)] at h1
      exact h1
theorem snew_none (w : World) : Calls Try.prog 11 #[.slice none 0 0, .int .i64 3] w fun e w' => e = .returned (.pointer none) ∧ w = w' := by
  have hund : undef = Value.tuple #[] := rfl
  go_enter Try.func11, Try.ntmps11
  go_wp2
  go_ret
  exact ⟨rfl, rfl⟩
theorem snew_thin (b0 k : Nat) (hk : 1 ≤ k ∧ k ≤ 8) (w : World) : Calls Try.prog 11 #[.slice (some ⟨b0, 0, none⟩) k k, .int .i64 0] w fun e w' => e = .returned (.pointer none) ∧ w = w' := by
  have hund : undef = Value.tuple #[] := rfl
  have t1 : ((k : Int) == 0) = false := by simp; omega
  have t2 : (k : Int) ≤ 8 := by omega
  go_enter Try.func11, Try.ntmps11
  go_wp2
  go_ret
  exact ⟨rfl, rfl⟩
end Go.Proofs.Ytmdkokehomboaaa
