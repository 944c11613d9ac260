/- The law SummaryFew of layer 8: the plain side. -/
import Derived.Test.YtnpiimaapholiaaSmL
import Derived.Test.YtnpiimaapholiaaMap
import Derived.Test.YtnpiimaapholiaaBits
namespace Go.Proofs.Ytnpiimaapholiaa
set_option linter.unusedSimpArgs false
set_option linter.unusedVariables false
open Go.ChangeShapes Go.WideShapes Go.ChangeAt Go.RowKit
/-- a map of numbers, as one of values. -/
def liftH (H : ByteArray → Option Int) : ByteArray → Option Value := fun s => (H s).map (Value.int .i64)
def putH (H : ByteArray → Option Int) (s : ByteArray) (x : Int) : ByteArray → Option Int := fun t => if t = s then some x else H t
theorem liftH_put (H : ByteArray → Option Int) (s : ByteArray) (x : Int) : (fun t => if t = s then some (Value.int .i64 x) else liftH H t) = liftH (putH H s x) := by
  funext t
  unfold liftH putH
  split <;> rfl
theorem liftH_getD (H : ByteArray → Option Int) (s : ByteArray) : (liftH H s).getD (.int .i64 0) = .int .i64 ((H s).getD 0) := by
  unfold liftH; cases H s <;> rfl
theorem liftH_some {H : ByteArray → Option Int} {s : ByteArray} {v : Value} (h : liftH H s = some v) : ∃ x, H s = some x ∧ v = .int .i64 x := by
  unfold liftH at h
  cases hH : H s with
  | none => rw [hH] at h; cases h
  | some x => rw [hH] at h; exact ⟨x, rfl, (Option.some.inj h).symm⟩
theorem liftH_none : liftH (fun _ => none) = fun _ => none := rfl
/-- what the law knows behind i calls. -/
structure FwI (H : ByteArray → Option Int) (M : List Tri) (tot : Int) (cm i : Nat) : Prop where
  len : M.length = cm
  c8 : cm ≤ 8
  ci : cm ≤ i
  tel : ∀ s, tellM M s = (if (H s).isSome then ((H s).getD 0, 0, true) else (0, 0, false))
  tb : 0 ≤ tot ∧ tot ≤ 4096 * (i : Int)
  xb : ∀ s, 0 ≤ (H s).getD 0 ∧ (H s).getD 0 ≤ 4096 * (i : Int)
theorem FwI.skip {H : ByteArray → Option Int} {M : List Tri} {tot : Int} {cm i : Nat} (h : FwI H M tot cm i) : FwI H M tot cm (i + 1) :=
  ⟨h.len, h.c8, by have := h.ci; omega, h.tel, by have := h.tb; omega, fun s => by have := h.xb s; omega⟩
theorem FwI.tells {H : ByteArray → Option Int} {M : List Tri} {tot : Int} {cm i : Nat} (h : FwI H M tot cm i) (s : ByteArray) : (tellM M s).2.2 = (H s).isSome := by
  rw [h.tel s]; cases (H s).isSome <;> rfl
theorem FwI.step {H : ByteArray → Option Int} {M : List Tri} {tot : Int} {cm i : Nat} (h : FwI H M tot cm i) (hu : uniM M) {s : ByteArray} (hs : s.size ≤ 64) {d : Int} (hd : 1 ≤ d ∧ d ≤ 4096) (hi : i ≤ 150) (hk : (H s).isSome = true ∨ cm < 8) :
    FwI (putH H s ((H s).getD 0 + d)) (offerM 8 M tot s d).1 (offerM 8 M tot s d).2 (if (H s).isSome = true then cm else cm + 1) (i + 1) := by
  have htb := h.tb
  have hn : (tellM M s).2.2 = true ∨ M.length < 8 := by rw [h.tells s, h.len]; exact hk
  have key := fun x => offer_tells (n := 8) (tot := tot) (d := d) hu hs hd.1 (by omega) htb.1 hn x
  have hput : ∀ x, putH H s ((H s).getD 0 + d) x = if x = s then some ((H s).getD 0 + d) else H x := fun x => rfl
  refine ⟨?_, ?_, ?_, fun x => ?_, ?_, fun x => ?_⟩
  · rw [(key s).2.2, h.tells s, h.len]
  · have := h.c8
    rcases hk with hk | hk
    · rw [if_pos hk]; omega
    · split <;> omega
  · have := h.ci; split <;> omega
  · rw [(key x).2.1, hput]
    by_cases e : x = s
    · rw [if_pos e, if_pos e, h.tel s]
      show (_, _, true) = ((some ((H s).getD 0 + d)).getD 0, 0, true)
      cases hh : (H s).isSome with
      | true => simp
      | false =>
        have : H s = none := by cases hx : H s with
          | none => rfl
          | some y => rw [hx] at hh; cases hh
        simp [this]
    · rw [if_neg e, if_neg e]; exact h.tel x
  · rw [(key s).1]; omega
  · rw [hput]
    have hx := h.xb x
    have hs := h.xb s
    by_cases e : x = s
    · rw [if_pos e]; show 0 ≤ (H s).getD 0 + d ∧ (H s).getD 0 + d ≤ _; omega
    · rw [if_neg e]; omega
end Go.Proofs.Ytnpiimaapholiaa
