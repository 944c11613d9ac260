/- What a map of places keeps beside an index. -/
import Derived.Test.YtnpiimaapholiaaIxQ
import Derived.Test.YtnpiimaapholiaaMap
namespace Go.Proofs.Ytnpiimaapholiaa
set_option linter.unusedSimpArgs false
set_option linter.unusedVariables false
open Go.ChangeShapes Go.WideShapes Go.ChangeAt Go.RowKit
/-- where keys are, as a map's elements. -/
def KM (n : Nat) (K : Nat → Option ByteArray) : ByteArray → Option Value := fun s => (posN n K s).map fun i : Nat => .int .i64 (i : Int)
theorem KM_new (n : Nat) : KM n (fun _ => none) = fun _ => none := by
  funext s; unfold KM; rw [posN_no (fun i _ h => by cases h)]; rfl
theorem KM_some {n : Nat} {K : Nat → Option ByteArray} {s : ByteArray} {v : Value} (h : KM n K s = some v) : ∃ i, posN n K s = some i ∧ v = .int .i64 (i : Int) := by
  unfold KM at h
  cases hp : posN n K s with
  | none => rw [hp] at h; cases h
  | some i => rw [hp] at h; exact ⟨i, rfl, (Option.some.inj h).symm⟩
theorem posN_upd {n i : Nat} {K : Nat → Option ByteArray} {s : ByteArray} (hi : i < n) (hk : K i = none) (hs : ∀ j, K j ≠ some s) (x : ByteArray) : posN n (fun j => if j = i then some s else K j) x = if x = s then some i else posN n K x := by
  by_cases e : x = s
  · subst e
    rw [if_pos rfl]
    cases hp : posN n (fun j => if j = i then some x else K j) x with
    | none => exact absurd (by simp) (posN_none hp i hi)
    | some j =>
      have h2 : (if j = i then some x else K j) = some x := (posN_some hp).2
      by_cases hj : j = i
      · rw [hj]
      · rw [if_neg hj] at h2; exact absurd h2 (hs j)
  · rw [if_neg e]
    unfold posN
    congr 1
    funext j
    by_cases hj : j = i
    · subst hj
      simp [hk, Ne.symm e]
    · simp [hj]
theorem posN_cut {n i : Nat} {K : Nat → Option ByteArray} {s : ByteArray} (hk : K i = some s) (hu : ∀ i j s, K i = some s → K j = some s → i = j) (x : ByteArray) : posN n (fun j => if j = i then none else K j) x = if x = s then none else posN n K x := by
  by_cases e : x = s
  · subst e
    rw [if_pos rfl]
    refine posN_no (fun j _ h => ?_)
    have h : (if j = i then none else K j) = some x := h
    by_cases hj : j = i
    · rw [if_pos hj] at h; cases h
    · rw [if_neg hj] at h; exact hj (hu j i x h hk)
  · rw [if_neg e]
    unfold posN
    congr 1
    funext j
    by_cases hj : j = i
    · subst hj
      simp [hk, Ne.symm e]
    · simp [hj]
theorem KM_upd {n i : Nat} {K : Nat → Option ByteArray} {s : ByteArray} (hi : i < n) (hk : K i = none) (hs : ∀ j, K j ≠ some s) : KM n (fun j => if j = i then some s else K j) = fun x => if x = s then some (.int .i64 (i : Int)) else KM n K x := by
  funext x
  unfold KM
  rw [posN_upd hi hk hs]
  split <;> rfl
theorem KM_cut {n i : Nat} {K : Nat → Option ByteArray} {s : ByteArray} (hk : K i = some s) (hu : ∀ i j s, K i = some s → K j = some s → i = j) : KM n (fun j => if j = i then none else K j) = fun x => if x = s then none else KM n K x := by
  funext x
  unfold KM
  rw [posN_cut hk hu]
  split <;> rfl
/-- what a call of Put comes to. -/
theorem KSt.put_cases (n : Nat) (σ : KSt) (s : ByteArray) :
    (∃ i, posN n σ.K s = some i ∧ σ.put n s = (σ, none)) ∨
    (posN n σ.K s = none ∧ (64 < s.size ∨ σ.fl = []) ∧ σ.put n s = (σ, none)) ∨
    (posN n σ.K s = none ∧ s.size ≤ 64 ∧ ∃ fl i, σ.fl = fl ++ [i] ∧ σ.put n s = (⟨fl, fun j => if j = i then some s else σ.K j⟩, some i)) := by
  unfold KSt.put
  cases hp : posN n σ.K s with
  | some i => exact Or.inl ⟨i, rfl, rfl⟩
  | none =>
    by_cases h64 : 64 < s.size
    · exact Or.inr (Or.inl ⟨rfl, Or.inl h64, by simp only [if_pos h64]⟩)
    · cases hl : σ.fl.getLast? with
      | none => exact Or.inr (Or.inl ⟨rfl, Or.inr (List.getLast?_eq_none_iff.1 hl), by simp only [if_neg h64]⟩)
      | some i =>
        obtain ⟨l, hl'⟩ := List.getLast?_eq_some_iff.1 hl
        exact Or.inr (Or.inr ⟨rfl, by omega, l, i, hl', by simp only [if_neg h64]; rw [hl']; simp⟩)
theorem KSt.del_cases (n : Nat) (σ : KSt) (s : ByteArray) :
    (∃ i, posN n σ.K s = some i ∧ σ.del n s = (⟨σ.fl ++ [i], fun j => if j = i then none else σ.K j⟩, some i)) ∨ (posN n σ.K s = none ∧ σ.del n s = (σ, none)) := by
  unfold KSt.del
  cases hp : posN n σ.K s with
  | some i => exact Or.inl ⟨i, rfl, rfl⟩
  | none => exact Or.inr ⟨rfl, rfl⟩
theorem ixfind_fr {N : IxN} {σ : KSt} (s : ByteArray) (hs : s.size ≤ maxLen) (w : World) (h : IdxAt w N σ) :
    Calls Try.prog 40 #[.pointer (some ⟨N.x, 0, none⟩), .string s] w fun e w' => e = .returned (.int .i64 (plZ (posN N.n σ.K s))) ∧ IdxAt w' N σ ∧ Fr N.F w w' :=
  (ixfind_any s hs w h).mono (fun e w' hh => ⟨hh.1, h.keep hh.2, Fr.of_below hh.2⟩)
end Go.Proofs.Ytnpiimaapholiaa
