/- The contracts of layer 5 (index), over what an index has: one for each call, whatever its way. -/
import Derived.Test.YtnpiimaapholiaaIxP
namespace Go.Proofs.Ytnpiimaapholiaa
set_option linter.unusedSimpArgs false
set_option linter.unusedVariables false
open Go.ChangeShapes Go.WideShapes Go.ChangeAt Go.RowKit
/-- where a key is. -/
def posN (n : Nat) (K : Nat → Option ByteArray) (s : ByteArray) : Option Nat := (List.range n).find? (fun i => decide (K i = some s))
theorem posN_some {n : Nat} {K : Nat → Option ByteArray} {s : ByteArray} {i : Nat} (h : posN n K s = some i) : i < n ∧ K i = some s := by
  unfold posN at h
  have h1 := List.find?_some h
  have h2 := List.mem_of_find?_eq_some h
  exact ⟨List.mem_range.1 h2, of_decide_eq_true h1⟩
theorem posN_none {n : Nat} {K : Nat → Option ByteArray} {s : ByteArray} (h : posN n K s = none) (i : Nat) (hi : i < n) : K i ≠ some s := by
  unfold posN at h
  rw [List.find?_eq_none] at h
  exact fun e => h i (List.mem_range.2 hi) (decide_eq_true e)
theorem posN_at {n : Nat} {K : Nat → Option ByteArray} {s : ByteArray} {i : Nat} (hi : i < n) (h : K i = some s) (hu : ∀ i j s, K i = some s → K j = some s → i = j) : posN n K s = some i := by
  cases hp : posN n K s with
  | none => exact absurd h (posN_none hp i hi)
  | some j => rw [hu j i s (posN_some hp).2 h]
theorem posN_no {n : Nat} {K : Nat → Option ByteArray} {s : ByteArray} (h : ∀ i, i < n → K i ≠ some s) : posN n K s = none := by
  cases hp : posN n K s with
  | none => rfl
  | some j => exact absurd (posN_some hp).2 (h j (posN_some hp).1)
/-- an answer: a place, or -1. -/
def plZ : Option Nat → Int
  | some i => (i : Int)
  | none => -1
/-- what a store has: which places are free, in which order, and the keys of the others. -/
structure KSt where
  fl : List Nat
  K : Nat → Option ByteArray
def KSt.put (n : Nat) (σ : KSt) (s : ByteArray) : KSt × Option Nat :=
  match posN n σ.K s with
  | some _ => (σ, none)
  | none => if 64 < s.size then (σ, none) else
    match σ.fl.getLast? with
    | none => (σ, none)
    | some i => (⟨σ.fl.dropLast, fun j => if j = i then some s else σ.K j⟩, some i)
def KSt.del (n : Nat) (σ : KSt) (s : ByteArray) : KSt × Option Nat :=
  match posN n σ.K s with
  | some i => (⟨σ.fl ++ [i], fun j => if j = i then none else σ.K j⟩, some i)
  | none => (σ, none)
def kNew (n : Nat) : KSt := ⟨(List.range n).reverse, fun _ => none⟩
abbrev IdxAt (w : World) (N : IxN) (σ : KSt) : Prop := IdxIn w N σ.fl σ.K
theorem IdxIn.uni {w : World} {N : IxN} {fl : List Nat} {K : Nat → Option ByteArray} (h : IdxIn w N fl K) : (∀ i j s, K i = some s → K j = some s → i = j) ∧ (∀ i s, K i = some s → i < N.n ∧ s.size ≤ 64) ∧ N.n ≤ 65536 ∧ Places N.n fl K := by
  obtain ⟨L, hm, ht⟩ := h
  exact ⟨ht.key, fun i s hi => ⟨ht.lt i s hi, hm.ks.pl.2.2 i s hi⟩, hm.ks.pl.2.1, hm.ks.pl.1⟩
theorem IdxIn.no {w : World} {N : IxN} {fl : List Nat} {K : Nat → Option ByteArray} (h : IdxIn w N fl K) {s : ByteArray} (hp : posN N.n K s = none) (i : Nat) : K i ≠ some s := fun e => posN_none hp i (h.uni.2.1 i s e).1 e
section
variable {N : IxN} {σ : KSt}
theorem ixfind_any (s : ByteArray) (hs : s.size ≤ maxLen) (w : World) (h : IdxAt w N σ) :
    Calls Try.prog 40 #[.pointer (some ⟨N.x, 0, none⟩), .string s] w fun e w' => e = .returned (.int .i64 (plZ (posN N.n σ.K s))) ∧ Below w.heap.size w w' := by
  cases hp : posN N.n σ.K s with
  | some i => exact ixfind_yes i s hs w h (posN_some hp).2
  | none => exact ixfind_no s hs w h (h.no hp)
theorem ixput_any (s : ByteArray) (hs : s.size ≤ maxLen) (w : World) (h : IdxAt w N σ) :
    Calls Try.prog 41 #[.pointer (some ⟨N.x, 0, none⟩), .string s] w fun e w' => e = .returned (.int .i64 (plZ (σ.put N.n s).2)) ∧ IdxAt w' N (σ.put N.n s).1 ∧ Fr N.F w w' := by
  unfold KSt.put
  cases hp : posN N.n σ.K s with
  | some i => exact (ixput_has i s hs w h (posN_some hp).2).mono (fun e w' hh => ⟨hh.1, h.keep hh.2, Fr.of_below hh.2⟩)
  | none =>
    by_cases h64 : 64 < s.size
    · simp only [if_pos h64]
      exact (ixput_full s hs w h (h.no hp) (Or.inl h64)).mono (fun e w' hh => ⟨hh.1, h.keep hh.2, Fr.of_below hh.2⟩)
    · simp only [if_neg h64]
      cases hl : σ.fl.getLast? with
      | none => exact (ixput_full s hs w h (h.no hp) (Or.inr (List.getLast?_eq_none_iff.1 hl))).mono (fun e w' hh => ⟨hh.1, h.keep hh.2, Fr.of_below hh.2⟩)
      | some i =>
        have hfl : σ.fl = σ.fl.dropLast ++ [i] := by
          obtain ⟨l, hl'⟩ := List.getLast?_eq_some_iff.1 hl
          rw [hl']; simp
        have h' : IdxIn w N (σ.fl.dropLast ++ [i]) σ.K := by rw [← hfl]; exact h
        exact ixput_yes i s w h' (h.no hp) (by omega)
theorem ixremove_any (s : ByteArray) (hs : s.size ≤ maxLen) (w : World) (h : IdxAt w N σ) :
    Calls Try.prog 44 #[.pointer (some ⟨N.x, 0, none⟩), .string s] w fun e w' => e = .returned (.int .i64 (plZ (σ.del N.n s).2)) ∧ IdxAt w' N (σ.del N.n s).1 ∧ Fr N.F w w' := by
  unfold KSt.del
  cases hp : posN N.n σ.K s with
  | some i => exact ixremove_yes i s hs w h (posN_some hp).2
  | none => exact (ixremove_no s hs w h (h.no hp)).mono (fun e w' hh => ⟨hh.1, h.keep hh.2, Fr.of_below hh.2⟩)
theorem KSt.put_lt (w : World) (h : IdxAt w N σ) (s : ByteArray) {i : Nat} (hi : (σ.put N.n s).2 = some i) : i < N.n := by
  unfold KSt.put at hi
  have hu := h.uni.2.2.2
  split at hi
  · cases hi
  · split at hi
    · cases hi
    · split at hi
      · cases hi
      · rename_i j hj
        have hij : j = i := Option.some.inj hi
        obtain ⟨l, hl⟩ := List.getLast?_eq_some_iff.1 hj
        exact (hu.free (i := i) (by rw [hl]; simp [hij])).1
theorem KSt.del_lt (n : Nat) (s : ByteArray) {i : Nat} (hi : (σ.del n s).2 = some i) : i < n := by
  unfold KSt.del at hi
  split at hi
  · rename_i j hj
    have hij : j = i := Option.some.inj hi
    rw [← hij]; exact (posN_some hj).1
  · cases hi
/-- a new index of a new store. -/
theorem ixnew_st (X A B : Nat) (hX : X < 2305843009213693951) (hA : A < 2305843009213693951) (hB : B < 2305843009213693951) (b gb gs gf n : Nat) (w : World) (h : KeysIn w b gb gs gf n (kNew n).fl (fun _ => none)) :
    Calls Try.prog 26 #[.pointer (some ⟨b, 0, none⟩), .agg #[.int .u64 X, .int .u64 A, .int .u64 B]] w fun e w' => ∃ x g, e = .returned (.pointer (some ⟨x, 0, none⟩)) ∧ IdxAt w' ⟨x, b, X, A, B, g, gb, gs, gf, n⟩ (kNew n) ∧ Below w.heap.size w w' ∧ w.heap.size ≤ x ∧ w.heap.size ≤ g :=
  ixnew_any X A B hX hA hB b gb gs gf n _ w h
end
end Go.Proofs.Ytnpiimaapholiaa
