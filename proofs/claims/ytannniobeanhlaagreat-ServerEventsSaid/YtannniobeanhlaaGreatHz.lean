import Derived.Below
namespace Go.Proofs.YtannniobeanhlaaGreat
open Go.RowKit
theorem zhz {p : Prop} (h : p) : Hid p := h
theorem zeq {α : Sort _} (x : α) : ∃ z, z = x := ⟨x, rfl⟩
theorem zs1 {α : Type _} (l : List α) (i : Nat) (a : α) : l.toArray.setIfInBounds i a = (l.set i a).toArray := List.setIfInBounds_toArray l i a
theorem zs2 {α : Type _} {a b : α} {l : List α} : (a :: l).set 0 b = b :: l := rfl
theorem zs3 {α : Type _} {a b : α} {l : List α} {n : Nat} : (a :: l).set (n + 1) b = a :: l.set n b := rfl
theorem zdn {p : Prop} {i : Decidable p} : (@decide p i = false) ↔ ¬p := decide_eq_false_iff_not
theorem zge {α : Type _} {l : List α} {i : Nat} (h : i < l.length) : l[i]? = some l[i] := List.getElem?_eq_getElem h
theorem zgs {α : Type _} {l : List α} {i : Nat} {a : α} : l[i]? = some a ↔ ∃ h : i < l.length, l[i] = a := List.getElem?_eq_some_iff
end Go.Proofs.YtannniobeanhlaaGreat
