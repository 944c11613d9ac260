/- What the laws of layer 6 (slot) share: the example, light calls, sketches made of draws. -/
import Derived.Test.YthfaeapodfgldaaSlN
import Derived.Test.YthfaeapodfgldaaRdL
import Derived.Test.YthfaeapodfgldaaLiftS
namespace Go.Proofs.Ythfaeapodfgldaa
set_option linter.unusedSimpArgs false
set_option linter.unusedVariables false
open Go.ChangeShapes Go.WideShapes Go.ChangeAt Go.RowKit
open Ar (inR)
theorem rdI_none (w : World) (k : IntKind) : RdI w k none 0 0 [] := ⟨rfl, Nat.le_refl _, Nat.zero_le _, fun h => absurd h (by omega), fun z hz => by simp at hz⟩
theorem rB_lt' (zs : List Int) (i : Nat) : rB zs i < 2305843009213693951 := by unfold rB; exact Nat.mod_lt _ (by omega)
theorem rows_lt (zs : List Int) (k : Nat) : ∀ j, j < k → rX zs j < 2305843009213693951 ∧ rA zs j < 2305843009213693951 ∧ rB zs j < 2305843009213693951 := fun j _ => ⟨rX_lt zs j, rA_lt zs j, rB_lt' zs j⟩
theorem clamp_in {z : Int} (h : 0 ≤ z ∧ z ≤ 9223372036854775807) : clamp z = z := by
  unfold clamp
  split
  · omega
  · split <;> omega
/-- what one key has of an empty sketch. -/
theorem first_at (P : Nat → ByteArray → Nat) {k : Nat} (s : ByteArray) {c : Int} (hc : 1 ≤ c ∧ c ≤ 9223372036854775807) {j : Nat} (hj : j < k) : Sk.add (fun _ _ => 0) P k s c j (P j s) = c := by
  have h0 : Sk.leastR (fun _ _ => 0) P s (k - 1) = 0 := by obtain ⟨_, _, he⟩ := Sk.leastR_is (fun _ _ => (0 : Int)) P s (k - 1); exact he
  unfold Sk.add
  rw [if_neg (by omega), h0, Int.zero_add, clamp_in (by omega)]
  unfold Sk.raise
  rw [if_pos ⟨hj, rfl⟩]
  show max 0 c = c
  omega
theorem first_least (P : Nat → ByteArray → Nat) {k : Nat} (hk : 1 ≤ k) (s : ByteArray) {c : Int} (hc : 1 ≤ c ∧ c ≤ 9223372036854775807) : Sk.leastR (Sk.add (fun _ _ => 0) P k s c) P s (k - 1) = c := by
  obtain ⟨j, hj, he⟩ := Sk.leastR_is (Sk.add (fun _ _ => 0) P k s c) P s (k - 1)
  rw [he]; exact first_at P s hc (by omega)
/-- a loop's own pair, in a box of its own. -/
theorem box2 (X : World) (t : TypeId) (z0 z1 a b : Value) : ∃ w1 w2, X.alloc (.cells #[z0, z1] t) = w1 ∧
    (∀ j, w1.cell? ⟨X.heap.size, j, none⟩ = (#[z0, z1] : Array Value)[j]?) ∧ (∀ j, w1.frozen? ⟨X.heap.size, j, none⟩ = false) ∧
    (w1.setCell ⟨X.heap.size, 0, none⟩ a).setCell ⟨X.heap.size, 1, none⟩ b = w2 ∧
    Below X.heap.size X w2 ∧ Blk w2 X.heap.size t #[a, b] := by
  obtain ⟨w1, hw1, kc1, l1, s1⟩ := box_new X #[z0, z1] t
  have hl := lt_of_block kc1
  have hset : (w1.setCell ⟨X.heap.size, 0, none⟩ a).setCell ⟨X.heap.size, 1, none⟩ b = setObj w1 X.heap.size (.cells #[a, b] t (0, 0)) := by
    rw [setCell_obj kc1]
    simp only [setCell_in hl, List.setIfInBounds_toArray, List.set_cons_zero, List.set_cons_succ]
  exact ⟨w1, _, hw1, kc1.rd, kc1.wr, hset, l1.trans ((Fr.setObj (F := fun k => k = X.heap.size) (Fr.refl _ _) rfl _).below l1.size (fun k hk => by omega)), setObj_at hl _⟩
/-- are calls light? -/
def lightB (L : List (ByteArray × Int)) : Bool := decide (L.length ≤ 100) && L.all fun a => decide (a.1.size ≤ 100)
theorem lightB_pre {L : List (ByteArray × Int)} (h : ¬ 100 < L.length) : lightB L = L.all fun a => decide (a.1.size ≤ 100) := by
  unfold lightB; rw [decide_eq_true (by omega)]; rfl
theorem allS_up {L : List (ByteArray × Int)} {i : Nat} {a : ByteArray × Int} (h : L[i]? = some a) (hs : a.1.size ≤ 100) (hp : ∀ j b, j < i → L[j]? = some b → b.1.size ≤ 100) : ∀ j b, j < i + 1 → L[j]? = some b → b.1.size ≤ 100 := by
  intro j b hj hb
  by_cases e : j = i
  · subst e; rw [h] at hb; cases hb; exact hs
  · exact hp j b (by omega) hb
end Go.Proofs.Ythfaeapodfgldaa
