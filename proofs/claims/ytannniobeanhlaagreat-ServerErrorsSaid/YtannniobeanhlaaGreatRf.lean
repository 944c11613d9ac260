import Derived.RangeFuncNested
import Derived.RangeFuncBound
import Derived.RangeFuncCalls
import Derived.RangeFuncLeaves
import Derived.Deep.RegionHeld
import Derived.OrdersIn
import Derived.TacticsIn
import Derived.Test.YtannniobeanhlaaGreatZGen
/- A range over a function that is a method bound to its receiver: what an iterator owes, what the loop owes; regions that draw their order, within a round. -/
namespace Go.Proofs.YtannniobeanhlaaGreat
set_option linter.unusedSimpArgs false
set_option linter.unusedVariables false
set_option maxRecDepth 100000
open Go Go.RowKit
/-- what the book-keeping of a loop does to a world: new blocks; a block that is no cells, from B on, is turned. -/
structure Turn (B : Nat) (W W' : World) : Prop where
  os : W'.os = W.os
  tape : W'.tape = W.tape
  output : W'.output = W.output
  size : W.heap.size ≤ W'.heap.size
  block : ∀ k o, W.heap[k]? = some o → (k < B ∨ o.isCells = true) → W'.heap[k]? = some o
theorem Turn.refl (B : Nat) (W : World) : Turn B W W := ⟨rfl, rfl, rfl, Nat.le_refl _, fun _ _ h _ => h⟩
theorem Turn.trans {B : Nat} {X Y Z : World} (h : Turn B X Y) (k : Turn B Y Z) : Turn B X Z := ⟨k.os.trans h.os, k.tape.trans h.tape, k.output.trans h.output, Nat.le_trans h.size k.size, fun i o hi ho => k.block i o (h.block i o hi ho) ho⟩
theorem Turn.grown {B : Nat} {W W' : World} {row : Option Nat} (hg : W.grownBy W' row) (hr : ∀ r, row = some r → B ≤ r ∧ ∃ o : Obj, W.heap[r]? = some o ∧ o.isCells = false) : Turn B W W' :=
  ⟨hg.os, hg.tape, hg.output, hg.size, fun k o hk ho => (hg.block k (Array.getElem?_eq_some_iff.1 hk).1 (fun e => by
    obtain ⟨h1, o', h2, h3⟩ := hr k e.symm
    rw [hk] at h2
    cases h2
    rcases ho with ho | ho
    · omega
    · rw [h3] at ho; cases ho)).trans hk⟩
theorem Turn.alloc (B : Nat) (W : World) (o : Obj) : Turn B W (W.alloc o) := Turn.grown (World.grownBy_alloc W o none) (fun r e => by cases e)
theorem Turn.of_below {B : Nat} {W W' : World} (h : Below W.heap.size W W') : Turn B W W' :=
  ⟨h.os, h.tape, h.output, h.size, fun k o hk _ => (h.block k (Array.getElem?_eq_some_iff.1 hk).1).trans hk⟩
theorem Turn.below {B : Nat} {w W W' : World} (ht : Turn B W W') (h : Below w.heap.size w W) (hB : w.heap.size ≤ B) : Below w.heap.size w W' :=
  ⟨ht.os.trans h.os, ht.tape.trans h.tape, ht.output.trans h.output, Nat.le_trans h.size ht.size, fun k hk => by
    have h1 := h.block k hk
    obtain ⟨o, ho⟩ : ∃ o, w.heap[k]? = some o := ⟨_, Array.getElem?_eq_getElem hk⟩
    rw [ho] at h1 ⊢
    exact ht.block k o h1 (.inl (by omega))⟩
/-- what some blocks hold is as it was. -/
def KeepB (F : Nat → Prop) (W W' : World) : Prop := ∀ b t C, F b → Blk W b t C → Blk W' b t C
theorem KeepB.refl (F : Nat → Prop) (W : World) : KeepB F W W := fun _ _ _ _ h => h
theorem KeepB.trans {F : Nat → Prop} {X Y Z : World} (h : KeepB F X Y) (k : KeepB F Y Z) : KeepB F X Z := fun b t C hb hB => k b t C hb (h b t C hb hB)
theorem KeepB.below {F : Nat → Prop} {W W' : World} (h : Below W.heap.size W W') : KeepB F W W' := fun _ _ _ _ hb => hb.keep h
theorem KeepB.fr {F G : Nat → Prop} {W W' : World} (h : Fr G W W') (hF : ∀ k, F k → ¬ G k) : KeepB F W W' := fun _ _ _ hf hb => hb.fr h (hF _ hf)
section
variable {P : Program} {α : Type}
/-! ### regions that draw their order, within a round -/
variable {ops : Array Oper} {Q : Exit → Act → World → Prop} {l : Nat}
/-! ### at a function's end -/
/-! ### results that lie in boxes of one cell -/
end
end Go.Proofs.YtannniobeanhlaaGreat
