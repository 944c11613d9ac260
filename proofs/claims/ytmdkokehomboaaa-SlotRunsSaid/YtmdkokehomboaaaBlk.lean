/- Cells read off a block that is known whole: rules for the walk. -/
import Derived.Test.YtmdkokehomboaaaObj
import Derived.Below
namespace Go.Proofs.Ytmdkokehomboaaa
set_option linter.unusedSimpArgs false
set_option linter.unusedVariables false
set_option maxRecDepth 100000
open Go Go.RowKit
/-- block b is just these cells. -/
abbrev Blk (w : World) (b : Nat) (t : TypeId) (c : Array Value) : Prop := w.heap[b]? = some (.cells c t (0, 0))
theorem blk_cell {w : World} {b i : Nat} {c : Array Value} {t : TypeId} {f : Nat × Nat} (h : w.heap[b]? = some (.cells c t f)) : w.cell? ⟨b, i, none⟩ = c[i]? := by simp [World.cell?, h]
theorem blk_free {w : World} {b i : Nat} {c : Array Value} {t : TypeId} (h : w.heap[b]? = some (.cells c t (0, 0))) : w.frozen? ⟨b, i, none⟩ = false := by simp [World.frozen?, h]
section
variable {w w' : World} {b : Nat} {t : TypeId} {c : Array Value}
theorem Blk.below {B : Nat} (h : Blk w b t c) (hb : Below B w w') (hB : b < B) : Blk w' b t c := (hb.block b hB).trans h
theorem Blk.keep (h : Blk w b t c) (hb : Below w.heap.size w w') : Blk w' b t c := (hb.block b (lt_of_block h)).trans h
theorem Blk.fr {F : Nat → Prop} (h : Blk w b t c) (hf : Fr F w w') (hF : ¬ F b) : Blk w' b t c := (hf.block b (lt_of_block h) hF).trans h
theorem Blk.drew (h : Blk w b t c) : Blk w.drew b t c := h
theorem Blk.alloc (h : Blk w b t c) (o : Obj) : Blk (w.alloc o) b t c := (Below.heap_alloc w o b (lt_of_block h)).trans h
end
theorem keep2 {w w' : World} {b1 b2 : Nat} {t1 t2 : TypeId} {c1 c2 : Array Value} (h : Blk w b1 t1 c1 ∧ Blk w b2 t2 c2) (hb : Below w.heap.size w w') : Blk w' b1 t1 c1 ∧ Blk w' b2 t2 c2 := ⟨h.1.keep hb, h.2.keep hb⟩
theorem keep3 {w w' : World} {b1 b2 b3 : Nat} {t1 t2 t3 : TypeId} {c1 c2 c3 : Array Value} (h : Blk w b1 t1 c1 ∧ Blk w b2 t2 c2 ∧ Blk w b3 t3 c3) (hb : Below w.heap.size w w') : Blk w' b1 t1 c1 ∧ Blk w' b2 t2 c2 ∧ Blk w' b3 t3 c3 := ⟨h.1.keep hb, keep2 h.2 hb⟩
theorem keep4 {w w' : World} {b1 b2 b3 b4 : Nat} {t1 t2 t3 t4 : TypeId} {c1 c2 c3 c4 : Array Value} (h : Blk w b1 t1 c1 ∧ Blk w b2 t2 c2 ∧ Blk w b3 t3 c3 ∧ Blk w b4 t4 c4) (hb : Below w.heap.size w w') : Blk w' b1 t1 c1 ∧ Blk w' b2 t2 c2 ∧ Blk w' b3 t3 c3 ∧ Blk w' b4 t4 c4 := ⟨h.1.keep hb, keep3 h.2 hb⟩
theorem keep5 {w w' : World} {b1 b2 b3 b4 b5 : Nat} {t1 t2 t3 t4 t5 : TypeId} {c1 c2 c3 c4 c5 : Array Value} (h : Blk w b1 t1 c1 ∧ Blk w b2 t2 c2 ∧ Blk w b3 t3 c3 ∧ Blk w b4 t4 c4 ∧ Blk w b5 t5 c5) (hb : Below w.heap.size w w') : Blk w' b1 t1 c1 ∧ Blk w' b2 t2 c2 ∧ Blk w' b3 t3 c3 ∧ Blk w' b4 t4 c4 ∧ Blk w' b5 t5 c5 := ⟨h.1.keep hb, keep4 h.2 hb⟩
/-- the rules for the walk: what the cells of a block read, and that they may be written. -/
theorem Blk.rd {w : World} {b : Nat} {t : TypeId} {c : Array Value} (h : Blk w b t c) : ∀ i, w.cell? ⟨b, i, none⟩ = c[i]? := fun _ => blk_cell h
theorem Blk.wr {w : World} {b : Nat} {t : TypeId} {c : Array Value} (h : Blk w b t c) : ∀ i, w.frozen? ⟨b, i, none⟩ = false := fun _ => blk_free h
/-- a store into another block. -/
theorem set_far (w : World) {b i b' j : Nat} (v : Value) (h : b' ≠ b) : (w.setCell ⟨b, i, none⟩ v).cell? ⟨b', j, none⟩ = w.cell? ⟨b', j, none⟩ :=
  World.cell?_setCell_other w _ _ _ (fun e => h (by injection e with e1; exact e1.symm))
theorem box_new (w : World) (c : Array Value) (t : TypeId) : ∃ w1, w.alloc (.cells c t) = w1 ∧ Blk w1 w.heap.size t c ∧ Below w.heap.size w w1 ∧ w1.heap.size = w.heap.size + 1 :=
  ⟨_, rfl, heap_alloc_new w _, (Below.refl _ _).alloc (Nat.le_refl _) _, by simp⟩
end Go.Proofs.Ytmdkokehomboaaa
