/- A block of cells that is known whole, and what a store into it leaves. -/
import Derived.WalkKit
import Derived.OneCell
import Derived.Deep.Draws
namespace Go.Proofs.Ytmdkokehomboaaa
set_option linter.unusedSimpArgs false
set_option linter.unusedVariables false
set_option maxRecDepth 100000
open Go Go.RowKit

/-- The world with another object at a block. -/
def setObj (w : World) (b : Nat) (o : Obj) : World := { w with heap := w.heap.setIfInBounds b o }
theorem setObj_size (w : World) (b : Nat) (o : Obj) : (setObj w b o).heap.size = w.heap.size := by simp [setObj]
theorem setObj_at {w : World} {b : Nat} (h : b < w.heap.size) (o : Obj) : (setObj w b o).heap[b]? = some o := by simp [setObj, h]
theorem setObj_other (w : World) {b k : Nat} (h : k ≠ b) (o : Obj) : (setObj w b o).heap[k]? = w.heap[k]? := by
  simp [setObj, Array.getElem?_setIfInBounds, Ne.symm h]
theorem setObj_setObj (w : World) (b : Nat) (o o' : Obj) : setObj (setObj w b o) b o' = setObj w b o' := by simp [setObj]
theorem setObj_drewN (w : World) (b n : Nat) (o : Obj) : setObj (w.drewN n) b o = (setObj w b o).drewN n := rfl
theorem setObj_drew (w : World) (b : Nat) (o : Obj) : setObj w.drew b o = (setObj w b o).drew := rfl
theorem setObj_same {w : World} {b : Nat} {o : Obj} (h : w.heap[b]? = some o) : setObj w b o = w := by
  unfold setObj
  have : w.heap.setIfInBounds b o = w.heap := by
    apply Array.ext_getElem?
    intro k
    rw [Array.getElem?_setIfInBounds]
    by_cases hk : b = k
    · subst hk; rw [if_pos rfl, h]; have := lt_of_block h; simp [this]
    · rw [if_neg hk]
  rw [this]
theorem setCell_obj {w : World} {b i : Nat} {c : Array Value} {t : TypeId} {f : Nat × Nat} (h : w.heap[b]? = some (.cells c t f)) (v : Value) :
    w.setCell ⟨b, i, none⟩ v = setObj w b (.cells (c.setIfInBounds i v) t f) := by
  unfold World.setCell setObj
  congr 1
  apply Array.ext_getElem?
  intro k
  rw [Array.getElem?_modify, Array.getElem?_setIfInBounds]
  have hlt := lt_of_block h
  by_cases hk : b = k
  · subst hk; rw [if_pos rfl, if_pos rfl, h]; simp [hlt]
  · simp [hk]
theorem setObj_cell {w : World} {b i : Nat} {c : Array Value} {t : TypeId} (h : b < w.heap.size) : (setObj w b (.cells c t (0, 0))).cell? ⟨b, i, none⟩ = c[i]? := by
  simp [World.cell?, setObj_at h]
theorem setObj_free {w : World} {b i : Nat} {c : Array Value} {t : TypeId} (h : b < w.heap.size) : (setObj w b (.cells c t (0, 0))).frozen? ⟨b, i, none⟩ = false := by
  simp [World.frozen?, setObj_at h]
theorem cell_at {w : World} {b i : Nat} {c : Array Value} {t : TypeId} {f : Nat × Nat} (h : w.heap[b]? = some (.cells c t f)) : w.cell? ⟨b, i, none⟩ = c[i]? := by simp [World.cell?, h]
theorem free_at {w : World} {b i : Nat} {c : Array Value} {t : TypeId} (h : w.heap[b]? = some (.cells c t (0, 0))) : w.frozen? ⟨b, i, none⟩ = false := by simp [World.frozen?, h]
theorem alloc_setObj (w : World) (b : Nat) (o o' : Obj) (h : b = w.heap.size) : setObj (w.alloc o) b o' = w.alloc o' := by
  subst h
  unfold setObj World.alloc
  congr 1
  apply Array.ext_getElem?
  intro k
  simp only [Array.getElem?_setIfInBounds, Array.getElem?_push, Array.size_push]
  by_cases hk : w.heap.size = k
  · subst hk; simp
  · rw [if_neg hk, if_neg (Ne.symm hk), if_neg (Ne.symm hk)]
theorem setCell_in {w : World} {b i : Nat} {c : Array Value} {t : TypeId} {f : Nat × Nat} (h : b < w.heap.size) (v : Value) :
    (setObj w b (.cells c t f)).setCell ⟨b, i, none⟩ v = setObj w b (.cells (c.setIfInBounds i v) t f) := by
  rw [setCell_obj (setObj_at h _), setObj_setObj]
/-- All blocks but some are as they were. -/
structure Fr (F : Nat → Prop) (w w' : World) : Prop where
  os : w'.os = w.os
  tape : w'.tape = w.tape
  output : w'.output = w.output
  size : w.heap.size ≤ w'.heap.size
  block : ∀ k, k < w.heap.size → ¬ F k → w'.heap[k]? = w.heap[k]?
theorem Fr.refl (F : Nat → Prop) (w : World) : Fr F w w := ⟨rfl, rfl, rfl, Nat.le_refl _, fun _ _ _ => rfl⟩
theorem Fr.trans {F : Nat → Prop} {a b c : World} (h : Fr F a b) (g : Fr F b c) : Fr F a c :=
  ⟨g.os.trans h.os, g.tape.trans h.tape, g.output.trans h.output, Nat.le_trans h.size g.size, fun k hk hF => (g.block k (Nat.lt_of_lt_of_le hk h.size) hF).trans (h.block k hk hF)⟩
theorem Fr.drewN {F : Nat → Prop} {a w : World} (h : Fr F a w) (n : Nat) : Fr F a (w.drewN n) := ⟨h.os, h.tape, h.output, h.size, h.block⟩
theorem Fr.drew {F : Nat → Prop} {a w : World} (h : Fr F a w) : Fr F a w.drew := ⟨h.os, h.tape, h.output, h.size, h.block⟩
theorem Fr.alloc {F : Nat → Prop} {a w : World} (h : Fr F a w) (o : Obj) : Fr F a (w.alloc o) :=
  h.trans ⟨rfl, rfl, rfl, by simp, fun k hk _ => Below.heap_alloc w o k hk⟩
theorem Fr.setObj {F : Nat → Prop} {a w : World} (h : Fr F a w) {b : Nat} (hb : F b) (o : Obj) : Fr F a (setObj w b o) :=
  h.trans ⟨rfl, rfl, rfl, by rw [setObj_size]; exact Nat.le_refl _, fun k _ hF => setObj_other w (fun (e : k = b) => hF (by rw [e]; exact hb)) o⟩
theorem Fr.below {F : Nat → Prop} {a w : World} (h : Fr F a w) {B : Nat} (hB : B ≤ a.heap.size) (hF : ∀ k, F k → B ≤ k) : Below B a w :=
  ⟨h.os, h.tape, h.output, h.size, fun k hk => h.block k (by omega) (fun f => by have := hF k f; omega)⟩
theorem Fr.of_below {F : Nat → Prop} {a w : World} (h : Below a.heap.size a w) : Fr F a w := ⟨h.os, h.tape, h.output, h.size, fun k hk _ => h.block k hk⟩
theorem Fr.mono {F G : Nat → Prop} {a w : World} (h : Fr F a w) (hFG : ∀ k, F k → G k) : Fr G a w := ⟨h.os, h.tape, h.output, h.size, fun k hk hG => h.block k hk (fun f => hG (hFG k f))⟩
theorem Fr.cell {F : Nat → Prop} {a w : World} (h : Fr F a w) {b o : Nat} (hb : b < a.heap.size) (hF : ¬ F b) : w.cell? ⟨b, o, none⟩ = a.cell? ⟨b, o, none⟩ := by
  unfold World.cell?; rw [h.block b hb hF]
theorem Fr.frozen {F : Nat → Prop} {a w : World} (h : Fr F a w) {b o : Nat} (hb : b < a.heap.size) (hF : ¬ F b) : w.frozen? ⟨b, o, none⟩ = a.frozen? ⟨b, o, none⟩ := by
  unfold World.frozen?; rw [h.block b hb hF]
theorem Fr.drop_new {F : Nat → Prop} {a w : World} {s : Nat} (h : Fr (fun k => F k ∨ k = s) a w) (hs : a.heap.size ≤ s) : Fr F a w := ⟨h.os, h.tape, h.output, h.size, fun k hk hF => h.block k hk (fun f => by rcases f with f | f; exact hF f; omega)⟩
theorem heap_drewN (w : World) (n : Nat) : (w.drewN n).heap = w.heap := rfl
end Go.Proofs.Ytmdkokehomboaaa
