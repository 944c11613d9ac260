/- The contracts of layer 13 (frame): what a whole request says. -/
import Derived.Test.YtghhoofdbmgacaaDoorFrC
namespace Go.Proofs.YtghhoofdbmgacaaDoor
set_option linter.unusedSimpArgs false
set_option linter.unusedVariables false
open Go.ChangeShapes Go.WideShapes Go.ChangeAt Go.RowKit
def reqOf (q : Req) : Value := reqV q.op q.rule q.cost (strOfNums q.key) q.k
theorem pre1 (q : List Int) : preZ q 1 = q.getD 0 0 := by simp [preZ]
theorem reader_any (A : Option Addr) (n c d : Nat) (q : List Int) (w : World) (hr : RdI w .u8 A n c q) (hd : 0 < n → ∃ off, A = some ⟨d, off, none⟩) (hdw : d < w.heap.size) (s : Nat) (hs : w.heap.size = s) :
    Calls Tryd.prog 24 #[.slice A n c] w fun e w' => e = .returned (.func (.func 27) #[] #[.pointer (some ⟨s, 0, none⟩)]) ∧ SrcAt w' s d q ∧ Below w.heap.size w w' := by
  subst hs
  have HR := Lib.hid hr
  have HD := Lib.hid hd
  clear hr hd
  go_enter Tryd.func24, Tryd.ntmps24
  go_wp2
  go_ret
  refine ⟨rfl, ⟨A, n, c, heap_alloc_new w _, HR.out.below ((Below.refl _ _).alloc (Nat.le_refl _) _), HD.out⟩, (Below.refl _ _).alloc (Nat.le_refl _) _⟩
theorem five_set {w : World} {b : Nat} {t : TypeId} {a1 a2 a3 a4 a5 v1 v2 v3 v4 v5 : Value} (h : Blk w b t #[a1, a2, a3, a4, a5]) :
    (((((w.setCell ⟨b, 0, none⟩ v1).setCell ⟨b, 1, none⟩ v2).setCell ⟨b, 2, none⟩ v3).setCell ⟨b, 3, none⟩ v4).setCell ⟨b, 4, none⟩ v5) = setObj w b (.cells #[v1, v2, v3, v4, v5] t (0, 0)) := by
  have hl := lt_of_block h
  rw [setCell_obj h, setCell_in hl, setCell_in hl, setCell_in hl, setCell_in hl]
  rfl
theorem blk_set {w : World} {b b' i : Nat} {t t' : TypeId} {c c' : Array Value} {v : Value} (h : Blk w b t c) (h' : Blk w b' t' c') (hne : b ≠ b') : Blk (w.setCell ⟨b', i, none⟩ v) b t c := by
  rw [setCell_obj h']
  exact (setObj_other w hne _).trans h
theorem fr_set {w : World} {b i : Nat} {t : TypeId} {c : Array Value} {v : Value} (h : Blk w b t c) : Fr (fun k => k = b) w (w.setCell ⟨b, i, none⟩ v) := by
  rw [setCell_obj h]
  exact Fr.setObj (F := fun k => k = b) (Fr.refl _ _) rfl _
theorem reqZ3 {z : List Int} (h : z.getD 3 0 = 2) : reqZ z = ⟨z.getD 4 0, z.getD 5 0, 0, [], 0⟩ := by unfold reqZ; simp only [h]; rfl
theorem reqZ4 {z : List Int} (h : z.getD 3 0 = 3) : reqZ z = ⟨z.getD 4 0, z.getD 5 0, 0, [], z.getD 6 0⟩ := by unfold reqZ; simp only [h]; rfl
theorem reqZ7 {z : List Int} (h : 7 ≤ z.getD 3 0) : reqZ z = ⟨z.getD 4 0, z.getD 5 0, preZ (z.drop 6) 4, (z.take (4 + (z.getD 3 0).toNat)).drop 11, 0⟩ := by unfold reqZ; simp only; rw [if_pos h]
end Go.Proofs.YtghhoofdbmgacaaDoor
