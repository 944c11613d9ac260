/- The contracts of layer 4 (keys). -/
import Derived.Test.YtmdkokehomboaaaByt
import Derived.Test.YtmdkokehomboaaaKyMath
import Derived.Deep.RegionHeld3
import Derived.StillTailTactics
import Derived.BigQuiet
import Derived.Below
import Derived.Deep.LoopGhost
import Derived.Deep.QuietTactic
import Derived.Outline
import Derived.Deep.Cut
import Derived.Laws.IdiomCopy
import Derived.Lib.LazyBuf
import Derived.WalkSpells
namespace Go.Proofs.Ytmdkokehomboaaa
set_option linter.unusedSimpArgs false
set_option linter.unusedVariables false
set_option maxRecDepth 100000
open Go.ChangeShapes Go.WideShapes Go.ChangeAt Go.RowKit
abbrev numC (k : IntKind) (l : List Int) : Array Value := (l.map (Value.int k)).toArray
theorem numC_get (k : IntKind) (arr : List Int) (i : Nat) (h : i < arr.length) : (numC k arr)[i]? = some (.int k (arr.getD i 0)) := by
  unfold numC
  rw [List.getElem?_toArray, List.getElem?_map, List.getElem?_eq_getElem h]
  simp [List.getD, h]
theorem numC_set (k : IntKind) (l : List Int) (i : Nat) (v : Int) : (numC k l).setIfInBounds i (.int k v) = numC k (l.set i v) := by
  unfold numC; simp only [List.map_set, List.setIfInBounds_toArray]
theorem setCells_num {w : World} {b : Nat} {t : TypeId} (k : IntKind) : ∀ (vs l : List Int) (o : Nat), w.heap[b]? = some (.cells (numC k l) t (0, 0)) → w.setCells b o (vs.map (Value.int k)) = setObj w b (.cells (numC k (splice l o vs)) t (0, 0)) := by
  intro vs
  induction vs generalizing w with
  | nil => intro l o h; exact (setObj_same h).symm
  | cons v r ih =>
    intro l o h
    have hlt := lt_of_block h
    rw [List.map_cons, World.setCells, setCell_obj h, numC_set]
    rw [ih (l.set o v) (o + 1) (setObj_at hlt _), setObj_setObj]
    rfl
abbrev storeC (gb gs gf n m : Nat) : Array Value := #[.slice (some ⟨gb, 0, none⟩) (64 * n) (64 * n), .slice (some ⟨gs, 0, none⟩) n n, .slice (some ⟨gf, 0, none⟩) m n]
/-- how a place's size is kept. -/
def sizeZ (k : Option ByteArray) : Int := match k with | none => 0 | some s => (s.size : Int) + 1
abbrev kyF (b gb gs gf : Nat) : Nat → Prop := fun k => k = b ∨ k = gb ∨ k = gs ∨ k = gf
/-! #### none -/
section
variable {b gb gs gf n : Nat} {fl : List Nat} {K : Nat → Option ByteArray}
/-- has a place a key? -/
def hasB (K : Nat → Option ByteArray) (n : Nat) (i : Int) : Bool := decide (0 ≤ i) && (decide (i < (n : Int)) && (K i.toNat).isSome)
end
end Go.Proofs.Ytmdkokehomboaaa
