import Derived.Test.YtannniobeanhlaaGreatZKyMath
import Derived.Test.YtannniobeanhlaaGreatZFrN
import Derived.Test.YtannniobeanhlaaGreatZGen
import Derived.Deep.CutRange
import Derived.Deep.RegionHeld3
/- The contracts of layer 14 (decode): New, Len, Err, Feed. -/
namespace Go.Proofs.YtannniobeanhlaaGreat
set_option linter.unusedSimpArgs false
set_option linter.unusedVariables false
set_option maxRecDepth 100000
open Go.ChangeShapes Go.WideShapes Go.ChangeAt Go.RowKit
/-- a decoder's cells: what it has of a request, its rules, by what it has erred. -/
def decC (bs : List Int) (n : Nat) (rules err : Int) : Array Value := (bs.map (Value.int .u8) ++ [Value.int .i64 (n : Int), Value.int .i64 rules, Value.int .i64 err]).toArray
structure DecIn (bs z : List Int) (rules : Int) : Prop where
  len : bs.length = 75
  byt : byt bs
  take : bs.take z.length = z
  clean : cleanZ z rules z.length
def DecAt (w : World) (b : Nat) (z : List Int) (rules err : Int) : Prop := ∃ bs, DecIn bs z rules ∧ Blk w b 130 (decC bs z.length rules err)
theorem DecAt.keep {w w' : World} {b : Nat} {z : List Int} {rules err : Int} (h : DecAt w b z rules err) (hb : Below w.heap.size w w') : DecAt w' b z rules err := by
  obtain ⟨bs, h1, h2⟩ := h
  exact ⟨bs, h1, h2.keep hb⟩
theorem DecAt.fr {w w' : World} {F : Nat → Prop} {b : Nat} {z : List Int} {rules err : Int} (h : DecAt w b z rules err) (hf : Fr F w w') (hF : ¬ F b) : DecAt w' b z rules err := by
  obtain ⟨bs, h1, h2⟩ := h
  exact ⟨bs, h1, h2.fr hf hF⟩
end Go.Proofs.YtannniobeanhlaaGreat
