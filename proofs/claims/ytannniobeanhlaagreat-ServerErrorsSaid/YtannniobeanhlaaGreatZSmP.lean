import Derived.Test.YtannniobeanhlaaGreatZPlA
import Derived.Test.YtannniobeanhlaaGreatZLiftS
import Derived.Test.YtannniobeanhlaaGreatZObj
import Derived.Laws.StructEq
/- The contracts of layer 8 (summary): Top. -/
namespace Go.Proofs.YtannniobeanhlaaGreat
set_option linter.unusedSimpArgs false
set_option linter.unusedVariables false
set_option maxRecDepth 100000
open Go.ChangeShapes Go.WideShapes Go.ChangeAt Go.RowKit Go.Shelf
attribute [local go_sem] Oper.semAt_some
def triV (a : Tri) : List Value := [.string a.1, .int .i64 a.2.1, .int .i64 a.2.2]
/-- the state between two rounds. -/
structure TopS (w wx : World) (Q : SmN) (L : List Ent) (tot : Int) (σ : KSt) (kb lb N : Nat) (pre : List Tri) : Prop where
  at_ : SmAt wx Q L tot σ
  kb : Blk wx kb 3 #[.int .i64 (N : Int)]
  lb : ∃ v, Blk wx lb 88 #[v] ∧ wx.ownsRow (lb + 1) 183 3 v pre.length (pre.flatMap triV)
  bl : Below w.heap.size w wx
theorem TopS.keep {w X Y : World} {Q : SmN} {L : List Ent} {tot : Int} {σ : KSt} {kb lb N : Nat} {pre : List Tri} (h : TopS w X Q L tot σ kb lb N pre) (hb : Below X.heap.size X Y) : TopS w Y Q L tot σ kb lb N pre := by
  obtain ⟨v, h1, h2⟩ := h.lb
  exact ⟨h.at_.keep hb, h.kb.keep hb, ⟨v, h1.keep hb, G.own_below h2 hb⟩, below_in h.bl hb⟩
end Go.Proofs.YtannniobeanhlaaGreat
/- The laws of layer 8 (summary): what Top tells, as a list; counts held against each other. -/
namespace Go.Proofs.YtannniobeanhlaaGreat
set_option linter.unusedSimpArgs false
set_option linter.unusedVariables false
set_option maxRecDepth 100000
open Go.ChangeShapes Go.WideShapes Go.ChangeAt Go.RowKit
/-- a slice of counts, in a block from B on. -/
structure RdT (B : Nat) (w : World) (A : Option Addr) (n c : Nat) (L : List Tri) : Prop where
  len : L.length = n
  cap : n ≤ c
  max : c ≤ maxLen
  at_ : 0 < n → ∃ g C, A = some ⟨g, 0, none⟩ ∧ B ≤ g ∧ Blk w g 183 C ∧ ∀ (i : Nat) (a : Tri), L[i]? = some a → C[i * 3]? = some (.string a.1) ∧ C[i * 3 + 1]? = some (.int .i64 a.2.1) ∧ C[i * 3 + 2]? = some (.int .i64 a.2.2)
section
variable {B : Nat} {w w' : World} {A : Option Addr} {n c : Nat} {L : List Tri}
theorem RdT.keep (h : RdT B w A n c L) (hb : Below w.heap.size w w') : RdT B w' A n c L :=
  ⟨h.len, h.cap, h.max, fun hn => by obtain ⟨g, C, h1, h2, h3, h4⟩ := h.at_ hn; exact ⟨g, C, h1, h2, h3.keep hb, h4⟩⟩
theorem RdT.fr {F : Nat → Prop} (h : RdT B w A n c L) (hf : Fr F w w') (hF : ∀ k, B ≤ k → k < w.heap.size → ¬ F k) : RdT B w' A n c L :=
  ⟨h.len, h.cap, h.max, fun hn => by obtain ⟨g, C, h1, h2, h3, h4⟩ := h.at_ hn; exact ⟨g, C, h1, h2, h3.fr hf (hF g h2 (lt_of_block h3)), h4⟩⟩
theorem RdT.cell (h : RdT B w A n c L) {i : Nat} {a : Tri} (hi : L[i]? = some a) : ∃ g, A = some ⟨g, 0, none⟩ ∧ w.cell? ⟨g, i * 3, none⟩ = some (.string a.1) ∧ w.cell? ⟨g, i * 3 + 1, none⟩ = some (.int .i64 a.2.1) ∧ w.cell? ⟨g, i * 3 + 2, none⟩ = some (.int .i64 a.2.2) := by
  have := (List.getElem?_eq_some_iff.1 hi).1
  have hl := h.len
  obtain ⟨g, C, h1, h2, h3, h4⟩ := h.at_ (by omega)
  obtain ⟨c0, c1, c2⟩ := h4 i a hi
  exact ⟨g, h1, by rw [h3.rd]; exact c0, by rw [h3.rd]; exact c1, by rw [h3.rd]; exact c2⟩
end
end Go.Proofs.YtannniobeanhlaaGreat
