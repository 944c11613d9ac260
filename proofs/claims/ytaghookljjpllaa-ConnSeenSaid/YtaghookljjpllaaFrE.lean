/- The contracts of layer 13 (frame): Encode, and the document's. -/
import Derived.Test.YtaghookljjpllaaFr
namespace Go.Proofs.Ytaghookljjpllaa
set_option linter.unusedSimpArgs false
set_option linter.unusedVariables false
open Go.ChangeShapes Go.WideShapes Go.ChangeAt Go.RowKit
def fillN (n : Nat) (x : Int) (i : Nat) : List Int := List.replicate (n - i) 0 ++ be i x
theorem fillN_length (n : Nat) (x : Int) (i : Nat) (h : i ≤ n) : (fillN n x i).length = n := by unfold fillN; rw [List.length_append, List.length_replicate, be_length]; omega
theorem fillN_set (n : Nat) (x : Int) (i : Nat) (h : i < n) : (fillN n x i).set (n - 1 - i) (x / 256 ^ i % 256) = fillN n x (i + 1) := by
  unfold fillN
  rw [be_cons, show n - i = (n - 1 - i) + 1 by omega, show n - (i + 1) = n - 1 - i by omega]
  rw [List.set_append_left _ _ (by simp)]
  rw [List.replicate_succ']
  rw [List.set_append_right _ _ (by simp)]
  simp
theorem fillN_all (n : Nat) (x : Int) : fillN n x n = be n x := by unfold fillN; simp
theorem be2 (n : Int) (h : 0 ≤ n ∧ n < 256) : be 2 n = [0, n] := by
  simp [be]; omega
theorem two_lit (w : World) (o : Obj) (c : Array Value) (t : TypeId) : Blk ((w.alloc o).alloc (.cells c t)) (w.heap.size + 1) t c := by
  have h := heap_alloc_new (w.alloc o) (.cells c t)
  rw [show (w.alloc o).heap.size = w.heap.size + 1 by simp] at h
  exact h
theorem own_lit (w : World) (base n : Nat) (xs : List Int) (hb : base ≤ w.heap.size) (hl : xs.length = n) (hm : n ≤ maxLen) : Own (w.alloc (.cells (byC xs) 5)) base (.slice (some ⟨w.heap.size, 0, none⟩) n n) xs :=
  own_blk (heap_alloc_new w _) hb hl hm
/-- what Right asks, taken apart. -/
theorem right_op {op rule cost k rules : Int} {s : ByteArray} (h : rightP (mkR op rule cost s k) rules) : (0 ≤ rule ∧ rule < rules ∧ rule ≤ 255) ∧ (((op = 1 ∨ op = 2) ∧ s.size ≤ 64 ∧ k = 0) ∨ (op = 3 ∧ cost = 0 ∧ s = ⟨#[]⟩ ∧ k = 0) ∨ (op = 4 ∧ cost = 0 ∧ s = ⟨#[]⟩ ∧ 0 ≤ k ∧ k ≤ 255)) := by
  unfold rightP mkR at h
  simp only [nums_length, nums_nil] at h
  refine ⟨h.1, ?_⟩
  rcases h.2 with a | ⟨a, b, c, d⟩ | ⟨a, b, c, d⟩
  · exact .inl a
  · exact .inr (.inl ⟨a, b, size0 c, d⟩)
  · exact .inr (.inr ⟨a, b, size0 c, d⟩)
end Go.Proofs.Ytaghookljjpllaa
