/- The law SlotRuns of layer 6 (slot): the sketch and the reference's, side by side. -/
import Derived.Test.YtmdkokehomboaaaRqD
namespace Go.Proofs.Ytmdkokehomboaaa
set_option linter.unusedSimpArgs false
set_option linter.unusedVariables false
set_option maxRecDepth 100000
open Go.ChangeShapes Go.WideShapes Go.ChangeAt Go.RowKit
open Ar (inR)
structure RS (w wr : World) (N : SlN) (M : RfN) (zs : List Int) (fs fr : Nat → Nat → Int) : Prop where
  s : S1 w wr N fs
  r : Rf wr M w.heap.size zs fr
  lo : w.heap.size ≤ M.nx ∧ w.heap.size ≤ M.fx ∧ w.heap.size ≤ M.wx ∧ w.heap.size ≤ M.g ∧ w.heap.size ≤ M.fg
  n1 : M.g ≠ M.nx ∧ M.g ≠ M.fx ∧ M.g ≠ M.wx ∧ M.g ≠ M.fg
  n2 : N.g ≠ M.nx ∧ N.g ≠ M.fx ∧ N.g ≠ M.wx ∧ N.g ≠ M.fg ∧ N.g ≠ M.g ∧ N.b ≠ M.g
  n3 : M.nx ≠ M.fx ∧ M.nx ≠ M.wx ∧ M.nx ≠ M.fg ∧ M.nx ≠ N.b
section
variable {w wr w' : World} {N : SlN} {M : RfN} {zs : List Int} {fs fr fs' : Nat → Nat → Int}
theorem Rf.fram {base : Nat} {F : Nat → Prop} (h : Rf wr M base zs fr) (hf : Fr F wr w') (h1 : ¬ F M.nx) (h2 : ¬ F M.fx) (h3 : ¬ F M.wx) (h4 : ¬ F M.fg) (h5 : ¬ F M.g) : Rf w' M base zs fr :=
  ⟨h.nb.fr hf h1, h.fb.fr hf h2, h.wb.fr hf h3, h.rw.fr hf (fun g hg => by cases hg; exact h4), h.gb.fr hf h5, h.bd⟩
theorem RS.keep (h : RS w wr N M zs fs fr) (hb : Below wr.heap.size wr w') : RS w w' N M zs fs fr := ⟨h.s.keep hb, h.r.keep hb, h.lo, h.n1, h.n2, h.n3⟩
theorem RS.add (h : RS w wr N M zs fs fr) (h1 : SlAt w' N fs') (hf : Fr (fun k => k = N.g) wr w') : RS w w' N M zs fs' fr :=
  ⟨h.s.op h1 hf, h.r.fram hf (Ne.symm h.n2.1) (Ne.symm h.n2.2.1) (Ne.symm h.n2.2.2.1) (Ne.symm h.n2.2.2.2.1) (Ne.symm h.n2.2.2.2.2.1), h.lo, h.n1, h.n2, h.n3⟩
theorem RS.put (h : RS w wr N M zs fs fr) {i p : Nat} (hi : i < M.k) (hp : p < 8) (z : Int) :
    ∃ w', wr.setCell ⟨M.g, i * 8 + p, none⟩ (.int .i64 z) = w' ∧ RS w w' N M zs fs (fun j q => if j = i ∧ q = p then z else fr j q) ∧ Fr (fun k => k = M.g) wr w' := by
  obtain ⟨w9, e9, k9, f9, s9⟩ := G.box_set h.r.gb (i * 8 + p) (.int .i64 z) (numC .i64 (Sk.tab (fun j q => if j = i ∧ q = p then z else fr j q) M.k 8)) (by rw [numC_set, Sk.tab_set hi hp])
  have hn2 := h.n2
  have hn1 := h.n1
  refine ⟨w9, e9, ⟨⟨h.s.at_.fr f9 hn2.2.2.2.2.2 hn2.2.2.2.2.1, h.s.lo, h.s.bl.trans (f9.below h.s.bl.size (fun k hk => by have := h.lo; omega))⟩, ?_, h.lo, h.n1, h.n2, h.n3⟩, f9⟩
  exact ⟨h.r.nb.fr f9 (Ne.symm hn1.1), h.r.fb.fr f9 (Ne.symm hn1.2.1), h.r.wb.fr f9 (Ne.symm hn1.2.2.1), h.r.rw.fr f9 (fun g hg => by cases hg; exact Ne.symm hn1.2.2.2), k9, h.r.bd⟩
theorem RS.clr (h : RS w wr N M zs fs fr) : ∃ x1 w', wr.alloc (.cells (numC .i64 (Sk.tab (fun _ _ => 0) M.k 8)) 37) = x1 ∧ (∀ j, x1.cell? ⟨M.nx, j, none⟩ = (#[.slice (some ⟨M.g, 0, none⟩) M.k M.k] : Array Value)[j]?) ∧ (∀ j, x1.frozen? ⟨M.nx, j, none⟩ = false) ∧
    x1.setCell ⟨M.nx, 0, none⟩ (.slice (some ⟨wr.heap.size, 0, none⟩) M.k M.k) = w' ∧ RS w w' N { M with g := wr.heap.size } zs fs (fun _ _ => 0) := by
  obtain ⟨x1, e1, k1, b1, s1⟩ := box_new wr (numC .i64 (Sk.tab (fun _ _ => 0) M.k 8)) 37
  have h1 := h.keep b1
  obtain ⟨w9, e9, k9, f9, s9⟩ := G.box_set h1.r.nb 0 (.slice (some ⟨wr.heap.size, 0, none⟩) M.k M.k) #[.slice (some ⟨wr.heap.size, 0, none⟩) M.k M.k] rfl
  have l1 := lt_of_block h.r.nb
  have l2 := lt_of_block h.r.fb
  have l3 := lt_of_block h.r.wb
  have l4 := h.r.rw.lt M.fg rfl
  have l5 := lt_of_block h.s.at_.hg
  obtain ⟨C, c1, c2⟩ := h.s.at_.hb
  have l6 := lt_of_block c1
  have hn2 := h.n2
  have hn3 := h.n3
  have hlo := h.lo
  refine ⟨x1, w9, e1, h1.r.nb.rd, h1.r.nb.wr, e9, ⟨h1.s.at_.fr f9 (Ne.symm hn3.2.2.2) hn2.1, h.s.lo, h1.s.bl.trans (f9.below h1.s.bl.size (fun k hk => by omega))⟩, ?_, ?_, ?_, ?_, ?_⟩
  · exact ⟨k9, h1.r.fb.fr f9 (Ne.symm hn3.1), h1.r.wb.fr f9 (Ne.symm hn3.2.1), h1.r.rw.fr f9 (fun g hg => by cases hg; exact Ne.symm hn3.2.2.1), Blk.fr k1 f9 (show ¬ wr.heap.size = M.nx by omega), h.r.bd⟩
  · exact ⟨hlo.1, hlo.2.1, hlo.2.2.1, h.s.bl.size, hlo.2.2.2.2⟩
  · show wr.heap.size ≠ M.nx ∧ wr.heap.size ≠ M.fx ∧ wr.heap.size ≠ M.wx ∧ wr.heap.size ≠ M.fg
    omega
  · show N.g ≠ M.nx ∧ N.g ≠ M.fx ∧ N.g ≠ M.wx ∧ N.g ≠ M.fg ∧ N.g ≠ wr.heap.size ∧ N.b ≠ wr.heap.size
    exact ⟨hn2.1, hn2.2.1, hn2.2.2.1, hn2.2.2.2.1, by omega, by omega⟩
  · exact hn3
end
theorem two_blkS (w : World) (A B : Array Value) (tA tB : TypeId) : ∃ w2, (w.alloc (.cells A tA)).alloc (.cells B tB) = w2 ∧ Blk w2 w.heap.size tA A ∧ Blk w2 (w.heap.size + 1) tB B ∧ Below w.heap.size w w2 := by
  obtain ⟨w1, e1, k1, b1, s1⟩ := box_new w A tA
  obtain ⟨w2, e2, k2, b2, s2⟩ := box_new w1 B tB
  refine ⟨w2, by rw [e1, e2], k1.keep b2, by rw [← s1]; exact k2, b1.trans (b2.mono (by omega))⟩
/-- what the reference's cell of a key holds. -/
theorem RS.at_ {w wr : World} {N : SlN} {M : RfN} {zs : List Int} {fs fr : Nat → Nat → Int} (h : RS w wr N M zs fs fr) {i p : Nat} (hi : i < M.k) (hp : p < 8) : wr.cell? ⟨M.g, i * 8 + p, none⟩ = some (.int .i64 (fr i p)) := by
  rw [blk_cell h.r.gb, List.getElem?_toArray, List.getElem?_map, Sk.tab_get hi hp]; rfl
end Go.Proofs.Ytmdkokehomboaaa
