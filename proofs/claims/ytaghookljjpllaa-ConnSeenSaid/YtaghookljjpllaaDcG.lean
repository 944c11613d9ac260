/- The laws of layer 14 (decode), walked: cuts. -/
import Derived.Test.YtaghookljjpllaaDcE
import Derived.BigQuiet
namespace Go.Proofs.Ytaghookljjpllaa
set_option linter.unusedSimpArgs false
set_option linter.unusedVariables false
open Go.ChangeShapes Go.WideShapes Go.ChangeAt Go.RowKit
/-- what a beginning tells of the whole. -/
theorem all_cut {rules : Int} {b : List Int} : ∀ (a z : List Int), ((allZ rules z a).2.2 ≠ 0 ∧ allZ rules z (a ++ b) = allZ rules z a) ∨
    ((allZ rules z a).2.2 = 0 ∧ (allZ rules z a).2.1 = a.length ∧ ∃ z', allZ rules z (a ++ b) = ((allZ rules z a).1 ++ (allZ rules z' b).1, (allZ rules z' b).2.1 + a.length, (allZ rules z' b).2.2))
  | [], z => Or.inr ⟨rfl, rfl, z, by simp [allZ]⟩
  | c :: r, z => by
    by_cases he : (parseZ (z ++ [c]) rules).2.2 = 0
    · rw [List.cons_append, all_next he, all_next he]
      rcases all_cut r (nextZ rules z c) with ⟨h1, h2⟩ | ⟨h1, h2, z', h3⟩
      · exact Or.inl ⟨h1, by rw [h2]⟩
      · refine Or.inr ⟨h1, by simp [h2], z', ?_⟩
        rw [h3]
        simp only [List.append_assoc, List.length_cons, Nat.add_assoc]
    · rw [List.cons_append, all_fault he, all_fault he]
      exact Or.inl ⟨he, rfl⟩
/-- a slice of requests as a list. -/
structure RdQ (w : World) (A : Option Addr) (n c : Nat) (l : List Req) : Prop where
  len : l.length = n
  cap : n ≤ c
  max : c ≤ maxLen
  at_ : 0 < n → ∃ b off, A = some ⟨b, off, none⟩ ∧ b < w.heap.size ∧ ∀ i (h : i < l.length), w.cell? ⟨b, off + i * 5, none⟩ = some (.int .i64 l[i].op) ∧ w.cell? ⟨b, off + i * 5 + 1, none⟩ = some (.int .i64 l[i].rule) ∧ w.cell? ⟨b, off + i * 5 + 2, none⟩ = some (.int .u32 l[i].cost) ∧ w.cell? ⟨b, off + i * 5 + 3, none⟩ = some (.string (strOfNums l[i].key)) ∧ w.cell? ⟨b, off + i * 5 + 4, none⟩ = some (.int .i64 l[i].k)
theorem RdQ.below {w w' : World} {A : Option Addr} {n c : Nat} {l : List Req} (h : RdQ w A n c l) (hb : Below w.heap.size w w') : RdQ w' A n c l :=
  ⟨h.len, h.cap, h.max, fun hn => by
    obtain ⟨b, off, e, hlt, hc⟩ := h.at_ hn
    exact ⟨b, off, e, Nat.lt_of_lt_of_le hlt hb.size, fun i hi => by rw [hb.cell (p := ⟨b, off + i * 5, none⟩) hlt, hb.cell (p := ⟨b, off + i * 5 + 1, none⟩) hlt, hb.cell (p := ⟨b, off + i * 5 + 2, none⟩) hlt, hb.cell (p := ⟨b, off + i * 5 + 3, none⟩) hlt, hb.cell (p := ⟨b, off + i * 5 + 4, none⟩) hlt]; exact hc i hi⟩⟩
theorem rdQ_own {w : World} {base n : Nat} {v : Value} {l : List Req} (h : w.ownsRow base 41 5 v n (rqs l)) (hl : l.length = n) : ∃ A c, v = .slice A n c ∧ RdQ w A n c l := by
  obtain ⟨A, c, rfl, h1, h2, h3⟩ := G.own_at h
  refine ⟨A, c, rfl, hl, h1, h2, fun hn => ?_⟩
  obtain ⟨g, rfl, _, _, hlt, hc, _⟩ := h3 hn
  refine ⟨g, 0, rfl, hlt, fun i hi => ?_⟩
  have key : ∀ t, t < 5 → w.cell? ⟨g, 0 + i * 5 + t, none⟩ = (rqC l[i])[t]? := fun t ht => by
    rw [Nat.zero_add, hc (i * 5 + t) (by omega), rqs_at l i hi t ht]
  exact ⟨key 0 (by omega), key 1 (by omega), key 2 (by omega), key 3 (by omega), key 4 (by omega)⟩
theorem rdI_pre {w : World} {k : IntKind} {A : Option Addr} {n c m : Nat} {zs : List Int} (h : RdI w k A n c zs) (hm : m ≤ n) : RdI w k A m c (zs.take m) := by
  have hl := h.len
  have hc := h.cap
  refine ⟨by rw [List.length_take]; omega, by omega, h.max, fun h0 => ?_, fun z hz => h.wf z (List.mem_of_mem_take hz)⟩
  obtain ⟨b, off, e, hlt, hcs⟩ := h.at_ (by omega)
  refine ⟨b, off, e, hlt, fun i hi => ?_⟩
  rw [hcs i (by omega)]
  simp [List.getD, List.getElem?_take, hi]
theorem all_some (rules : Int) : ∀ (a z : List Int), (allZ rules z a).1.length ≤ a.length
  | [], z => by simp [allZ]
  | c :: r, z => by
    by_cases he : (parseZ (z ++ [c]) rules).2.2 = 0
    · rw [all_next he]
      have := all_some rules r (nextZ rules z c)
      simp only [List.length_append, List.length_cons]
      split
      · simp; omega
      · simp; omega
    · rw [all_fault he]; simp
end Go.Proofs.Ytaghookljjpllaa
