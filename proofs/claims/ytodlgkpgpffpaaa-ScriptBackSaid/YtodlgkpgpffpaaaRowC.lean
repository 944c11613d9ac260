/- Arguments that are slices of structs of bytes and a number, opened. -/
import Derived.Test.YtodlgkpgpffpaaaRowF
namespace Go.Proofs.Ytodlgkpgpffpaaa
open Go.ChangeShapes Go.WideShapes Go.ChangeAt Go.RowKit Go.Deep
section
variable {H : Type} {enc : TypeId × Value → H} {P : Program}
/-- a field that is a slice of numbers. -/
theorem row_rdI {W : World} {base : Nat} {t e : TypeId} {k : IntKind} {v : Value} (ht : P.underlying t = some (.slice e)) (he : P.underlying e = some (.int k)) (hc : P.cellsOf e = 1)
    (h : ∃ N y, DataW.trod enc P W base (fun _ => true) true N t [v] = some y) : ∃ A n c zs, v = .slice A n c ∧ RdI W k A n c zs := by
  obtain ⟨N, y, hf⟩ := h
  rcases open_ints ht he hc hf with ⟨hcs, _⟩ | ⟨a, len', cap', zs, hcs, _, hl, hm, hz, _, hcell, hwz⟩
  · simp only [List.cons.injEq, and_true] at hcs
    subst hcs
    exact ⟨none, 0, 0, [], rfl, rfl, Nat.le_refl _, Nat.zero_le _, fun h => absurd h (by omega), fun z hz => by simp at hz⟩
  · simp only [List.cons.injEq, and_true] at hcs
    subst hcs
    simp only [if_true] at hz
    refine ⟨_, _, _, zs.take len', rfl, by rw [List.length_take]; omega, hl, hm, fun hn => ?_, fun z hz => hwz z (List.mem_of_mem_take hz)⟩
    obtain ⟨b, off, s⟩ := a
    have h0 := hcell 0 (by omega)
    have hs := plain_of_cell h0
    have hlt := lt_of_cell h0
    rw [block_add] at hlt
    have : s = none := by
      unfold Addr.add at hs
      simpa using hs
    subst this
    refine ⟨b, off, rfl, hlt, fun i hi => ?_⟩
    have := hcell i (by omega)
    rw [add_plain] at this
    rw [this]
    simp [List.getD, List.getElem?_take, hi]
/-- A slice of structs of bytes and a number. -/
structure RdD (w : World) (A : Option Addr) (n c : Nat) (D : Nat → Option Addr × Nat × Nat × List Int) (y : Nat → Int) : Prop where
  cap : n ≤ c
  max : c ≤ maxLen
  at_ : 0 < n → ∃ b off, A = some ⟨b, off, none⟩ ∧ b < w.heap.size ∧ ∀ i, i < n → w.cell? ⟨b, off + i * 2, none⟩ = some (.slice (D i).1 (D i).2.1 (D i).2.2.1) ∧ w.cell? ⟨b, off + i * 2 + 1, none⟩ = some (.int .i64 (y i))
  rd : ∀ i, i < n → RdI w .u8 (D i).1 (D i).2.1 (D i).2.2.1 (D i).2.2.2
  by_ : ∀ i, i < n → -9223372036854775808 ≤ y i ∧ y i ≤ 9223372036854775807
theorem open_rdD {W : World} {base : Nat} {r : Reach} {b0 : Nat} {t e eb : TypeId} {f0 f1 : Field} {v : Value} {d : DataW H} {p : List MemPlace} (ht : P.underlying t = some (.slice e)) (he : P.underlying e = some (.struct #[f0, f1]))
    (hone : oneCellFields P #[f0, f1] = true) (hC : P.cellsOf e = 2) (k0 : P.underlying f0.type = some (.slice eb)) (k0b : P.underlying eb = some (.int .u8)) (k0c : P.cellsOf eb = 1) (k1 : P.underlying f1.type = some (.int .i64))
    (hv : Value.okWide P W r b0 t v) (h : DataW.Trod enc P W base (fun _ => true) true t v d p) : ∃ A n c D y, v = .slice A n c ∧ RdD W A n c D y := by
  obtain ⟨A, n, c, V, rfl, R, hV⟩ := open_rdF ht he hone hC (by simp) hv h
  have e0 : ∀ i, ∃ D : Option Addr × Nat × Nat × List Int, i < n → V i 0 = .slice D.1 D.2.1 D.2.2.1 ∧ RdI W .u8 D.1 D.2.1 D.2.2.1 D.2.2.2 := by
    intro i
    by_cases hi : i < n
    · obtain ⟨A, n, c, zs, h1, h2⟩ := row_rdI k0 k0b k0c (hV i hi 0 f0 rfl); exact ⟨(A, n, c, zs), fun _ => ⟨h1, h2⟩⟩
    · exact ⟨(none, 0, 0, []), fun h => absurd h hi⟩
  have e1 : ∀ i, ∃ a : Int, i < n → V i 1 = .int .i64 a ∧ (-9223372036854775808 ≤ a ∧ a ≤ 9223372036854775807) := by
    intro i
    by_cases hi : i < n
    · obtain ⟨a, h1, h2⟩ := row_i64 k1 (hV i hi 1 f1 rfl); exact ⟨a, fun _ => ⟨h1, h2⟩⟩
    · exact ⟨0, fun h => absurd h hi⟩
  obtain ⟨D, hD⟩ := Classical.axiomOfChoice e0
  obtain ⟨y, hy⟩ := Classical.axiomOfChoice e1
  refine ⟨A, n, c, D, y, rfl, R.cap, R.max, fun hn => ?_, fun i hi => (hD i hi).2, fun i hi => (hy i hi).2⟩
  obtain ⟨b, off, rfl, hlt, hc⟩ := R.at_ hn
  refine ⟨b, off, rfl, hlt, fun i hi => ⟨?_, ?_⟩⟩
  · rw [← (hD i hi).1]; exact hc i 0 hi (by simp)
  · rw [← (hy i hi).1]; exact hc i 1 hi (by simp)
end
end Go.Proofs.Ytodlgkpgpffpaaa
