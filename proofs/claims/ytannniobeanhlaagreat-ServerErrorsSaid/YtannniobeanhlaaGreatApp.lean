import Derived.Test.YtannniobeanhlaaGreatNum
import Derived.Deep.AppendLies
import Derived.Maps.AppendAt
/- append onto a row of bytes of the call's own: a slice of bytes (nil, empty or not), a string. -/
namespace Go.Proofs.YtannniobeanhlaaGreat
set_option linter.unusedSimpArgs false
set_option linter.unusedVariables false
set_option maxRecDepth 100000
open Go Go.RowKit
/-- v is a row of the call's own, of these bytes. -/
def Own (w : World) (base : Nat) (v : Value) (xs : List Int) : Prop := w.ownsRow base 5 1 v xs.length (xs.map (Value.int .u8))
theorem Own.lt {w : World} {base : Nat} {v : Value} {xs : List Int} (h : Own w base v xs) : ∀ g, v.ownBlock = some g → base ≤ g ∧ g < w.heap.size := by
  intro g hg
  rcases h.2 with ⟨rfl, _⟩ | ⟨g', cap, cur, rfl, hb, hh, _⟩
  · cases hg
  · have : g' = g := by simpa [Value.ownBlock] using hg
    subst this
    exact ⟨hb, lt_of_block hh⟩
theorem Own.fr {w w' : World} {F : Nat → Prop} {base : Nat} {v : Value} {xs : List Int} (h : Own w base v xs) (hf : Fr F w w') (hF : ∀ g, v.ownBlock = some g → ¬ F g) : Own w' base v xs := by
  refine ⟨h.1, ?_⟩
  rcases h.2 with h0 | ⟨g, cap, cur, hv, hb, hg, hr⟩
  · exact .inl h0
  · exact .inr ⟨g, cap, cur, hv, hb, (hf.block g (lt_of_block hg) (hF g (by rw [hv]; rfl))).trans hg, hr⟩
theorem Own.below {w w' : World} {base : Nat} {v : Value} {xs : List Int} (h : Own w base v xs) (hb : Below w.heap.size w w') : Own w' base v xs := h.fr (F := fun _ => False) (Fr.of_below hb) (fun _ _ => id)
theorem fr_row {w w' : World} {row : Option Nat} (hg : w.grownBy w' row) : Fr (fun k => row = some k) w w' := ⟨hg.os, hg.tape, hg.output, hg.size, fun k hk hF => hg.block k hk (fun e => hF e.symm)⟩
/-- a slice that the call made, as a row: what it holds. -/
theorem Own.rd {w : World} {base : Nat} {v : Value} {zs : List Int} (h : Own w base v zs) (hb : ∀ z ∈ zs, 0 ≤ z ∧ z ≤ 255) : ∃ A c, v = .slice A zs.length c ∧ RdI w .u8 A zs.length c zs ∧ (0 < zs.length → ∃ g, A = some ⟨g, 0, none⟩ ∧ v.ownBlock = some g) := by
  rcases h.2 with ⟨rfl, h0⟩ | ⟨g, cap, cur, rfl, hbg, hg, hnc, hcm, hcs, htake⟩
  · have hz : zs = [] := by simpa using h0
    subst hz
    exact ⟨none, 0, rfl, ⟨rfl, Nat.le_refl _, by unfold maxLen; simp, fun h => absurd h (by simp), fun z hz => u8_wf (hb z hz)⟩, fun h => absurd h (by simp)⟩
  · refine ⟨_, _, rfl, ⟨rfl, hnc, hcm, fun h0 => ⟨g, 0, rfl, lt_of_block hg, fun i hi => ?_⟩, fun z hz => u8_wf (hb z hz)⟩, fun _ => ⟨g, rfl, rfl⟩⟩
    rw [Nat.zero_add, World.ownsRow.cellAt h i (by simpa using hi)]
    simp [List.getD, hi]
section
variable {w : World} {base : Nat} {v : Value} {xs zs : List Int} {A : Option Addr} {n c : Nat}
end
end Go.Proofs.YtannniobeanhlaaGreat
