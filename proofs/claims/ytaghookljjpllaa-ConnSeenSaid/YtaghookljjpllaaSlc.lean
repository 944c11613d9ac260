/- The middle of a slice of bytes. -/
import Derived.Test.YtaghookljjpllaaLift
import Derived.Laws.Slices
namespace Go.Proofs.Ytaghookljjpllaa
set_option linter.unusedSimpArgs false
set_option linter.unusedVariables false
open Go Go.RowKit
theorem rdI_noneS {w : World} {k : IntKind} {A : Option Addr} {c : Nat} (hc : c ≤ maxLen) : RdI w k A 0 c [] := ⟨rfl, Nat.zero_le _, hc, fun h => absurd h (by omega), (fun z hz => by cases hz)⟩
theorem slice_mid {w : World} {A : Option Addr} {n c : Nat} {q : List Int} (h : RdI w .u8 A n c q) {a b : Nat} (hab : a ≤ b) (hb : b ≤ n) :
    ∃ A', (∀ W, (Instr.slice 27 (.slice A n c) (some (.int .i64 (a : Int))) (some (.int .i64 (b : Int))) none).run Try.prog W = .ok (.slice A' (b - a) (c - a)) W) ∧ RdI w .u8 A' (b - a) (c - a) ((q.drop a).take (b - a)) := by
  have hc := h.cap
  have hm := h.max
  have hl := h.len
  refine ⟨if c = a then A else A.map (·.add (a * 1)), fun W => ?_, ?_⟩
  · rw [run_slice_lh W 27 A n c (by kernel_rfl) .i64 .i64 (a : Int) (b : Int) (by omega) (by omega) (by omega)]
    show (Result.andThen _ _) = _
    rw [show (sizeOf (Try.prog.elem 27)).run Try.prog W = .ok 1 W from by kernel_rfl]
    simp [sliced]
  · by_cases hlt : a < b
    · obtain ⟨d, off, rfl, hd, hcs⟩ := h.at_ (by omega)
      rw [if_neg (by omega)]
      refine ⟨by rw [List.length_take, List.length_drop]; omega, by omega, by omega, fun _ => ⟨d, off + a, ?_, hd, fun i hi => ?_⟩, fun z hz => h.wf z (List.mem_of_mem_drop (List.mem_of_mem_take hz))⟩
      · by_cases h0 : a = 0
        · subst h0; simp [Addr.add]
        · simp [Addr.add, h0]
      · rw [Nat.add_assoc, hcs (a + i) (by omega)]
        simp [List.getD, List.getElem?_take, hi]
    · have e0 : b - a = 0 := by omega
      rw [e0, List.take_zero]
      exact rdI_noneS (by omega)
end Go.Proofs.Ytaghookljjpllaa
