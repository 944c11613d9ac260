/- The contracts of layer 13 (frame): numbers and texts written. -/
import Derived.Test.YtfpknklnbgmflaaApp
import Derived.Test.YtfpknklnbgmflaaFrM
import Derived.Test.YtfpknklnbgmflaaBits
import Derived.Deep.RegionHeld3
import Derived.StillTailTactics
import Derived.BigQuiet
import Derived.Below
import Derived.Deep.LoopGhost
import Derived.Deep.QuietTactic
import Derived.Outline
import Derived.Deep.Cut
import Derived.Deep.AppendLies
namespace Go.Proofs.Ytfpknklnbgmflaa
set_option linter.unusedSimpArgs false
set_option linter.unusedVariables false
open Go.ChangeShapes Go.WideShapes Go.ChangeAt Go.RowKit
theorem be_cons : ∀ (i : Nat) (x : Int), be (i + 1) x = (x / 256 ^ i % 256) :: be i x
  | 0, x => by simp [be]
  | i + 1, x => by
    rw [be, be_cons i (x / 256), be, List.cons_append, Int.pow_succ, Int.mul_comm, Int.ediv_ediv_of_nonneg (by omega)]
theorem be_drop : ∀ (k n : Nat) (x : Int), (be (n + k) x).drop k = be n x
  | 0, _, _ => rfl
  | k + 1, n, x => by rw [← Nat.add_assoc, be_cons, List.drop_succ_cons, be_drop k n x]
def numAll (x : Int) (i : Nat) : List Int := List.replicate (8 - i) 0 ++ be i x
theorem numAll_length (x : Int) (i : Nat) (h : i ≤ 8) : (numAll x i).length = 8 := by unfold numAll; rw [List.length_append, List.length_replicate, be_length]; omega
theorem numAll_set (x : Int) (i : Nat) (h : i < 8) : (numAll x i).set (7 - i) (x / 256 ^ i % 256) = numAll x (i + 1) := by
  unfold numAll
  rw [be_cons, show 8 - i = (7 - i) + 1 by omega, show 8 - (i + 1) = 7 - i by omega]
  rw [List.set_append_left _ _ (by simp)]
  rw [List.replicate_succ']
  rw [List.set_append_right _ _ (by simp)]
  simp
/-- a slice's end, where its room isn't its beginning's. -/
theorem rdI_end {w : World} {k : IntKind} {d off n c : Nat} {zs : List Int} (h : RdI w k (some ⟨d, off, none⟩) n c zs) {m : Nat} (hm : m ≤ n) : RdI w k (some ⟨d, off + m, none⟩) (n - m) (c - m) (zs.drop m) := by
  have hl := h.len
  have hc := h.cap
  have hx := h.max
  refine ⟨by rw [List.length_drop]; omega, by omega, by omega, fun h0 => ?_, fun z hz => h.wf z (List.mem_of_mem_drop hz)⟩
  obtain ⟨b', off', e, hlt, hcs⟩ := h.at_ (by omega)
  injection e with e; injection e with e1 e2
  subst e1 e2
  exact ⟨d, off + m, rfl, hlt, fun i hi => by rw [Nat.add_assoc, hcs (m + i) (by omega)]; simp [List.getD]⟩
theorem own_blk {w : World} {base g n : Nat} {xs : List Int} (h : Blk w g 5 (byC xs)) (hb : base ≤ g) (hl : xs.length = n) (hm : n ≤ maxLen) : Own w base (.slice (some ⟨g, 0, none⟩) n n) xs := by
  subst hl
  refine ⟨by simp, .inr ⟨g, xs.length, byC xs, rfl, hb, h, Nat.le_refl _, hm, by simp [byC], ?_⟩⟩
  simp only [byC, Nat.mul_one]
  exact List.take_of_length_le (by simp)
end Go.Proofs.Ytfpknklnbgmflaa
