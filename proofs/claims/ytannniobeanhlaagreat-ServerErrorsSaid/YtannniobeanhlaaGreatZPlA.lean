import Derived.Shelf.Abstract
import Derived.Shelf.RegionOpen
import Derived.WalkKit
import Derived.OwnWalkIn
import Derived.TacticsInMore
import Derived.LoopNIn
import Derived.LoopIn
import Derived.Test.YtannniobeanhlaaGreatZIx
import Derived.Test.YtannniobeanhlaaGreatKpB
import Derived.Test.YtannniobeanhlaaGreatZSlN
/- The contracts of layer 10 (pool): All. -/
namespace Go.Proofs.YtannniobeanhlaaGreat
set_option linter.unusedSimpArgs false
set_option linter.unusedVariables false
set_option maxRecDepth 100000
open Go.ChangeShapes Go.WideShapes Go.ChangeAt Go.RowKit Go.Shelf
attribute [local go_sem] Oper.semAt_some
/-- the keys and their cells, by the places below k. -/
def plL (K : Nat → Option ByteArray) (C : List Cel) (k : Nat) : List (ByteArray × Cel) := (List.range k).filterMap fun i => (K i).map fun s => (s, C.getD i (0, 0, 0, 0))
theorem KeepB.pl {W w : World} {Q : PlN} {σ : KSt} {C : List Cel} (hk : KeepB Q.all W w) (h : PlAt W Q σ C) : PlAt w Q σ C :=
  ⟨hk _ _ _ (Or.inr (Or.inr rfl)) h.hp, hk _ _ _ (Or.inl (Or.inr rfl)) h.hc, h.len, hk.idx h.ix (fun k hk => by rcases hk with hk | hk; exact Or.inl (Or.inl hk); exact Or.inr (Or.inl hk)), h.n1, h.ne⟩
end Go.Proofs.YtannniobeanhlaaGreat
/- The contracts of layer 8 (summary): All. -/
namespace Go.Proofs.YtannniobeanhlaaGreat
set_option linter.unusedSimpArgs false
set_option linter.unusedVariables false
set_option maxRecDepth 100000
open Go.ChangeShapes Go.WideShapes Go.ChangeAt Go.RowKit Go.Shelf
attribute [local go_sem] Oper.semAt_some
theorem KeepB.sm {W w : World} {Q : SmN} {L : List Ent} {tot : Int} {σ : KSt} (hk : KeepB Q.all W w) (h : SmAt W Q L tot σ) : SmAt w Q L tot σ := by
  obtain ⟨R, h1, h2⟩ := h.hg
  exact ⟨hk _ _ _ (Or.inl (Or.inr (Or.inl rfl))) h.hs, ⟨R, hk _ _ _ (Or.inl (Or.inr (Or.inr rfl))) h1, h2⟩, hk.idx h.ix (fun k hk => by rcases hk with hk | hk; exact Or.inl (Or.inl hk); exact Or.inr hk), h.n1, h.ne, h.ok⟩
end Go.Proofs.YtannniobeanhlaaGreat
