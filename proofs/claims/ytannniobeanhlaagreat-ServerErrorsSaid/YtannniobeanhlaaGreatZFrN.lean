import Derived.Test.YtannniobeanhlaaGreatApp
import Derived.Test.YtannniobeanhlaaGreatZKyMath
import Derived.Test.YtannniobeanhlaaGreatBits
import Derived.Deep.RegionHeld3
import Derived.StillTailTactics
import Derived.BigQuiet
import Derived.Below
import Derived.Deep.LoopGhost
import Derived.Deep.QuietTactic
import Derived.Outline
import Derived.Deep.Cut
import Derived.Deep.AppendLies
/- The contracts of layer 13 (frame): numbers and texts written. -/
namespace Go.Proofs.YtannniobeanhlaaGreat
set_option linter.unusedSimpArgs false
set_option linter.unusedVariables false
set_option maxRecDepth 100000
open Go.ChangeShapes Go.WideShapes Go.ChangeAt Go.RowKit
end Go.Proofs.YtannniobeanhlaaGreat
/- The contracts of layer 13 (frame): what may be a request. -/
namespace Go.Proofs.YtannniobeanhlaaGreat
set_option linter.unusedSimpArgs false
set_option linter.unusedVariables false
set_option maxRecDepth 100000
open Go.ChangeShapes Go.WideShapes Go.ChangeAt Go.RowKit
end Go.Proofs.YtannniobeanhlaaGreat
/- The contracts of layer 13 (frame): what reads numbers, one behind the other. -/
namespace Go.Proofs.YtannniobeanhlaaGreat
set_option linter.unusedSimpArgs false
set_option linter.unusedVariables false
set_option maxRecDepth 100000
open Go.ChangeShapes Go.WideShapes Go.ChangeAt Go.RowKit
/-- the bytes that a reader at block b has left, in block d. -/
def SrcAt (w : World) (b d : Nat) (q : List Int) : Prop := ∃ A n c, Blk w b 40 #[.slice A n c] ∧ RdI w .u8 A n c q ∧ (0 < n → ∃ off, A = some ⟨d, off, none⟩)
theorem SrcAt.keep {W w : World} {b d : Nat} {q : List Int} (h : SrcAt W b d q) (hb : Below W.heap.size W w) : SrcAt w b d q := by
  obtain ⟨A, n, c, h1, h2, h3⟩ := h
  exact ⟨A, n, c, h1.keep hb, h2.below hb, h3⟩
theorem rdI_fr {W w : World} {F : Nat → Prop} {k : IntKind} {A : Option Addr} {n c d : Nat} {q : List Int} (h : RdI W k A n c q) (hA : 0 < n → ∃ off, A = some ⟨d, off, none⟩) (hf : Fr F W w) (hd : ¬ F d) : RdI w k A n c q :=
  ⟨h.len, h.cap, h.max, fun hn => by
    obtain ⟨b, off, e, hlt, hc⟩ := h.at_ hn
    obtain ⟨off', e'⟩ := hA hn
    have hbd : b = d := by rw [e] at e'; injection e' with e'; injection e'
    exact ⟨b, off, e, Nat.lt_of_lt_of_le hlt hf.size, fun i hi => by rw [hf.cell hlt (by rw [hbd]; exact hd)]; exact hc i hi⟩, h.wf⟩
theorem SrcAt.fr {W w : World} {F : Nat → Prop} {b d : Nat} {q : List Int} (h : SrcAt W b d q) (hf : Fr F W w) (hb : ¬ F b) (hd : ¬ F d) : SrcAt w b d q := by
  obtain ⟨A, n, c, h1, h2, h3⟩ := h
  exact ⟨A, n, c, h1.fr hf hb, rdI_fr h2 h3 hf hd, h3⟩
theorem SrcAt.byt {w : World} {b d : Nat} {q : List Int} (h : SrcAt w b d q) : byt q := by
  obtain ⟨A, n, c, h1, h2, h3⟩ := h
  exact fun z hz => wf_u8 (h2.wf z hz)
end Go.Proofs.YtannniobeanhlaaGreat
/- The contracts of layer 13 (frame): what a whole request says. -/
namespace Go.Proofs.YtannniobeanhlaaGreat
set_option linter.unusedSimpArgs false
set_option linter.unusedVariables false
set_option maxRecDepth 100000
open Go.ChangeShapes Go.WideShapes Go.ChangeAt Go.RowKit
end Go.Proofs.YtannniobeanhlaaGreat
/- The contracts of layer 13 (frame): faults. -/
namespace Go.Proofs.YtannniobeanhlaaGreat
set_option linter.unusedSimpArgs false
set_option linter.unusedVariables false
set_option maxRecDepth 100000
open Go.ChangeShapes Go.WideShapes Go.ChangeAt Go.RowKit
theorem ret_i {k : IntKind} {a b : Int} (h : a = b) : Ending.returned (.int k a) = .returned (.int k b) := by rw [h]
end Go.Proofs.YtannniobeanhlaaGreat
/- The contracts of layer 13 (frame): Parse. -/
namespace Go.Proofs.YtannniobeanhlaaGreat
set_option linter.unusedSimpArgs false
set_option linter.unusedVariables false
set_option maxRecDepth 100000
open Go.ChangeShapes Go.WideShapes Go.ChangeAt Go.RowKit
end Go.Proofs.YtannniobeanhlaaGreat
/- The contracts of layer 13 (frame): the document's Parse. -/
namespace Go.Proofs.YtannniobeanhlaaGreat
set_option linter.unusedSimpArgs false
set_option linter.unusedVariables false
set_option maxRecDepth 100000
open Go.ChangeShapes Go.WideShapes Go.ChangeAt Go.RowKit
end Go.Proofs.YtannniobeanhlaaGreat
/- The contracts of layer 13 (frame): Encode, and the document's. -/
namespace Go.Proofs.YtannniobeanhlaaGreat
set_option linter.unusedSimpArgs false
set_option linter.unusedVariables false
set_option maxRecDepth 100000
open Go.ChangeShapes Go.WideShapes Go.ChangeAt Go.RowKit
end Go.Proofs.YtannniobeanhlaaGreat
/- The contracts of layer 13 (frame): numbers and texts written; no block of another type is touched. -/
namespace Go.Proofs.YtannniobeanhlaaGreat
set_option linter.unusedSimpArgs false
set_option linter.unusedVariables false
set_option maxRecDepth 100000
open Go.ChangeShapes Go.WideShapes Go.ChangeAt Go.RowKit
/-- the block has bytes. -/
def U8 (w : World) (k : Nat) : Prop := ∃ c f, w.heap[k]? = some (.cells c 5 f)
/-- only blocks of bytes from B on have changed. -/
def FrU (B : Nat) (w w' : World) : Prop := Fr (fun k => B ≤ k ∧ U8 w k) w w'
theorem FrU.fr {B : Nat} {w w' : World} (h : FrU B w w') : Fr (fun k => B ≤ k) w w' := h.mono (fun _ hk => hk.1)
theorem FrU.size {B : Nat} {w w' : World} (h : FrU B w w') : w.heap.size ≤ w'.heap.size := Fr.size h
theorem FrU.refl (B : Nat) (w : World) : FrU B w w := Fr.refl _ _
theorem FrU.trans {B : Nat} {w w1 w2 : World} (h : FrU B w w1) (g : FrU B w1 w2) : FrU B w w2 :=
  ⟨g.os.trans h.os, g.tape.trans h.tape, g.output.trans h.output, Nat.le_trans h.size g.size, fun k hk hF => by
    have e := h.block k hk hF
    refine (g.block k (Nat.lt_of_lt_of_le hk h.size) (fun hG => hF ⟨hG.1, ?_⟩)).trans e
    obtain ⟨c, f, hc⟩ := hG.2
    exact ⟨c, f, by rw [← e]; exact hc⟩⟩
theorem FrU.of_below {B : Nat} {w w' : World} (h : Below w.heap.size w w') : FrU B w w' := Fr.of_below h
theorem FrU.alloc {B : Nat} {w : World} (_h : B ≤ w.heap.size) (o : Obj) : FrU B w (w.alloc o) := (Fr.refl _ w).alloc o
theorem Own.u8 {w : World} {B : Nat} {v : Value} {xs : List Int} (h : Own w B v xs) : ∀ g, v.ownBlock = some g → B ≤ g ∧ U8 w g := by
  intro g hg
  rcases h.2 with ⟨rfl, _⟩ | ⟨g', cap, cur, rfl, hb, hh, _⟩
  · cases hg
  · have : g' = g := by simpa [Value.ownBlock] using hg
    subst this
    exact ⟨hb, cur, _, hh⟩
theorem FrU.row {B : Nat} {w w' : World} {v : Value} {xs : List Int} (h : Own w B v xs) (hg : w.grownBy w' v.ownBlock) : FrU B w w' := (fr_row hg).mono (fun k hk => h.u8 k hk)
theorem FrU.blk {B d : Nat} {w w' : World} {t : TypeId} {c : Array Value} (h : FrU B w w') (hb : Blk w d t c) (hd : d < B ∨ t ≠ 5) : Blk w' d t c := by
  refine hb.fr h (fun hF => ?_)
  rcases hd with hd | hd
  · have := hF.1; omega
  · obtain ⟨c', f, hc⟩ := hF.2
    rw [hb] at hc
    injection hc with hc
    injection hc with _ hc
    exact hd hc
theorem FrU.below {B : Nat} {w w' : World} (h : FrU B w w') (hB : B ≤ w.heap.size) : Below B w w' := h.fr.below hB (fun _ hk => hk)
end Go.Proofs.YtannniobeanhlaaGreat
/- The contracts of layer 13 (frame): answers written, but lists. -/
namespace Go.Proofs.YtannniobeanhlaaGreat
set_option linter.unusedSimpArgs false
set_option linter.unusedVariables false
set_option maxRecDepth 100000
open Go.ChangeShapes Go.WideShapes Go.ChangeAt Go.RowKit
end Go.Proofs.YtannniobeanhlaaGreat
