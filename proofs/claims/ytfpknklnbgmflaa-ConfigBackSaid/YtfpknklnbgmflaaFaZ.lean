/- The contracts of layer 13 (frame): numbers and texts written; no block of another type is touched. -/
import Derived.Test.YtfpknklnbgmflaaFrN
import Derived.Test.YtfpknklnbgmflaaFaM
namespace Go.Proofs.Ytfpknklnbgmflaa
set_option linter.unusedSimpArgs false
set_option linter.unusedVariables false
open Go.ChangeShapes Go.WideShapes Go.ChangeAt Go.RowKit
/-- the block has bytes. -/
def U8 (w : World) (k : Nat) : Prop := ∃ c f, w.heap[k]? = some (.cells c 5 f)
/-- only blocks of bytes from B on have changed. -/
def FrU (B : Nat) (w w' : World) : Prop := Fr (fun k => B ≤ k ∧ U8 w k) w w'
theorem FrU.fr {B : Nat} {w w' : World} (h : FrU B w w') : Fr (fun k => B ≤ k) w w' := h.mono (fun _ hk => hk.1)
theorem FrU.size {B : Nat} {w w' : World} (h : FrU B w w') : w.heap.size ≤ w'.heap.size := Fr.size h
theorem FrU.refl (B : Nat) (w : World) : FrU B w w := Fr.refl _ _
theorem FrU.trans {B : Nat} {w w1 w2 : World} (h : FrU B w w1) (g : FrU B w1 w2) : FrU B w w2 :=
  ⟨g.os.trans h.os, g.tape.trans h.tape, g.output.trans h.output, Nat.le_trans h.size g.size, fun k hk hF => by
    have e := h.block k hk hF
    refine (g.block k (Nat.lt_of_lt_of_le hk h.size) (fun hG => hF ⟨hG.1, ?_⟩)).trans e
    obtain ⟨c, f, hc⟩ := hG.2
    exact ⟨c, f, by rw [← e]; exact hc⟩⟩
theorem FrU.of_below {B : Nat} {w w' : World} (h : Below w.heap.size w w') : FrU B w w' := Fr.of_below h
theorem FrU.alloc {B : Nat} {w : World} (_h : B ≤ w.heap.size) (o : Obj) : FrU B w (w.alloc o) := (Fr.refl _ w).alloc o
theorem Own.u8 {w : World} {B : Nat} {v : Value} {xs : List Int} (h : Own w B v xs) : ∀ g, v.ownBlock = some g → B ≤ g ∧ U8 w g := by
  intro g hg
  rcases h.2 with ⟨rfl, _⟩ | ⟨g', cap, cur, rfl, hb, hh, _⟩
  · cases hg
  · have : g' = g := by simpa [Value.ownBlock] using hg
    subst this
    exact ⟨hb, cur, _, hh⟩
theorem FrU.row {B : Nat} {w w' : World} {v : Value} {xs : List Int} (h : Own w B v xs) (hg : w.grownBy w' v.ownBlock) : FrU B w w' := (fr_row hg).mono (fun k hk => h.u8 k hk)
theorem FrU.blk {B d : Nat} {w w' : World} {t : TypeId} {c : Array Value} (h : FrU B w w') (hb : Blk w d t c) (hd : d < B ∨ t ≠ 5) : Blk w' d t c := by
  refine hb.fr h (fun hF => ?_)
  rcases hd with hd | hd
  · have := hF.1; omega
  · obtain ⟨c', f, hc⟩ := hF.2
    rw [hb] at hc
    injection hc with hc
    injection hc with _ hc
    exact hd hc
theorem FrU.more {B B' : Nat} {w w' : World} (h : FrU B w w') (hB : B' ≤ B) : FrU B' w w' := h.mono (fun k hk => ⟨Nat.le_trans hB hk.1, hk.2⟩)
theorem FrU.below {B : Nat} {w w' : World} (h : FrU B w w') (hB : B ≤ w.heap.size) : Below B w w' := h.fr.below hB (fun _ hk => hk)
theorem fru_end {B ab : Nat} {w w1 wr w9 : World} {v : Value} {bs : List Int} (_hB : B ≤ w.heap.size) (ho : Own w B v bs) (hab : ab = w.heap.size) (f1 : Below w.heap.size w w1) (hf : Fr (fun k => k = ab) w1 wr) (hg : wr.grownBy w9 v.ownBlock) : FrU B w w9 := by
  have h1 : Fr (fun _ => False) w wr := Fr.drop_new (s := ab) (((Fr.of_below (F := fun k => False ∨ k = ab) f1).trans (hf.mono (fun k hk => Or.inr hk)))) (by omega)
  have h2 : Own wr B v bs := ho.fr h1 (fun _ _ h => h)
  have h3 : FrU B w wr := h1.mono (fun _ h => h.elim)
  exact h3.trans (FrU.row h2 hg)
theorem own_rdn {w : World} {base : Nat} {v : Value} {zs : List Int} (h : Own w base v zs) (hb : byt zs) (n : Nat) (hn : zs.length = n) (h1 : 0 < n) : ∃ g c, v = .slice (some ⟨g, 0, none⟩) n c ∧ RdI w .u8 (some ⟨g, 0, none⟩) n c zs ∧ base ≤ g ∧ g < w.heap.size := by
  subst hn
  obtain ⟨A, c, rfl, hr, hA⟩ := h.rd hb
  obtain ⟨g, rfl, hg⟩ := hA h1
  obtain ⟨l1, l2⟩ := h.lt g hg
  exact ⟨g, c, rfl, hr, l1, l2⟩
def be8s : List Int → List Int
  | [] => []
  | x :: l => be 8 x ++ be8s l
theorem be8s_app : ∀ l m, be8s (l ++ m) = be8s l ++ be8s m
  | [], _ => rfl
  | x :: l, m => by rw [List.cons_append, be8s, be8s, be8s_app l m, List.append_assoc]
theorem be8s_length : ∀ l, (be8s l).length = 8 * l.length
  | [] => rfl
  | x :: l => by rw [be8s, List.length_append, be_length, be8s_length l, List.length_cons]; omega
theorem i64_wf {z : Int} (h : i64P z) : (Lit.int .i64 z).wf = true := by
  unfold i64P at h
  simp [Lit.wf, IntKind.min, IntKind.max, IntKind.signed, IntKind.bits]
  omega
theorem wf_i64 {z : Int} (h : (Lit.int .i64 z).wf = true) : i64P z := by
  unfold i64P
  simp [Lit.wf, IntKind.min, IntKind.max, IntKind.signed, IntKind.bits] at h
  omega
end Go.Proofs.Ytfpknklnbgmflaa
