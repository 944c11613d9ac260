/- The law SlotAlone of layer 6 (slot), walked. -/
import Derived.Test.YtmdkokehomboaaaSlV
namespace Go.Proofs.Ytmdkokehomboaaa
set_option linter.unusedSimpArgs false
set_option linter.unusedVariables false
open Go.ChangeShapes Go.WideShapes Go.ChangeAt Go.RowKit
open Ar (inR)
/-- no other key stands where this one does, in a row. -/
def aloneR (H : ByteArray → Option Int) (P : Nat → ByteArray → Nat) (j : Nat) (s : ByteArray) : Prop := ∀ o x, H o = some x → o ≠ s → P j o ≠ P j s
structure AlI (H : ByteArray → Option Int) (f : Nat → Nat → Int) (P : Nat → ByteArray → Nat) (k : Nat) (i : Nat) : Prop where
  has : ∀ s x, H s = some x → (0 ≤ x ∧ x ≤ 65535 * (i : Int)) ∧ x ≤ Sk.leastR f P s (k - 1)
  sz : ∀ s x, H s = some x → s.size ≤ maxLen
  up : ∀ j p, f j p ≤ 65535 * (i : Int)
  cap : ∀ j s, aloneR H P j s → f j (P j s) ≤ (H s).getD 0
theorem AlI.getD {H : ByteArray → Option Int} {f : Nat → Nat → Int} {P : Nat → ByteArray → Nat} {k : Nat} {i : Nat} (h : AlI H f P k i) (hf : Sk.okC f) (s : ByteArray) : (0 ≤ (H s).getD 0 ∧ (H s).getD 0 ≤ 65535 * (i : Int)) ∧ (H s).getD 0 ≤ Sk.leastR f P s (k - 1) := by
  cases hH : H s with
  | none => exact ⟨⟨Int.le_refl _, by show (0:Int) ≤ _; omega⟩, (hf.least P s (k - 1)).1⟩
  | some x => exact h.has s x hH
theorem AlI.step {H : ByteArray → Option Int} {f : Nat → Nat → Int} {P : Nat → ByteArray → Nat} {k : Nat} {i : Nat} (h : AlI H f P k i) (hf : Sk.okC f) (hk : 1 ≤ k) (hi : i ≤ 100) (ky : ByteArray) (hky : ky.size ≤ maxLen) {c : Int} (hc : 0 ≤ c ∧ c ≤ 65535) :
    AlI (putH H ky ((H ky).getD 0 + c)) (Sk.add f P k ky c) P k (i + 1) := by
  have hd := h.getD hf ky
  refine ⟨fun s x hx => ?_, fun s x hx => ?_, fun j p => ?_, fun j s ha => ?_⟩
  · unfold putH at hx
    by_cases e : s = ky
    · subst e
      rw [if_pos rfl] at hx
      injection hx with hx
      refine ⟨by omega, ?_⟩
      by_cases h0 : c < 1
      · rw [add_none _ _ _ _ h0]; omega
      · rw [Sk.add_self hf P hk s ⟨by omega, by omega⟩]
        obtain ⟨j, _, he⟩ := Sk.leastR_is f P s (k - 1)
        have := h.up j (P j s)
        rw [clamp_in (by omega)]; omega
    · rw [if_neg e] at hx
      have := h.has s x hx
      exact ⟨by omega, Int.le_trans this.2 (Sk.least_mono (Sk.add_ge f P k ky c) P s (k - 1))⟩
  · unfold putH at hx
    by_cases e : s = ky
    · rw [e]; exact hky
    · rw [if_neg e] at hx; exact h.sz s x hx
  · have := Sk.add_le hf P (k := k) ky (c := c) (by omega) j p
    have := h.up j p
    omega
  · have hal : aloneR H P j s := fun o x ho hne => by
      by_cases e : o = ky
      · subst e; exact ha o _ (by unfold putH; rw [if_pos rfl]) hne
      · exact ha o x (by unfold putH; rw [if_neg e]; exact ho) hne
    have h1 := h.cap j s hal
    by_cases e : s = ky
    · subst e
      have h2 := Sk.add_le hf P (k := k) s (c := c) (by omega) j (P j s)
      have e2 : (putH H s ((H s).getD 0 + c) s).getD 0 = (H s).getD 0 + c := by unfold putH; rw [if_pos rfl]; rfl
      rw [e2]; omega
    · have h2 := ha ky _ (by unfold putH; rw [if_pos rfl]) (fun h => e h.symm)
      rw [Sk.add_off f P k ky c (fun h => h2 h.symm)]
      have e2 : (putH H ky ((H ky).getD 0 + c) s).getD 0 = (H s).getD 0 := by unfold putH; rw [if_neg e]
      rw [e2]; exact h1
/-- a key that is alone in some row is told just what it had. -/
theorem AlI.told {H : ByteArray → Option Int} {f : Nat → Nat → Int} {P : Nat → ByteArray → Nat} {k : Nat} {i : Nat} (h : AlI H f P k i) {s : ByteArray} {x : Int} (hs : H s = some x) {j : Nat} (hj : j < k) (ha : aloneR H P j s) : Sk.leastR f P s (k - 1) = x := by
  have h1 := h.cap j s ha
  rw [hs] at h1
  have h2 := (h.has s x hs).2
  have h3 := Sk.leastR_le f P s (k - 1) j (by omega)
  have h1 : f j (P j s) ≤ x := h1
  omega
theorem RowsAt.fr {w w' : World} {b k : Nat} {X A B : Nat → Nat} {F : Nat → Prop} (h : RowsAt w b k X A B) (hf : Fr F w w') (hF : ¬ F b) : RowsAt w' b k X A B := by
  obtain ⟨C, h1, h2, h3⟩ := h.blk
  exact ⟨C, (hf.block b (lt_of_block h1) hF).trans h1, h2, h3⟩
theorem RowsAt.keep {w w' : World} {b k : Nat} {X A B : Nat → Nat} (h : RowsAt w b k X A B) (hb : Below w.heap.size w w') : RowsAt w' b k X A B := h.fr (F := fun _ => False) (Fr.of_below hb) id
theorem RowsAt.lt {w : World} {b k : Nat} {X A B : Nat → Nat} (h : RowsAt w b k X A B) : b < w.heap.size := by obtain ⟨C, h1, _⟩ := h.blk; exact lt_of_block h1
theorem RowsAt.cells {w : World} {b k : Nat} {X A B : Nat → Nat} (h : RowsAt w b k X A B) {j : Nat} (hj : j < k) : w.cell? ⟨b, j * 3, none⟩ = some (.int .u64 (X j)) ∧ w.cell? ⟨b, j * 3 + 1, none⟩ = some (.int .u64 (A j)) ∧ w.cell? ⟨b, j * 3 + 2, none⟩ = some (.int .u64 (B j)) := by
  obtain ⟨C, h1, h2, h3⟩ := h.blk
  have := h3 j hj
  rw [Nat.mul_comm 3 j] at this
  exact ⟨by rw [cell_at h1]; exact this.1, by rw [cell_at h1]; exact this.2.1, by rw [cell_at h1]; exact this.2.2⟩
/-- what the law has: its sketch, the functions that it is made of. -/
structure SA (W w : World) (N : SlN) (b0 : Nat) (f : Nat → Nat → Int) : Prop where
  at_ : SlAt w N f
  rows : RowsAt w b0 4 N.X N.A N.B
  lo : W.heap.size ≤ N.b ∧ W.heap.size ≤ N.g ∧ W.heap.size ≤ b0 ∧ b0 ≠ N.g
  bl : Below W.heap.size W w
theorem SA.keep {W w w' : World} {N : SlN} {b0 : Nat} {f : Nat → Nat → Int} (h : SA W w N b0 f) (hb : Below w.heap.size w w') : SA W w' N b0 f := ⟨h.at_.keep hb, h.rows.keep hb, h.lo, h.bl.trans (hb.mono h.bl.size)⟩
theorem SA.fr {W w w' : World} {N : SlN} {b0 : Nat} {f : Nat → Nat → Int} {F : Nat → Prop} (h : SA W w N b0 f) (hf : Fr F w w') (h1 : ∀ k, F k → k ≠ N.b ∧ k ≠ N.g ∧ k ≠ b0 ∧ W.heap.size ≤ k) : SA W w' N b0 f :=
  ⟨h.at_.fr hf (fun e => (h1 _ e).1 rfl) (fun e => (h1 _ e).2.1 rfl), h.rows.fr hf (fun e => (h1 _ e).2.2.1 rfl), h.lo, h.bl.trans (hf.below h.bl.size (fun k hk => (h1 k hk).2.2.2))⟩
theorem SA.op {W w w' : World} {N : SlN} {b0 : Nat} {f g : Nat → Nat → Int} (h : SA W w N b0 f) (h1 : SlAt w' N g) (hf : Fr (fun k => k = N.g) w w') : SA W w' N b0 g :=
  ⟨h1, h.rows.fr hf h.lo.2.2.2, h.lo, h.bl.trans (hf.below h.bl.size (fun k hk => by have := h.lo; omega))⟩
theorem SA.lt {W w : World} {N : SlN} {b0 : Nat} {f : Nat → Nat → Int} (h : SA W w N b0 f) : N.b < w.heap.size ∧ N.g < w.heap.size ∧ b0 < w.heap.size := ⟨h.at_.lt2.1, h.at_.lt2.2, h.rows.lt⟩
theorem ranges_lt {P : Program} {k : TypeId} {w : World} {b r c n : Nat} {M : ByteArray → Option Value} {left : ByteArray → Bool} (h : Mp.RangeS P k w b r c M left n) : r < w.heap.size := by
  obtain ⟨D, lf, ⟨es, clock, since, seen, c0, hb, F', hs, hD, hr, h5⟩, _⟩ := h
  exact lt_of_block hr
theorem str_neS {s t : ByteArray} (h : t ≠ s) : (t.toList == s.toList) = false :=
  beq_eq_false_iff_ne.2 (fun e => h (ByteArray.ext (Array.toList_inj.1 (by rw [ByteArray.toList_eq, ByteArray.toList_eq] at e; exact e))))
theorem boxR (X : World) (t : TypeId) (z0 z1 z2 a b c : Value) : ∃ w1 w2, X.alloc (.cells #[z0, z1, z2] t) = w1 ∧
    (∀ j, w1.cell? ⟨X.heap.size, j, none⟩ = (#[z0, z1, z2] : Array Value)[j]?) ∧ (∀ j, w1.frozen? ⟨X.heap.size, j, none⟩ = false) ∧
    ((w1.setCell ⟨X.heap.size, 0, none⟩ a).setCell ⟨X.heap.size, 1, none⟩ b).setCell ⟨X.heap.size, 2, none⟩ c = w2 ∧
    Below X.heap.size X w2 ∧ Blk w2 X.heap.size t #[a, b, c] := by
  obtain ⟨w1, hw1, kc1, l1, s1⟩ := box_new X #[z0, z1, z2] t
  exact ⟨w1, _, hw1, kc1.rd, kc1.wr, three_set kc1 a b c, l1.trans ((Fr.setObj (F := fun k => k = X.heap.size) (Fr.refl _ _) rfl _).below l1.size (fun k hk => by omega)), setObj_at (lt_of_block kc1) _⟩
end Go.Proofs.Ytmdkokehomboaaa
