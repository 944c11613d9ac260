/- Two rings that are alike from a number on. -/
import Derived.Test.YthfaeapodfgldaaRgX
namespace Go.Proofs.Ythfaeapodfgldaa
set_option linter.unusedSimpArgs false
set_option linter.unusedVariables false
open Go.ChangeShapes Go.WideShapes Go.ChangeAt Go.RowKit
open Ar (inR)
/-- two rings that are alike from a number on: what each part has is the same, or it is below that number in both. -/
structure AlikeR (R1 R2 : RgN) (σ τ : RgS) (d : Int) : Prop where
  n : R1.n = R2.n
  s : R1.s = R2.s
  sm : R1.sm = R2.sm
  k : R1.k = R2.k
  P : R1.P = R2.P
  t : σ.t = τ.t
  ge : d ≤ σ.now R1 - ((R1.n : Int) - 1)
  parts : ∀ i, i < R1.n → (σ.num i = τ.num i ∧ σ.F i = τ.F i) ∨ (σ.num i < d ∧ τ.num i < d)
section
variable {R1 R2 : RgN} {σ τ : RgS} {d : Int}
theorem AlikeR.now (h : AlikeR R1 R2 σ τ d) : σ.now R1 = τ.now R2 := by unfold RgS.now; rw [h.t, h.s]
theorem AlikeR.lsum (h : AlikeR R1 R2 σ τ d) (s : ByteArray) {a : Int} (ha : d ≤ a) (b : Int) : ∀ j, j ≤ R1.n → lsum R1 σ s a b j = lsum R2 τ s a b j
  | 0, _ => rfl
  | j + 1, hj => by
    unfold Go.Proofs.Ythfaeapodfgldaa.lsum
    rw [AlikeR.lsum h s ha b j (by omega)]
    rcases h.parts j (by omega) with ⟨h1, h2⟩ | ⟨h1, h2⟩
    · rw [h1, h2, h.P, h.k]
    · rw [if_neg (fun hh => by omega), if_neg (fun hh => by omega)]
theorem AlikeR.est (h : AlikeR R1 R2 σ τ d) (s : ByteArray) (hn : 1 ≤ R1.n) : estZ R1 σ s = estZ R2 τ s := by
  have hg := h.ge
  have l1 := h.lsum s hg (σ.now R1 - ((R1.n : Int) - 1)) R1.n (Nat.le_refl _)
  have l2 := h.lsum s (show d ≤ σ.now R1 - ((R1.n : Int) - 1) + 1 by omega) (σ.now R1) R1.n (Nat.le_refl _)
  unfold estZ eldZ
  simp only
  rw [l1, l2, h.now, h.t, h.sm, h.s, h.n]
theorem AlikeR.to (h : AlikeR R1 R2 σ τ d) (hs : 1 ≤ R1.s) {t : Int} (ht : σ.t ≤ t) : AlikeR R1 R2 ⟨t, σ.num, σ.F⟩ ⟨t, τ.num, τ.F⟩ d :=
  ⟨h.n, h.s, h.sm, h.k, h.P, rfl, by
    have h1 := h.ge
    have h2 : σ.now R1 ≤ t / (R1.s : Int) := Int.ediv_le_ediv (by omega) ht
    show d ≤ t / (R1.s : Int) - ((R1.n : Int) - 1)
    omega, h.parts⟩
theorem AlikeR.add (h : AlikeR R1 R2 σ τ d) (hn : 1 ≤ R1.n) (hp : σ.pl R1 < R1.n) (s : ByteArray) (c : Int) : AlikeR R1 R2 (σ.add R1 s c) (τ.add R2 s c) d := by
  have hpl : σ.pl R1 = τ.pl R2 := by unfold RgS.pl; rw [h.now, h.n]
  have hnow := h.now
  have hg := h.ge
  refine ⟨h.n, h.s, h.sm, h.k, h.P, h.t, hg, fun i hi => ?_⟩
  show (updN σ.num (σ.pl R1) (σ.now R1) i = updN τ.num (τ.pl R2) (τ.now R2) i ∧ updN σ.F (σ.pl R1) _ i = updN τ.F (τ.pl R2) _ i) ∨ (updN σ.num (σ.pl R1) (σ.now R1) i < d ∧ updN τ.num (τ.pl R2) (τ.now R2) i < d)
  by_cases e : i = σ.pl R1
  · left
    subst e
    rw [updN_self, updN_self, ← hpl, updN_self, updN_self]
    refine ⟨hnow, ?_⟩
    rw [h.P, h.k]
    rcases h.parts (σ.pl R1) hp with ⟨h1, h2⟩ | ⟨h1, h2⟩
    · rw [h1, h2, hnow]
    · rw [if_neg (fun hh => by omega), if_neg (fun hh => by omega)]
  · rw [updN_ne _ _ e, updN_ne _ _ e, ← hpl, updN_ne _ _ e, updN_ne _ _ e]
    exact h.parts i hi
end
/-- two rings of the law's own. -/
structure GB (W w : World) (R1 R2 : RgN) (σ τ : RgS) : Prop where
  a : GA W w R1 σ
  b : GA W w R2 τ
  ap : ∀ x, R1.all x → ¬ R2.all x
section
variable {W w w' : World} {R1 R2 : RgN} {σ σ' τ τ' : RgS}
theorem GB.keep (h : GB W w R1 R2 σ τ) (hb : Below w.heap.size w w') : GB W w' R1 R2 σ τ := ⟨h.a.keep hb, h.b.keep hb, h.ap⟩
theorem GB.op1 (h : GB W w R1 R2 σ τ) (h1 : RgAt w' R1 σ') (hf : Fr R1.F w w') : GB W w' R1 R2 σ' τ :=
  have g := h.a.op h1 hf
  ⟨g, ⟨h.b.at_.fr hf (fun x hx hy => h.ap x (Or.inl hy) hx), h.b.lo, g.bl⟩, h.ap⟩
theorem GB.op2 (h : GB W w R1 R2 σ τ) (h1 : RgAt w' R2 τ') (hf : Fr R2.F w w') : GB W w' R1 R2 σ τ' :=
  have g := h.b.op h1 hf
  ⟨⟨h.a.at_.fr hf (fun x hx hy => h.ap x hx (Or.inl hy)), h.a.lo, g.bl⟩, g, h.ap⟩
/-- a ring after a far jump is like a new one. -/
theorem jump_alike {σ : RgS} (hn : R1.n = R2.n ∧ 1 ≤ R1.n) (hs : R1.s = R2.s ∧ 1 ≤ R1.s) (hsm : R1.sm = R2.sm) (hk : R1.k = R2.k) (hX : R1.X = R2.X ∧ R1.A = R2.A ∧ R1.B = R2.B ∧ R1.W = R2.W) {t : Int} (h0 : 0 ≤ σ.t) (hnow : ∀ i, i < R1.n → σ.num i ≤ σ.now R1) (ht : σ.t + (R1.n : Int) * (R1.s : Int) ≤ t) :
    AlikeR R1 R2 ⟨t, σ.num, σ.F⟩ ⟨t, fun _ => 0, fun _ _ _ => 0⟩ (t / (R1.s : Int) - ((R1.n : Int) - 1)) := by
  have h1 : σ.now R1 + (R1.n : Int) = (σ.t + (R1.n : Int) * (R1.s : Int)) / (R1.s : Int) := (Int.add_mul_ediv_right _ _ (by omega)).symm
  have h2 : (σ.t + (R1.n : Int) * (R1.s : Int)) / (R1.s : Int) ≤ t / (R1.s : Int) := Int.ediv_le_ediv (by omega) ht
  have h3 : 0 ≤ σ.now R1 := Int.ediv_nonneg h0 (by omega)
  refine ⟨hn.1, hs.1, hsm, hk, ?_, rfl, Int.le_refl _, fun i hi => Or.inr ⟨?_, ?_⟩⟩
  · unfold RgN.P; rw [hX.1, hX.2.1, hX.2.2.1, hX.2.2.2]
  · show σ.num i < t / (R1.s : Int) - ((R1.n : Int) - 1)
    have := hnow i hi
    omega
  · show (0 : Int) < t / (R1.s : Int) - ((R1.n : Int) - 1)
    omega
end
end Go.Proofs.Ythfaeapodfgldaa
