/- Rings whose costs are few: sums that do not run over. -/
import Derived.Test.YthfaeapodfgldaaRgC
namespace Go.Proofs.Ythfaeapodfgldaa
set_option linter.unusedSimpArgs false
set_option linter.unusedVariables false
open Go.ChangeShapes Go.WideShapes Go.ChangeAt Go.RowKit
open Ar (inR)
/-- what a key has in the first j parts of those numbered from one to another, as it is. -/
def rsum (R : RgN) (σ : RgS) (s : ByteArray) (a b : Int) : Nat → Int
  | 0 => 0
  | j + 1 => rsum R σ s a b j + (if a ≤ σ.num j ∧ σ.num j ≤ b then Sk.leastR (σ.F j) R.P s (R.k - 1) else 0)
/-- what it has in all of them. -/
def rall (R : RgN) (F : Nat → Nat → Nat → Int) (s : ByteArray) : Nat → Int
  | 0 => 0
  | j + 1 => rall R F s j + Sk.leastR (F j) R.P s (R.k - 1)
section
variable {R : RgN} {σ : RgS} {s : ByteArray}
theorem rsum_in {j : Nat} (h : ∀ i, i < j → Sk.okC (σ.F i)) (a b : Int) : 0 ≤ rsum R σ s a b j ∧ rsum R σ s a b j ≤ rall R σ.F s j := by
  induction j with
  | zero => exact ⟨Int.le_refl _, Int.le_refl _⟩
  | succ j ih =>
    have ih := ih (fun i hi => h i (by omega))
    have hv := (h j (by omega)).least R.P s (R.k - 1)
    unfold rsum rall
    split <;> omega
theorem rall_pos {F : Nat → Nat → Nat → Int} : ∀ j, (∀ q, q < j → Sk.okC (F q)) → 0 ≤ rall R F s j
  | 0, _ => Int.le_refl _
  | j + 1, h => by
    have ih := rall_pos (F := F) j (fun q hq => h q (by omega))
    have hv := (h j (by omega)).least R.P s (R.k - 1)
    show 0 ≤ rall R F s j + Sk.leastR (F j) R.P s (R.k - 1)
    omega
theorem lsum_eq {j : Nat} (h : ∀ i, i < j → Sk.okC (σ.F i)) (ht : rall R σ.F s j ≤ 9223372036854775807) (a b : Int) : lsum R σ s a b j = rsum R σ s a b j := by
  induction j with
  | zero => rfl
  | succ j ih =>
    have hv := (h j (by omega)).least R.P s (R.k - 1)
    have hall : rall R σ.F s (j + 1) = rall R σ.F s j + Sk.leastR (σ.F j) R.P s (R.k - 1) := rfl
    have ih := ih (fun i hi => h i (by omega)) (by omega)
    have hr := rsum_in (R := R) (s := s) (fun i hi => h i (by omega) : ∀ i, i < j → Sk.okC (σ.F i)) a b
    unfold lsum rsum
    rw [ih]
    by_cases hc : a ≤ σ.num j ∧ σ.num j ≤ b
    · rw [if_pos hc, if_pos hc, clamp_in (by omega)]
    · rw [if_neg hc, if_neg hc, Int.add_zero]
theorem rsum_split {a b c : Int} (h1 : a ≤ c + 1) (h2 : c ≤ b) (j : Nat) : rsum R σ s a b j = rsum R σ s a c j + rsum R σ s (c + 1) b j := by
  induction j with
  | zero => rfl
  | succ j ih =>
    unfold rsum
    rw [ih]
    by_cases ha : a ≤ σ.num j ∧ σ.num j ≤ b
    · rw [if_pos ha]
      by_cases hc : σ.num j ≤ c
      · rw [if_pos ⟨ha.1, hc⟩, if_neg (fun hh => by omega)]; omega
      · rw [if_neg (fun hh => hc hh.2), if_pos ⟨by omega, ha.2⟩]; omega
    · rw [if_neg ha, if_neg (fun hh => ha ⟨hh.1, by omega⟩), if_neg (fun hh => ha ⟨by omega, hh.2⟩)]; omega
theorem rsum_out {a b : Int} {j : Nat} (h : ∀ i, i < j → ¬ (a ≤ σ.num i ∧ σ.num i ≤ b)) : rsum R σ s a b j = 0 := by
  induction j with
  | zero => rfl
  | succ j ih => unfold rsum; rw [if_neg (h j (by omega)), ih (fun i hi => h i (by omega))]; rfl
/-- none is told more than a row's counters of it have. -/
theorem lsum_le_msum {a b : Int} {row : Nat} (hrow : row < R.k) : ∀ j, (∀ i, i < j → Sk.okC (σ.F i)) → lsum R σ s a b j ≤ msum R σ (row : Int) s a j
  | 0, _ => Int.le_refl _
  | j + 1, h => by
    have ih := lsum_le_msum (a := a) (b := b) hrow j (fun i hi => h i (by omega))
    have hc : Sk.leastR (σ.F j) R.P s (R.k - 1) ≤ cntZ R (σ.F j) (row : Int) s := by
      unfold cntZ
      rw [if_pos ⟨Int.natCast_nonneg _, by omega⟩, Int.toNat_natCast]
      exact Sk.leastR_le _ _ _ _ _ (by omega)
    have hci := cntZ_in (R := R) (h j (by omega)) (row : Int) s
    have hmi := msum_in (R := R) (σ := σ) (j := j) (fun i hi => h i (by omega)) (row : Int) s a
    unfold lsum msum
    by_cases ha : a ≤ σ.num j
    · rw [if_pos ha]
      by_cases hb : σ.num j ≤ b
      · rw [if_pos ⟨ha, hb⟩]; exact clamp_mono (by omega)
      · rw [if_neg (fun hh => hb hh.2)]
        exact Int.le_trans ih (clamp_ge hmi (by omega))
    · rw [if_neg (fun hh => ha hh.1), if_neg ha]; exact ih
/-- what is added changes the sum of a key by no more than that. -/
theorem least_add_le {f : Nat → Nat → Int} (hf : Sk.okC f) (P : Nat → ByteArray → Nat) (k : Nat) (ky s : ByteArray) {c : Int} (hc : 0 ≤ c ∧ c ≤ 9223372036854775807) (r : Nat) : Sk.leastR (Sk.add f P k ky c) P s r ≤ Sk.leastR f P s r + c := by
  obtain ⟨j, hj, he⟩ := Sk.leastR_is f P s r
  rw [he]
  exact Int.le_trans (Sk.leastR_le _ _ _ _ j hj) (Sk.add_le hf P ky hc j (P j s))
theorem rall_upd {F : Nat → Nat → Nat → Int} {i : Nat} {g : Nat → Nat → Int} {c : Int} (hc : 0 ≤ c) (hg : Sk.leastR g R.P s (R.k - 1) ≤ Sk.leastR (F i) R.P s (R.k - 1) + c) : ∀ j, rall R (updN F i g) s j ≤ rall R F s j + c
  | 0 => by show (0 : Int) ≤ 0 + c; omega
  | j + 1 => by
    show rall R (updN F i g) s j + Sk.leastR (updN F i g j) R.P s (R.k - 1) ≤ rall R F s j + Sk.leastR (F j) R.P s (R.k - 1) + c
    by_cases e : j = i
    · subst e
      rw [updN_self]
      have : rall R (updN F j g) s j = rall R F s j := by
        have key : ∀ m, m ≤ j → rall R (updN F j g) s m = rall R F s m := by
          intro m
          induction m with
          | zero => intro _; rfl
          | succ m ih =>
            intro hm
            show rall R (updN F j g) s m + Sk.leastR (updN F j g m) R.P s (R.k - 1) = rall R F s m + Sk.leastR (F m) R.P s (R.k - 1)
            rw [ih (by omega), updN_ne _ _ (by omega)]
        exact key j (Nat.le_refl _)
      omega
    · rw [updN_ne _ _ e]
      have := rall_upd (F := F) (i := i) (g := g) hc hg j
      omega
/-- what the laws know of a ring to which costs are added: no more than so much in all, and none later than now. -/
structure FewR (R : RgN) (σ : RgS) (T : Int) : Prop where
  all : ∀ s, rall R σ.F s R.n ≤ T
  now : ∀ i, i < R.n → σ.num i ≤ σ.now R
theorem FewR.new (R : RgN) : FewR R ⟨0, fun _ => 0, fun _ _ _ => 0⟩ 0 := by
  refine ⟨fun s => ?_, fun i _ => ?_⟩
  · have key : ∀ j, rall R (fun _ _ _ => 0) s j = 0 := by
      intro j
      induction j with
      | zero => rfl
      | succ j ih =>
        show rall R (fun _ _ _ => 0) s j + Sk.leastR (fun _ _ => 0) R.P s (R.k - 1) = 0
        rw [ih, least_zero]; rfl
    exact Int.le_of_eq (key R.n)
  · show (0 : Int) ≤ 0 / (R.s : Int)
    rw [Int.zero_ediv]; exact Int.le_refl _
theorem FewR.to {T t : Int} (h : FewR R σ T) (hs : 1 ≤ R.s) (ht : σ.t ≤ t) : FewR R ⟨t, σ.num, σ.F⟩ T :=
  ⟨h.all, fun i hi => Int.le_trans (h.now i hi) (Int.ediv_le_ediv (by omega) ht)⟩
theorem FewR.add {T c : Int} {w : World} (h : FewR R σ T) (hg : RgAt w R σ) (ky : ByteArray) (hc : 0 ≤ c ∧ c ≤ 9223372036854775807) : FewR R (σ.add R ky c) (T + c) := by
  have hpl := hg.pl_lt.1
  have hok := hg.ok (σ.pl R) hpl
  refine ⟨fun s => ?_, fun i hi => ?_⟩
  · have hbase : Sk.leastR (if σ.num (σ.pl R) = σ.now R then σ.F (σ.pl R) else fun _ _ => 0) R.P s (R.k - 1) ≤ Sk.leastR (σ.F (σ.pl R)) R.P s (R.k - 1) := by
      split
      · exact Int.le_refl _
      · rw [least_zero]; exact (hok.least R.P s (R.k - 1)).1
    have hok2 : Sk.okC (if σ.num (σ.pl R) = σ.now R then σ.F (σ.pl R) else fun _ _ => 0) := by
      split
      · exact hok
      · intro _ _; show (0 : Int) ≤ 0 ∧ (0 : Int) ≤ 9223372036854775807; omega
    have h1 := least_add_le hok2 R.P R.k ky s hc (R.k - 1)
    have h2 := rall_upd (R := R) (s := s) (F := σ.F) (i := σ.pl R) hc.1 (Int.le_trans h1 (Int.add_le_add_right hbase c)) R.n
    have h3 := h.all s
    show rall R (updN σ.F (σ.pl R) _) s R.n ≤ T + c
    omega
  · show updN σ.num (σ.pl R) (σ.now R) i ≤ σ.now R
    by_cases e : i = σ.pl R
    · rw [e, updN_self]; exact Int.le_refl _
    · rw [updN_ne _ _ e]; exact h.now i hi
end
end Go.Proofs.Ythfaeapodfgldaa
