/- What a ring tells is never less than what was added in the window. -/
import Derived.Test.YthfaeapodfgldaaRgX
namespace Go.Proofs.Ythfaeapodfgldaa
set_option linter.unusedSimpArgs false
set_option linter.unusedVariables false
open Go.ChangeShapes Go.WideShapes Go.ChangeAt Go.RowKit
open Ar (inR)
/-- what was added to a key in the slots from one on. -/
def psum (S : Nat) (s : ByteArray) (a : Int) : List (Int × Int × ByteArray) → Int
  | [] => 0
  | x :: l => psum S s a l + (if x.2.2 = s ∧ a ≤ x.1 / (S : Int) then x.2.1 else 0)
theorem psum_app (S : Nat) (s : ByteArray) (a : Int) (x : Int × Int × ByteArray) : ∀ l, psum S s a (l ++ [x]) = psum S s a l + (if x.2.2 = s ∧ a ≤ x.1 / (S : Int) then x.2.1 else 0)
  | [] => by simp [psum]
  | y :: l => by
    show psum S s a (l ++ [x]) + _ = psum S s a l + _ + _
    rw [psum_app S s a x l]
    omega
/-- what was added to a key later than a time. -/
def wsum (s : ByteArray) (z : Int) : List (Int × Int × ByteArray) → Int
  | [] => 0
  | x :: l => wsum s z l + (if x.2.2 = s ∧ z < x.1 then x.2.1 else 0)
theorem wsum_app (s : ByteArray) (z : Int) (x : Int × Int × ByteArray) : ∀ l, wsum s z (l ++ [x]) = wsum s z l + (if x.2.2 = s ∧ z < x.1 then x.2.1 else 0)
  | [] => by simp [wsum]
  | y :: l => by
    show wsum s z (l ++ [x]) + _ = wsum s z l + _ + _
    rw [wsum_app s z x l]
    omega
theorem wsum_in (s : ByteArray) (z : Int) : ∀ l : List (Int × Int × ByteArray), (∀ x ∈ l, 0 ≤ x.2.1 ∧ x.2.1 ≤ 255) → 0 ≤ wsum s z l ∧ wsum s z l ≤ 255 * (l.length : Int)
  | [], _ => by simp [wsum]
  | x :: l, h => by
    have ih := wsum_in s z l (fun y hy => h y (List.mem_cons_of_mem _ hy))
    have hx := h x (List.mem_cons_self ..)
    rw [List.length_cons]
    unfold wsum
    split <;> omega
theorem wsum_take (s : ByteArray) (z : Int) {l : List (Int × Int × ByteArray)} {j : Nat} {x : Int × Int × ByteArray} (h : l[j]? = some x) : wsum s z (l.take (j + 1)) = wsum s z (l.take j) + (if x.2.2 = s ∧ z < x.1 then x.2.1 else 0) := by
  rw [List.take_add_one, h]
  exact wsum_app s z x _
theorem wsum_le_psum (S : Nat) (s : ByteArray) {a z : Int} (hz : ∀ t, z < t → a ≤ t / (S : Int)) : ∀ l : List (Int × Int × ByteArray), (∀ x ∈ l, 0 ≤ x.2.1 ∧ x.2.1 ≤ 255) → wsum s z l ≤ psum S s a l
  | [], _ => Int.le_refl _
  | x :: l, h => by
    have ih := wsum_le_psum S s hz l (fun y hy => h y (List.mem_cons_of_mem _ hy))
    have hx := h x (List.mem_cons_self ..)
    unfold wsum psum
    by_cases hc : x.2.2 = s ∧ z < x.1
    · rw [if_pos hc, if_pos ⟨hc.1, hz _ hc.2⟩]; omega
    · rw [if_neg hc]
      split <;> omega
/-- what the law knows of a ring and what was added to it. -/
structure OvR (R : RgN) (σ : RgS) (l : List (Int × Int × ByteArray)) : Prop where
  cs : ∀ x ∈ l, 0 ≤ x.2.1 ∧ x.2.1 ≤ 255
  le : ∀ s a, σ.now R - ((R.n : Int) - 1) ≤ a → psum R.s s a l ≤ rsum R σ s a (σ.now R) R.n
  pl : ∀ i, i < R.n → σ.num i % (R.n : Int) = (i : Int) ∨ σ.F i = fun _ _ => 0
theorem OvR.new (R : RgN) : OvR R ⟨0, fun _ => 0, fun _ _ _ => 0⟩ [] := by
  refine ⟨(fun _ h => by cases h), fun s a _ => ?_, fun _ _ => Or.inr rfl⟩
  exact (rsum_in (R := R) (σ := ⟨0, fun _ => 0, fun _ _ _ => 0⟩) (s := s) (j := R.n) (fun _ _ _ _ => ⟨Int.le_refl _, by show (0 : Int) ≤ _; omega⟩) a _).1
section
variable {R : RgN} {σ : RgS} {l : List (Int × Int × ByteArray)} {T : Int}
theorem OvR.to {t : Int} (h : OvR R σ l) (hf : FewR R σ T) (hs : 1 ≤ R.s) (ht : σ.t ≤ t) : OvR R ⟨t, σ.num, σ.F⟩ l := by
  have h2 : σ.now R ≤ t / (R.s : Int) := Int.ediv_le_ediv (by omega) ht
  refine ⟨h.cs, fun s a ha => ?_, h.pl⟩
  have ha' : t / (R.s : Int) - ((R.n : Int) - 1) ≤ a := ha
  show psum R.s s a l ≤ rsum R ⟨t, σ.num, σ.F⟩ s a (t / (R.s : Int)) R.n
  rw [rsum_t, rsum_hi h2 R.n hf.now]
  exact h.le s a (by omega)
theorem mod_apart {x y n : Int} (hn : 0 < n) (h : x % n = y % n) (hl : x < y) : x ≤ y - n := by
  have h1 := Int.mul_ediv_add_emod x n
  have h2 := Int.mul_ediv_add_emod y n
  have h3 : x / n < y / n := by
    by_cases hc : x / n < y / n
    · exact hc
    · have := Int.mul_le_mul_of_nonneg_left (Int.not_lt.1 hc) (Int.le_of_lt hn)
      omega
  have h4 : n * (x / n + 1) ≤ n * (y / n) := Int.mul_le_mul_of_nonneg_left (by omega) (Int.le_of_lt hn)
  rw [Int.mul_add] at h4
  omega
theorem rsum_pt {τ : RgS} {s : ByteArray} {a b : Int} {p : Nat} {e : Int} (h1 : ∀ i, i ≠ p → τ.num i = σ.num i ∧ τ.F i = σ.F i)
    (h2 : (if a ≤ σ.num p ∧ σ.num p ≤ b then Sk.leastR (σ.F p) R.P s (R.k - 1) else 0) + e ≤ (if a ≤ τ.num p ∧ τ.num p ≤ b then Sk.leastR (τ.F p) R.P s (R.k - 1) else 0)) :
    ∀ j, rsum R σ s a b j + (if p < j then e else 0) ≤ rsum R τ s a b j
  | 0 => by rw [if_neg (by omega)]; exact Int.le_refl _
  | j + 1 => by
    have ih := rsum_pt h1 h2 j
    show rsum R σ s a b j + (if a ≤ σ.num j ∧ σ.num j ≤ b then Sk.leastR (σ.F j) R.P s (R.k - 1) else 0) + _ ≤ rsum R τ s a b j + (if a ≤ τ.num j ∧ τ.num j ≤ b then Sk.leastR (τ.F j) R.P s (R.k - 1) else 0)
    by_cases hp : j = p
    · subst hp
      rw [if_neg (by omega)] at ih
      rw [if_pos (by omega : j < j + 1)]
      omega
    · obtain ⟨q1, q2⟩ := h1 j hp
      rw [q1, q2]
      have hc : (if p < j + 1 then e else 0) = (if p < j then e else 0) := by
        by_cases hpj : p < j
        · rw [if_pos hpj, if_pos (by omega)]
        · rw [if_neg hpj, if_neg (by omega)]
      rw [hc]
      omega
theorem OvR.add {w : World} (h : OvR R σ l) (hf : FewR R σ T) (hg : RgAt w R σ) (hk : 1 ≤ R.k) (ky : ByteArray) {c : Int} (hc : 0 ≤ c ∧ c ≤ 255) (hT : T ≤ 9223372036854775000) : OvR R (σ.add R ky c) (l ++ [(σ.t, c, ky)]) := by
  obtain ⟨hpl, hpm⟩ := hg.pl_lt
  have hok := hg.ok (σ.pl R) hpl
  have hn := hg.bd.1
  refine ⟨fun x hx => ?_, fun s a ha => ?_, fun i hi => ?_⟩
  · rcases List.mem_append.1 hx with hx | hx
    · exact h.cs x hx
    · rw [List.mem_singleton.1 hx]; exact hc
  · have ha' : σ.now R - ((R.n : Int) - 1) ≤ a := ha
    have h0 := h.le s a ha'
    rw [psum_app]
    show _ ≤ rsum R (σ.add R ky c) s a (σ.now R) R.n
    have hpt := rsum_pt (R := R) (σ := σ) (τ := σ.add R ky c) (s := s) (a := a) (b := σ.now R) (p := σ.pl R) (e := if ky = s ∧ a ≤ σ.now R then c else 0)
      (fun i hi => ⟨updN_ne _ _ hi, updN_ne _ _ hi⟩) (by
        show _ ≤ (if a ≤ updN σ.num (σ.pl R) (σ.now R) (σ.pl R) ∧ updN σ.num (σ.pl R) (σ.now R) (σ.pl R) ≤ σ.now R then Sk.leastR (updN σ.F (σ.pl R) _ (σ.pl R)) R.P s (R.k - 1) else 0)
        rw [updN_self, updN_self]
        by_cases hcase : a ≤ σ.now R
        · refine Int.le_trans ?_ (Int.le_of_eq (if_pos ⟨hcase, Int.le_refl _⟩).symm)
          have hbase : Sk.okC (if σ.num (σ.pl R) = σ.now R then σ.F (σ.pl R) else fun _ _ => 0) := by
            split
            · exact hok
            · intro _ _; show (0 : Int) ≤ 0 ∧ (0 : Int) ≤ 9223372036854775807; omega
          have hterm : (if a ≤ σ.num (σ.pl R) ∧ σ.num (σ.pl R) ≤ σ.now R then Sk.leastR (σ.F (σ.pl R)) R.P s (R.k - 1) else 0) ≤ Sk.leastR (if σ.num (σ.pl R) = σ.now R then σ.F (σ.pl R) else fun _ _ => 0) R.P s (R.k - 1) := by
            by_cases he : σ.num (σ.pl R) = σ.now R
            · rw [if_pos he, if_pos ⟨by omega, by omega⟩]; exact Int.le_refl _
            · rw [if_neg he, least_zero]
              by_cases hw : a ≤ σ.num (σ.pl R) ∧ σ.num (σ.pl R) ≤ σ.now R
              · rw [if_pos hw]
                rcases h.pl (σ.pl R) hpl with hm | hz
                · have := mod_apart (x := σ.num (σ.pl R)) (y := σ.now R) (n := (R.n : Int)) (by omega) (by rw [hm, hpm]) (by omega)
                  omega
                · rw [hz, least_zero]; exact Int.le_refl _
              · rw [if_neg hw]; exact Int.le_refl _
          have hle : Sk.leastR (if σ.num (σ.pl R) = σ.now R then σ.F (σ.pl R) else fun _ _ => 0) R.P s (R.k - 1) ≤ T := by
            have hr := hf.all s
            have key : ∀ j, (∀ q, q < j → Sk.okC (σ.F q)) → ∀ q, q < j → Sk.leastR (σ.F q) R.P s (R.k - 1) ≤ rall R σ.F s j := by
              intro j
              induction j with
              | zero => intro _ q hq; omega
              | succ j ih =>
                intro hj q hq
                have p1 := rall_pos (R := R) (s := s) (F := σ.F) j (fun q hq => hj q (by omega))
                have p2 := (hj j (by omega)).least R.P s (R.k - 1)
                show _ ≤ rall R σ.F s j + Sk.leastR (σ.F j) R.P s (R.k - 1)
                by_cases e : q = j
                · subst e; omega
                · have := ih (fun q hq => hj q (by omega)) q (by omega); omega
            have hrp := rall_pos (R := R) (s := s) (F := σ.F) R.n hg.ok
            split
            · exact Int.le_trans (key R.n hg.ok _ hpl) hr
            · rw [least_zero]; omega
          have hmono : ∀ z, Sk.leastR (if σ.num (σ.pl R) = σ.now R then σ.F (σ.pl R) else fun _ _ => 0) R.P z (R.k - 1) ≤ Sk.leastR (Sk.add (if σ.num (σ.pl R) = σ.now R then σ.F (σ.pl R) else fun _ _ => 0) R.P R.k ky c) R.P z (R.k - 1) := fun z => Sk.least_mono (Sk.add_ge _ R.P R.k ky c) R.P z (R.k - 1)
          have hm := hmono s
          by_cases hks : ky = s
          · subst hks
            rw [if_pos (show ky = ky ∧ a ≤ σ.now R from ⟨rfl, hcase⟩)]
            by_cases hc0 : c = 0
            · subst hc0; omega
            · rw [Sk.add_self hbase R.P hk ky (by omega), clamp_in (by have := hbase.least R.P ky (R.k - 1); omega)]
              omega
          · rw [if_neg (show ¬ (ky = s ∧ a ≤ σ.now R) from fun hh => hks hh.1)]
            omega
        · rw [if_neg (show ¬ (ky = s ∧ a ≤ σ.now R) from fun hh => hcase hh.2), if_neg (show ¬ (a ≤ σ.now R ∧ σ.now R ≤ σ.now R) from fun hh => hcase hh.1), if_neg (show ¬ (a ≤ σ.num (σ.pl R) ∧ σ.num (σ.pl R) ≤ σ.now R) from fun hh => hcase (Int.le_trans hh.1 hh.2))]
          exact Int.le_refl _) R.n
    rw [if_pos hpl] at hpt
    have e : (if ky = s ∧ a ≤ σ.t / (R.s : Int) then c else 0) = (if ky = s ∧ a ≤ σ.now R then c else 0) := rfl
    show psum R.s s a l + (if ky = s ∧ a ≤ σ.t / (R.s : Int) then c else 0) ≤ _
    rw [e]
    omega
  · show updN σ.num (σ.pl R) (σ.now R) i % (R.n : Int) = (i : Int) ∨ updN σ.F (σ.pl R) _ i = fun _ _ => 0
    by_cases e : i = σ.pl R
    · left; rw [e, updN_self]; exact hpm
    · rw [updN_ne _ _ e, updN_ne _ _ e]; exact h.pl i hi
/-- no key is told less than it had in the window that ends now. -/
theorem est_over {w : World} (h : OvR R σ l) (hf : FewR R σ T) (hg : RgAt w R σ) (hT : T ≤ 9223372036854775807) (s : ByteArray) {z : Int} (hz : z = σ.t - ((R.s : Int) * ((R.n : Int) - 1) - (if R.sm then (R.s : Int) else 0))) : wsum s z l ≤ estZ R σ s := by
  have hn := hg.bd.1
  have hs := hg.bd.2.1
  obtain ⟨p1, p2, p3, p4⟩ := est_parts (s := s) hg hf hT
  cases hsm : R.sm with
  | true =>
    rw [hsm, if_pos rfl] at hz
    have hz1 : z = σ.t + (-(((R.n : Int) - 1) - 1)) * (R.s : Int) := by rw [hz, Int.neg_mul, Int.sub_mul, Int.one_mul, Int.mul_comm]; omega
    have h1 := h.le s (σ.now R - ((R.n : Int) - 1) + 1) (by omega)
    have h2 := wsum_le_psum R.s s (a := σ.now R - ((R.n : Int) - 1) + 1) (z := z) (fun t ht => by
      have q1 : z / (R.s : Int) ≤ t / (R.s : Int) := Int.ediv_le_ediv (by omega) (by omega)
      rw [hz1, Int.add_mul_ediv_right _ _ (by omega)] at q1
      show σ.t / (R.s : Int) - ((R.n : Int) - 1) + 1 ≤ _
      omega) l h.cs
    omega
  | false =>
    rw [hsm] at hz p2
    have hz1 : z = σ.t + (-((R.n : Int) - 1)) * (R.s : Int) := by rw [hz, Int.neg_mul, Int.mul_comm, if_neg (by decide)]; omega
    rw [if_neg (by decide)] at p2
    have sp := rsum_split (R := R) (σ := σ) (s := s) (a := σ.now R - ((R.n : Int) - 1)) (b := σ.now R) (c := σ.now R - ((R.n : Int) - 1)) (by omega) (by omega) R.n
    have h1 := h.le s (σ.now R - ((R.n : Int) - 1)) (by omega)
    have h2 := wsum_le_psum R.s s (a := σ.now R - ((R.n : Int) - 1)) (z := z) (fun t ht => by
      have q1 : z / (R.s : Int) ≤ t / (R.s : Int) := Int.ediv_le_ediv (by omega) (by omega)
      rw [hz1, Int.add_mul_ediv_right _ _ (by omega)] at q1
      show σ.t / (R.s : Int) - ((R.n : Int) - 1) ≤ _
      omega) l h.cs
    omega
end
end Go.Proofs.Ythfaeapodfgldaa
