/- What was let through in a window: plain mathematics. -/
namespace Go.Proofs.Ytfegoehiopkcnaa
set_option linter.unusedSimpArgs false
set_option linter.unusedVariables false
/-- what was let through behind a time. -/
def sumGt (T : Int) : List (Int × Int) → Int
  | [] => 0
  | x :: r => (if T < x.1 then x.2 else 0) + sumGt T r
/-- what was let through ahead of a time. -/
def sumLt (Z : Int) : List (Int × Int) → Int
  | [] => 0
  | x :: r => (if x.1 < Z then x.2 else 0) + sumLt Z r
theorem sumGt_snoc (T : Int) (x : Int × Int) : ∀ l, sumGt T (l ++ [x]) = sumGt T l + (if T < x.1 then x.2 else 0)
  | [] => by simp [sumGt]
  | y :: r => by rw [List.cons_append, sumGt, sumGt, sumGt_snoc T x r]; omega
theorem sumLt_snoc (Z : Int) (x : Int × Int) : ∀ l, sumLt Z (l ++ [x]) = sumLt Z l + (if x.1 < Z then x.2 else 0)
  | [] => by simp [sumLt]
  | y :: r => by rw [List.cons_append, sumLt, sumLt, sumLt_snoc Z x r]; omega
def small (l : List (Int × Int)) : Prop := ∀ x ∈ l, 1 ≤ x.2 ∧ x.2 ≤ 32
theorem sumGt_bd (T : Int) : ∀ l, small l → 0 ≤ sumGt T l ∧ sumGt T l ≤ 32 * l.length
  | [], _ => by simp [sumGt]
  | x :: r, h => by
    have h1 := h x (List.mem_cons_self)
    have h2 := sumGt_bd T r (fun y hy => h y (List.mem_cons_of_mem _ hy))
    rw [sumGt, List.length_cons]
    split <;> omega
theorem sumLt_bd (Z : Int) : ∀ l, small l → 0 ≤ sumLt Z l ∧ sumLt Z l ≤ 32 * l.length
  | [], _ => by simp [sumLt]
  | x :: r, h => by
    have h1 := h x (List.mem_cons_self)
    have h2 := sumLt_bd Z r (fun y hy => h y (List.mem_cons_of_mem _ hy))
    rw [sumLt, List.length_cons]
    split <;> omega
theorem small_take {l : List (Int × Int)} (h : small l) (n : Nat) : small (l.take n) := fun x hx => h x (List.mem_of_mem_take hx)
theorem sumGt_zero (T : Int) : ∀ l, (∀ x ∈ l, x.1 ≤ T) → sumGt T l = 0
  | [], _ => rfl
  | x :: r, h => by
    have h1 := h x (List.mem_cons_self)
    rw [sumGt, sumGt_zero T r (fun y hy => h y (List.mem_cons_of_mem _ hy)), if_neg (by omega)]; rfl
/-- what a full-time stands for: what was let through behind any time took that much of it. -/
structure Taken (F t U : Int) (l : List (Int × Int)) : Prop where
  sm : small l
  le : ∀ x ∈ l, x.1 ≤ t
  up : ∀ T, 0 < sumGt T l → T + 1 + sumGt T l * U ≤ F
theorem taken_nil (F t U : Int) : Taken F t U [] := ⟨(fun x hx => by cases hx), (fun x hx => by cases hx), (fun T h => by simp [sumGt] at h)⟩
theorem Taken.later {F t U : Int} {l : List (Int × Int)} (h : Taken F t U l) {t' : Int} (ht : t ≤ t') : Taken F t' U l := ⟨h.sm, fun x hx => Int.le_trans (h.le x hx) ht, h.up⟩
theorem Taken.take {F t U : Int} {l : List (Int × Int)} (h : Taken F t U l) (hU : 1 ≤ U) {c : Int} (hc : 1 ≤ c ∧ c ≤ 32) {t' : Int} (ht : t ≤ t') : Taken (max F t' + c * U) t' U (l ++ [(t', c)]) := by
  have h1 := h.later ht
  have hcU : 0 ≤ c * U := Int.mul_nonneg (by omega) (by omega)
  refine ⟨fun x hx => ?_, fun x hx => ?_, fun T hT => ?_⟩
  · rcases List.mem_append.1 hx with g | g
    · exact h.sm x g
    · rw [List.mem_singleton.1 g]; exact hc
  · rcases List.mem_append.1 hx with g | g
    · exact h1.le x g
    · rw [List.mem_singleton.1 g]; exact Int.le_refl _
  · rw [sumGt_snoc] at hT ⊢
    have hb := sumGt_bd T l h.sm
    by_cases hg : T < t'
    · rw [if_pos hg] at hT ⊢
      show T + 1 + (sumGt T l + c) * U ≤ _
      rw [Int.add_mul]
      rcases Int.lt_or_le 0 (sumGt T l) with g | g
      · have := h.up T g; omega
      · have : sumGt T l = 0 := by omega
        rw [this]; omega
    · rw [if_neg hg] at hT ⊢
      have : sumGt T l = 0 := sumGt_zero T l (fun x hx => by have := h1.le x hx; omega)
      omega
/-- no more than the limit in a window. -/
theorem Taken.limit {F t U B L W : Int} {l : List (Int × Int)} (h : Taken F t U l) (hU : 1 ≤ U) (hF : F ≤ t + B * U) (hW : W ≤ U * (L + 1 - B)) (hL : 0 ≤ L) : sumGt (t - W) l ≤ L := by
  have hb := sumGt_bd (t - W) l h.sm
  rcases Int.lt_or_le 0 (sumGt (t - W) l) with g | g
  · have h1 := h.up _ g
    rcases Int.lt_or_le L (sumGt (t - W) l) with g2 | g2
    · have h2 : (L + 1) * U ≤ sumGt (t - W) l * U := Int.mul_le_mul_of_nonneg_right (by omega) (by omega)
      have h3 : U * (L + 1 - B) = (L + 1) * U - B * U := by rw [Int.mul_sub, Int.mul_comm U, Int.mul_comm U]
      omega
    · exact g2
  · omega
end Go.Proofs.Ytfegoehiopkcnaa
