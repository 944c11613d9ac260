/- The laws of layer 9 (cell), walked: the bounds. -/
import Derived.Test.YtfegoehiopkcnaaCellP
import Derived.Test.YtfegoehiopkcnaaCellI
namespace Go.Proofs.Ytfegoehiopkcnaa
set_option linter.unusedSimpArgs false
set_option linter.unusedVariables false
open Go.ChangeShapes Go.WideShapes Go.ChangeAt Go.RowKit
open Ar (inR)
theorem infoCall : (Try.prog.info? 40).map (fun i => (i.zero, i.size, i.bytes)) = some (some (.agg #[.int .i64 0, .int .i64 0]), 2, 16) := by kernel_rfl
theorem infoLet2 : (Try.prog.info? 53).map (fun i => (i.zero, i.size, i.bytes)) = some (some (.agg #[.int .i64 0, .int .i64 0]), 2, 16) := by kernel_rfl
/-- the pairs of two rows of numbers. -/
def pairs (x y : Nat → Int) : Nat → List (Int × Int)
  | 0 => []
  | n + 1 => pairs x y n ++ [(x n, y n)]
theorem pairs_length (x y : Nat → Int) : ∀ n, (pairs x y n).length = n
  | 0 => rfl
  | n + 1 => by rw [pairs, List.length_append, pairs_length x y n]; rfl
theorem pairs_at (x y : Nat → Int) : ∀ n i (h : i < (pairs x y n).length), (pairs x y n)[i] = (x i, y i)
  | 0, i, h => by simp [pairs] at h
  | n + 1, i, h => by
    rw [pairs_length] at h
    by_cases hi : i < n
    · have := pairs_at x y n i (by rw [pairs_length]; exact hi)
      simp only [pairs]
      rw [List.getElem_append_left (by rw [pairs_length]; exact hi)]
      exact this
    · have : i = n := by omega
      subst this
      simp only [pairs]
      rw [List.getElem_append_right (by rw [pairs_length]; omega)]
      simp [pairs_length]
theorem run_cat0 {w : World} {A : Option Addr} {n c c' : Nat} {ty : TypeId} {x y : Nat → Int} (h : RdP w A n c x y) (hm : n ≤ 1000) :
    ∃ v w', (Builtin.append_ #[25, 25] ty #[.slice none 0 0, .slice A n c']).run Try.prog w = .ok v w' ∧ w'.ownsRow w.heap.size 40 2 v n (cells2 (pairs x y n)) ∧ w.grownBy w' none := by
  obtain ⟨i0, hi0, hz0, hz1, hz2⟩ := info_parts infoCall
  have ht : Try.prog.underlying 25 = some (.slice 40) := by rfl
  rcases Nat.eq_zero_or_pos n with h0 | h0
  · subst h0
    refine ⟨.slice none 0 0, w, ?_, ⟨rfl, Or.inl ⟨rfl, rfl⟩⟩, ⟨rfl, rfl, rfl, Nat.le_refl _, fun _ _ _ => rfl⟩⟩
    cases A <;> simp [Builtin.append_, run_underlying ht, sizeOf, typeInfo, hi0, Builtin.lenOf, Builtin.firstCells, loadCells, loadCellsFrom]
  · obtain ⟨b, off, rfl, hlt, hcs⟩ := h.at_ h0
    have hl := pairs_length x y n
    obtain ⟨v', w', hr, h2, h3, h4⟩ := run_append_own_at (P := Try.prog) w w.heap.size 25 ty 40 i0 (.agg #[.int .i64 0, .int .i64 0]) 2 16 ht hi0 hz0 hz1 hz2 (by rfl) (by omega) (.slice none 0 0) 0 [] (World.ownsRow_nil _ _ _ _) ⟨b, off, none⟩ n c' (cells2 (pairs x y n)) (by rw [cells2_length, hl])
      (fun j u hj => by
        have hjl : j < n * 2 := by
          rcases Nat.lt_or_ge j (n * 2) with g | g
          · exact g
          · rw [List.getElem?_eq_none (by rw [cells2_length, hl]; exact g)] at hj; cases hj
        have e : ((⟨b, off, none⟩ : Addr).add j) = ⟨b, off + j, none⟩ := by simp [Addr.add]
        rw [e]
        obtain ⟨q, r, hr, rfl⟩ : ∃ q r, r < 2 ∧ j = q * 2 + r := ⟨j / 2, j % 2, by omega, by omega⟩
        have hq : q < n := by omega
        have h1 := cells2_at (pairs x y n) q (by rw [hl]; exact hq)
        rw [pairs_at] at h1
        have h2 := hcs q hq
        match r, hr with
        | 0, _ => rw [show off + (q * 2 + 0) = off + q * 2 by omega, h2.1, ← hj, show q * 2 + 0 = q * 2 by omega, h1.1]
        | 1, _ => rw [show off + (q * 2 + 1) = off + q * 2 + 1 by omega, h2.2, ← hj, h1.2])
      (fun u hu => by
        have : ∀ l : List (Int × Int), ∀ u ∈ cells2 l, u.oneCell' = true := by
          intro l
          induction l with
          | nil => intro u hu; cases hu
          | cons a r ih =>
            intro u hu
            rw [cells2] at hu
            rcases List.mem_cons.1 hu with rfl | hu
            · rfl
            · rcases List.mem_cons.1 hu with rfl | hu
              · rfl
              · exact ih u hu
        exact this _ u hu) (by unfold maxLen; omega) (by omega) (Nat.le_refl _)
    exact ⟨v', w', hr, by simpa using h2, h3⟩
theorem step_cat0 {w : World} {ops : Array Oper} {o : Oper} {a : Act} {K : Act → World → Prop} {Q : Exit → Act → World → Prop} {E : Prop} (hgd : o.guard = none) (s x' : Operand)
    (ho : o.op = .call { callee := .builtin .append, args := #[s, x'], argTypes := #[25, 25] }) (hs : a.eval s = .slice none 0 0) {A : Option Addr} {n c c' : Nat} {x y : Nat → Int} (hx : a.eval x' = .slice A n c')
    (h : RdP w A n c x y) (hm : n ≤ 1000)
    (hk : ∀ v w', w'.ownsRow w.heap.size 40 2 v n (cells2 (pairs x y n)) → w.grownBy w' none → K (a.put o.dst v) w') :
    if Region.wanted o (yielded ops a.tmps) = true then Oper.wp Try.prog o a w K Q else E := by
  have hw : Region.wanted o (yielded ops a.tmps) = true := by simp [Region.wanted, hgd]
  rw [if_pos hw]
  obtain ⟨v, w', hrun, h2, h3⟩ := run_cat0 (ty := o.type) (c' := c') h hm
  unfold Oper.wp execOp
  simp only [ho, resolve, invoke, builtin, Sem.run_bind, Sem.run_pure, Result.andThen_ok, List.map_toArray, List.map_cons, List.map_nil, hs, hx, hrun]
  exact hk v w' h2 h3
section
variable {F D U W B L t co : Int} {ls : List (Int × Int)}
/-- what a bound says, where nothing was carried over. -/
theorem bound_facts (h : Rng F 0 0 D U W B L t) (ht : Taken F t U ls) (hF : F ≤ t + B * U) (hW : W ≤ U * (L + 1 - B)) (hD : ∀ T, sumGt T ls ≤ D) :
    sumGt (t - W) ls ≤ boundP F 0 D U W L t ∧ boundP F 0 D U W L t ≤ L ∧ (idleP F 0 W t = true → boundP F 0 D U W L t = 0 ∧ roomP F 0 0 D U W B L t = B ∧ (1 ≤ co ∧ co ≤ B → waitP F 0 0 D U W B L t co = 0)) := by
  have h1 := ht.limit h.U.1 hF hW (by have := h.L; omega)
  have h2 := hD (t - W)
  have hL := h.L
  have hU := h.U
  refine ⟨?_, by unfold boundP; omega, fun hi => ?_⟩
  · unfold boundP
    by_cases hy : t < 0 + W
    · rw [if_pos hy]; omega
    · rw [if_neg hy]
      rcases Int.lt_or_le 0 (sumGt (t - W) ls) with g | g
      · have h3 := ht.up _ g
        have h4 := (le_tdiv (U := U) (k := sumGt (t - W) ls) (x := F - (t - W)) hU.1 (by omega)).2 (by omega)
        omega
      · omega
  · unfold idleP at hi
    simp only [Bool.and_eq_true, Bool.not_eq_true', decide_eq_false_iff_not, decide_eq_true_eq] at hi
    refine ⟨?_, room_full hU.1 h.B.1 (by have := h.W; omega) (by omega), fun hc => ?_⟩
    · unfold boundP
      rw [if_neg hi.1]
      have h4 : ¬ 1 ≤ (F - (t - W)).tdiv U := fun g => by
        have := (le_tdiv (U := U) (k := 1) (x := F - (t - W)) hU.1 (by omega)).1 g
        omega
      omega
    · have hk : 0 ≤ (B - co) * U := Int.mul_nonneg (by omega) (by omega)
      have hw := h.W
      unfold waitP
      generalize (B - co) * U = z at *
      rw [show max t (F - z) = t by omega, if_neg (by omega)]
      omega
/-- a new one's room and wait. -/
theorem new_facts (hU : 1 ≤ U) (hW : 1 ≤ W) (hB : 1 ≤ B ∧ B ≤ L) (hc : 1 ≤ co ∧ co ≤ B) : roomP t t 0 0 U W B L t = B ∧ waitP t t 0 0 U W B L t co = 0 := by
  constructor
  · have h1 : baseP t U B t = B := by
      have h2 := (base_iff (F := t) (B := B) (t := t) (k := B) hU hB.1).2 ⟨Int.le_refl _, by omega⟩
      have := base_hi (F := t) (U := U) (B := B) (t := t) (by omega)
      omega
    unfold roomP
    rw [if_pos (by omega), h1]
    unfold restP
    omega
  · have hk : 0 ≤ (B - co) * U := Int.mul_nonneg (by omega) (by omega)
    unfold waitP
    generalize (B - co) * U = z at *
    unfold restP
    rw [show max t (t - z) = t by omega, if_neg (by omega)]
    omega
end
end Go.Proofs.Ytfegoehiopkcnaa
