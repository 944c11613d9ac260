/- Configurations as bytes: plain mathematics. -/
import Derived.Test.YtfpknklnbgmflaaCfU
namespace Go.Proofs.Ytfpknklnbgmflaa
set_option linter.unusedSimpArgs false
set_option linter.unusedVariables false
open Go.ChangeShapes Go.WideShapes Go.ChangeAt Go.RowKit Go.Deep
theorem flat8_nums {y : List Int} (h : byt y) : ∀ m, 8 * m ≤ y.length → flat8 ((List.range m).map fun j => num8 (y.drop (8 * j))) = y.take (8 * m)
  | 0, _ => rfl
  | m + 1, hm => by
    rw [List.range_succ, List.map_append, flat8_app, flat8_nums h m (by omega)]
    show _ ++ (be 8 (num8 (y.drop (8 * m))) ++ []) = _
    rw [List.append_nil, be_num8 (byt_drop h _) (by rw [List.length_drop]; omega), show 8 * (m + 1) = 8 * m + 8 by omega, List.take_add]
theorem ruL_of {y : List Int} (h : ruOk y = true) : ruL (ruZof y) = (List.range 9).map fun j => num8 (y.drop (8 * j)) := by
  have e : (if (num8 (y.drop 64) == 1) = true then (1 : Int) else 0) = num8 (y.drop 64) := by
    unfold ruOk at h
    simp only [Bool.or_eq_true, beq_iff_eq] at h
    rcases h with h | h <;> rw [h] <;> rfl
  show [num8 y, num8 (y.drop 8), num8 (y.drop 16), num8 (y.drop 24), num8 (y.drop 32), num8 (y.drop 40), num8 (y.drop 48), num8 (y.drop 56), (if (num8 (y.drop 64) == 1) = true then (1 : Int) else 0)] = _
  rw [e]
  rfl
theorem flat8_of {y : List Int} (hb : byt y) (hl : 72 ≤ y.length) (h : ruOk y = true) : flat8 (ruL (ruZof y)) = y.take 72 := by
  rw [ruL_of h, flat8_nums hb 9 (by omega)]
theorem rulesZ_of {z : List Int} (hb : byt z) {k : Nat} (hl : z.length = 32 + 72 * k) (h : ∀ i, i < k → ruOk (z.drop (32 + 72 * i)) = true) : ∀ i, i ≤ k → rulesZ (lstR z i) = (z.drop 32).take (72 * i)
  | 0, _ => rfl
  | i + 1, hi => by
    rw [lstR_succ, rulesZ_app, rulesZ_of hb hl h i (by omega)]
    show _ ++ (flat8 (ruL (ruZof (z.drop (32 + 72 * i)))) ++ []) = _
    rw [List.append_nil, flat8_of (byt_drop hb _) (by rw [List.length_drop]; omega) (h i (by omega)), show 72 * (i + 1) = 72 * i + 72 by omega, List.take_add, List.drop_drop]
theorem cfg_of {z : List Int} (hb : byt z) {k : Nat} (h : DecOK z k) : cfgZ (num8 z) (num8 (z.drop 8)) (num8 (z.drop 16)) (lstR z k) = z := by
  obtain ⟨h1, h2, h3, h4, h5⟩ := h
  unfold cfgZ
  rw [lstR_length, ← h1]
  have e : flat8 [num8 z, num8 (z.drop 8), num8 (z.drop 16), num8 (z.drop 24)] = z.take 32 := flat8_nums hb 4 (by omega)
  rw [e, rulesZ_of hb h3 h4 k (Nat.le_refl _), List.take_of_length_le (l := z.drop 32) (by rw [List.length_drop]; omega), List.take_append_drop]
theorem flat_num (y : List Int) : ∀ (l : List Int) (j : Nat), j < l.length → (∀ x ∈ l, i64P x) → num8 ((flat8 l ++ y).drop (8 * j)) = l.getD j 0
  | [], j, h, _ => by simp at h
  | x :: l, 0, _, hx => by
    rw [flat8, List.append_assoc]
    exact num8_be x _ (hx x (by simp))
  | x :: l, j + 1, h, hx => by
    rw [show 8 * (j + 1) = 8 + 8 * j by omega, ← List.drop_drop, flat8, List.append_assoc, List.drop_left' (be_length 8 x), flat_num y l j (by simpa using h) (fun u hu => hx u (by simp [hu]))]
    rfl
theorem ruZof_flat (r : RuZ) (y : List Int) (h : r.ok) : ruZof (flat8 (ruL r) ++ y) = r ∧ ruOk (flat8 (ruL r) ++ y) = true := by
  have f := fun j (hj : j < 9) => flat_num y (ruL r) j hj (ruL_i64 h)
  have f0 := f 0 (by omega)
  have f1 := f 1 (by omega)
  have f2 := f 2 (by omega)
  have f3 := f 3 (by omega)
  have f4 := f 4 (by omega)
  have f5 := f 5 (by omega)
  have f6 := f 6 (by omega)
  have f7 := f 7 (by omega)
  have f8 := f 8 (by omega)
  simp only [Nat.reduceMul, List.drop_zero] at f0 f1 f2 f3 f4 f5 f6 f7 f8
  unfold ruZof ruOk
  rw [f0, f1, f2, f3, f4, f5, f6, f7, f8]
  obtain ⟨L, W, B, Sl, Ce, Ro, Wi, Tr, sm⟩ := r
  cases sm <;> exact ⟨rfl, rfl⟩
theorem rulesZ_drop : ∀ (rs : List RuZ) (i : Nat), (rulesZ rs).drop (72 * i) = rulesZ (rs.drop i)
  | [], i => by simp [rulesZ]
  | r :: l, 0 => rfl
  | r :: l, i + 1 => by
    have hl : (flat8 (ruL r)).length = 72 := by rw [flat8_length]; rfl
    rw [show 72 * (i + 1) = 72 + 72 * i by omega, ← List.drop_drop, rulesZ, List.drop_left' hl, rulesZ_drop l i]
    rfl
/-- a configuration that may be comes back. -/
theorem dec_cfg {Bu Co Ou : Int} {rs : List RuZ} (hb3 : i64P Bu ∧ i64P Co ∧ i64P Ou) (hok : ∀ r ∈ rs, r.ok) (h : rightZ Bu Co Ou rs) :
    num8 (cfgZ Bu Co Ou rs) = Bu ∧ num8 ((cfgZ Bu Co Ou rs).drop 8) = Co ∧ num8 ((cfgZ Bu Co Ou rs).drop 16) = Ou ∧ lstR (cfgZ Bu Co Ou rs) rs.length = rs ∧ DecOK (cfgZ Bu Co Ou rs) rs.length := by
  have hl := h.2.1
  have hk : 1 ≤ rs.length ∧ rs.length ≤ 8 := by clear h hb3 hok; omega
  have hx : ∀ x ∈ [Bu, Co, Ou, (rs.length : Int)], i64P x := by
    intro x hx
    simp only [List.mem_cons, List.not_mem_nil, or_false] at hx
    rcases hx with rfl | rfl | rfl | rfl
    · exact hb3.1
    · exact hb3.2.1
    · exact hb3.2.2
    · unfold i64P; omega
  have f := fun j (hj : j < 4) => flat_num (rulesZ rs) [Bu, Co, Ou, (rs.length : Int)] j hj hx
  have f0 := f 0 (by omega)
  have f1 := f 1 (by omega)
  have f2 := f 2 (by omega)
  have f3 := f 3 (by omega)
  simp only [Nat.reduceMul, List.drop_zero] at f0 f1 f2 f3
  have g0 : num8 (cfgZ Bu Co Ou rs) = Bu := f0
  have g1 : num8 ((cfgZ Bu Co Ou rs).drop 8) = Co := f1
  have g2 : num8 ((cfgZ Bu Co Ou rs).drop 16) = Ou := f2
  have g3 : num8 ((cfgZ Bu Co Ou rs).drop 24) = (rs.length : Int) := f3
  have hd : ∀ i, i < rs.length → ∃ r y, rs[i]? = some r ∧ r.ok ∧ (cfgZ Bu Co Ou rs).drop (32 + 72 * i) = flat8 (ruL r) ++ y := by
    intro i hi
    refine ⟨rs[i], rulesZ (rs.drop (i + 1)), List.getElem?_eq_getElem hi, hok _ (List.getElem_mem hi), ?_⟩
    have h32 : (flat8 [Bu, Co, Ou, (rs.length : Int)]).length = 32 := by rw [flat8_length]; rfl
    rw [← List.drop_drop]
    unfold cfgZ
    rw [List.drop_left' h32, rulesZ_drop, List.drop_eq_getElem_cons hi, rulesZ]
  have hlst : lstR (cfgZ Bu Co Ou rs) rs.length = rs := by
    refine List.ext_getElem? (fun i => ?_)
    by_cases hi : i < rs.length
    · obtain ⟨r, y, h1, h2, h3⟩ := hd i hi
      unfold lstR
      rw [List.getElem?_map, List.getElem?_range hi, Option.map_some, h3, (ruZof_flat r y h2).1, h1]
    · have e1 : (lstR (cfgZ Bu Co Ou rs) rs.length)[i]? = none := List.getElem?_eq_none (by rw [lstR_length]; exact Nat.le_of_not_lt hi)
      have e2 : rs[i]? = none := List.getElem?_eq_none (Nat.le_of_not_lt hi)
      rw [e1, e2]
  refine ⟨g0, g1, g2, hlst, g3, hk, cfgZ_length _ _ _ _, fun i hi => ?_, ?_⟩
  · obtain ⟨r, y, h1, h2, h3⟩ := hd i hi
    rw [h3]
    exact (ruZof_flat r y h2).2
  · rw [g0, g1, g2, hlst]; exact h
theorem dec_uniq {z : List Int} {k k' : Nat} (h : DecOK z k) (h' : DecOK z k') : k = k' := by
  have h1 := h.1
  have h2 := h'.1
  omega
end Go.Proofs.Ytfpknklnbgmflaa
