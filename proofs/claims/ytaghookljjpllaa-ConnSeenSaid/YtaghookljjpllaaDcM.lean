/- Streams of requests: plain mathematics. -/
import Derived.Test.YtaghookljjpllaaFrM
import Derived.Test.YtaghookljjpllaaFrK
namespace Go.Proofs.Ytaghookljjpllaa
set_option linter.unusedSimpArgs false
set_option linter.unusedVariables false
theorem parse_eq {z : List Int} {rules : Int} (hc : cleanZ z rules z.length) (c : Int) : parseZ (z ++ [c]) rules =
    if fltZ (z ++ [c]) rules z.length ≠ 0 then (req0, 0, fltZ (z ++ [c]) rules z.length) else if wholeAt (z ++ [c]) z.length then (reqZ (z ++ [c]), (z.length : Int) + 1, 0) else (req0, 0, 0) := by
  have hc' : cleanZ (z ++ [c]) rules z.length := clean_same (fun i hi => (getD_app hi).symm) hc
  have hl : z.length < (z ++ [c]).length := by simp
  split
  · rename_i h; exact parse_fault _ hl hc' h
  · rename_i h
    have h' : fltZ (z ++ [c]) rules z.length = 0 := by simpa using h
    split
    · rename_i hw; exact parse_whole _ hl hc' h' hw
    · rename_i hw
      refine parse_all (fun i hi => ?_)
      rw [List.length_append, List.length_singleton] at hi
      rcases Nat.lt_succ_iff_lt_or_eq.1 hi with g | rfl
      · exact hc' i g
      · exact ⟨h', hw⟩
/-- the bytes of the request that isn't whole, behind one more. -/
def nextZ (rules : Int) (z : List Int) (c : Int) : List Int := if (parseZ (z ++ [c]) rules).2.2 ≠ 0 ∨ 0 < (parseZ (z ++ [c]) rules).2.1 then [] else z ++ [c]
theorem clean_nil (rules : Int) : cleanZ [] rules 0 := fun i h => absurd h (by omega)
theorem next_clean {z : List Int} {rules : Int} (hc : cleanZ z rules z.length) (c : Int) : cleanZ (nextZ rules z c) rules (nextZ rules z c).length := by
  unfold nextZ
  split
  · exact clean_nil rules
  · rename_i h
    have hc' : cleanZ (z ++ [c]) rules z.length := clean_same (fun i hi => (getD_app hi).symm) hc
    rw [parse_eq hc] at h
    intro i hi
    rw [List.length_append, List.length_singleton] at hi
    rcases Nat.lt_succ_iff_lt_or_eq.1 hi with g | rfl
    · exact hc' i g
    · by_cases h1 : fltZ (z ++ [c]) rules z.length ≠ 0
      · rw [if_pos h1] at h; simp at h; exact absurd h h1
      · rw [if_neg h1] at h
        by_cases h2 : wholeAt (z ++ [c]) z.length
        · rw [if_pos h2] at h; exact absurd (Or.inr (show (0 : Int) < (z.length : Int) + 1 by omega)) h
        · exact ⟨by simpa using h1, h2⟩
/-- a frame that isn't whole is short. -/
theorem clean_short {z : List Int} {rules : Int} (hc : cleanZ z rules z.length) : z.length ≤ 74 := by
  rcases Nat.lt_or_ge z.length 75 with h | h
  · omega
  · have h3 := (flt0 (hc 3 (by omega)).1).2.2.2.1 rfl
    obtain ⟨n, hn⟩ : ∃ n : Nat, z.getD 3 0 = (n : Int) := ⟨(z.getD 3 0).toNat, by omega⟩
    have hw := (hc (n + 3) (by omega)).2
    exact absurd ⟨by omega, by rw [hn]; omega⟩ hw
/-- what a stream tells from here on: its requests, how many bytes are taken, the fault. -/
def allZ (rules : Int) : List Int → List Int → List Req × Nat × Int
  | _, [] => ([], 0, 0)
  | z, c :: r =>
    if (parseZ (z ++ [c]) rules).2.2 ≠ 0 then ([], 1, (parseZ (z ++ [c]) rules).2.2)
    else if 0 < (parseZ (z ++ [c]) rules).2.1 then ((parseZ (z ++ [c]) rules).1 :: (allZ rules [] r).1, (allZ rules [] r).2.1 + 1, (allZ rules [] r).2.2)
    else ((allZ rules (z ++ [c]) r).1, (allZ rules (z ++ [c]) r).2.1 + 1, (allZ rules (z ++ [c]) r).2.2)
theorem all_fault {rules : Int} {z r : List Int} {c : Int} (h : (parseZ (z ++ [c]) rules).2.2 ≠ 0) : allZ rules z (c :: r) = ([], 1, (parseZ (z ++ [c]) rules).2.2) := by rw [allZ, if_pos h]
theorem all_next {rules : Int} {z r : List Int} {c : Int} (h : (parseZ (z ++ [c]) rules).2.2 = 0) : allZ rules z (c :: r) = ((if 0 < (parseZ (z ++ [c]) rules).2.1 then [(parseZ (z ++ [c]) rules).1] else []) ++ (allZ rules (nextZ rules z c) r).1, (allZ rules (nextZ rules z c) r).2.1 + 1, (allZ rules (nextZ rules z c) r).2.2) := by
  rw [allZ, if_neg (by simp [h]), nextZ]
  by_cases h2 : 0 < (parseZ (z ++ [c]) rules).2.1
  · rw [if_pos h2, if_pos h2, if_pos (Or.inr h2)]; rfl
  · rw [if_neg h2, if_neg h2, if_neg (by simp [h, h2])]; rfl
/-- so many clean bytes ahead. -/
theorem all_clean {rules : Int} {b : List Int} : ∀ k, k ≤ b.length → cleanZ b rules k → allZ rules [] b = ((allZ rules (b.take k) (b.drop k)).1, (allZ rules (b.take k) (b.drop k)).2.1 + k, (allZ rules (b.take k) (b.drop k)).2.2)
  | 0, _, _ => by simp
  | k + 1, hk, hc => by
    rw [all_clean k (by omega) (fun i hi => hc i (by omega))]
    have hb : b.drop k = b[k] :: b.drop (k + 1) := List.drop_eq_getElem_cons (by omega)
    have ht : b.take (k + 1) = b.take k ++ [b[k]] := List.take_succ_eq_append_getElem (by omega)
    have hct : cleanZ (b.take k) rules (b.take k).length := by
      rw [List.length_take, Nat.min_eq_left (by omega)]
      exact clean_same (fun i hi => (getD_take hi).symm) (fun i hi => hc i (by omega))
    have hl : (b.take k).length = k := by rw [List.length_take]; omega
    have e := parse_eq hct b[k]
    rw [← ht, hl] at e
    have hk' := hc k (by omega)
    have hcs : cleanZ (b.take (k + 1)) rules (k + 1) := clean_same (fun i hi => (getD_take hi).symm) hc
    rw [if_neg (by simp [(hcs k (by omega)).1]), if_neg (hcs k (by omega)).2] at e
    rw [hb, allZ, ← ht, e]
    simp
    omega
/-- what bytes tell that begin with a fault, a request, neither. -/
theorem all_ways {rules : Int} {b : List Int} :
    (cleanZ b rules b.length ∧ parseZ b rules = (req0, 0, 0) ∧ allZ rules [] b = ([], b.length, 0)) ∨
    (∃ i, i < b.length ∧ cleanZ b rules i ∧ fltZ b rules i ≠ 0 ∧ parseZ b rules = (req0, 0, fltZ b rules i) ∧ allZ rules [] b = ([], i + 1, fltZ b rules i)) ∨
    (∃ i, i < b.length ∧ cleanZ b rules i ∧ fltZ b rules i = 0 ∧ wholeAt b i ∧ parseZ b rules = (reqZ b, (i : Int) + 1, 0) ∧ allZ rules [] b = (reqZ b :: (allZ rules [] (b.drop (i + 1))).1, (allZ rules [] (b.drop (i + 1))).2.1 + (i + 1), (allZ rules [] (b.drop (i + 1))).2.2)) := by
  have key : ∀ k, k ≤ b.length → cleanZ b rules k ∨ ∃ i, i < b.length ∧ cleanZ b rules i ∧ (fltZ b rules i ≠ 0 ∨ (fltZ b rules i = 0 ∧ wholeAt b i)) := by
    intro k
    induction k with
    | zero => intro _; exact Or.inl (fun i h => absurd h (by omega))
    | succ k ih =>
      intro hk
      rcases ih (by omega) with h | h
      · by_cases h1 : fltZ b rules k ≠ 0
        · exact Or.inr ⟨k, by omega, h, Or.inl h1⟩
        · have h1' : fltZ b rules k = 0 := by simpa using h1
          by_cases h2 : wholeAt b k
          · exact Or.inr ⟨k, by omega, h, Or.inr ⟨h1', h2⟩⟩
          · refine Or.inl (fun i hi => ?_)
            rcases Nat.lt_succ_iff_lt_or_eq.1 hi with g | rfl
            · exact h i g
            · exact ⟨h1', h2⟩
      · exact Or.inr h
  have step : ∀ i, i < b.length → cleanZ b rules i → ∃ hi : i < b.length, b.drop i = b[i] :: b.drop (i + 1) ∧ b.take i ++ [b[i]] = b.take (i + 1) ∧ parseZ (b.take (i + 1)) rules = if fltZ b rules i ≠ 0 then (req0, 0, fltZ b rules i) else if wholeAt b i then (reqZ (b.take (i + 1)), (i : Int) + 1, 0) else (req0, 0, 0) := by
    intro i hi hc
    have ht : b.take (i + 1) = b.take i ++ [b[i]] := List.take_succ_eq_append_getElem hi
    have hl : (b.take i).length = i := by rw [List.length_take]; omega
    have hct : cleanZ (b.take i) rules (b.take i).length := by
      rw [hl]; exact clean_same (fun t h => (getD_take h).symm) hc
    refine ⟨hi, List.drop_eq_getElem_cons hi, ht.symm, ?_⟩
    have e := parse_eq hct b[i]
    rw [← ht, hl] at e
    rw [e, flt_same (z := b.take (i + 1)) (y := b) (getD_take (by omega)) (fun h => getD_take (by omega))]
    simp only [whole_same (z := b.take (i + 1)) (y := b) (i := i) (fun h => getD_take (by omega))]
  rcases key b.length (Nat.le_refl _) with h | ⟨i, hi, hc, h | ⟨h, hw⟩⟩
  · refine Or.inl ⟨h, parse_all h, ?_⟩
    rw [all_clean b.length (Nat.le_refl _) h, List.drop_length, allZ]
    simp
  · refine Or.inr (Or.inl ⟨i, hi, hc, h, parse_fault i hi hc h, ?_⟩)
    obtain ⟨hi, hb, ht, e⟩ := step i hi hc
    rw [all_clean i (by omega) hc, hb, allZ, ht, e, if_pos h, if_pos h]
    simp; omega
  · refine Or.inr (Or.inr ⟨i, hi, hc, h, hw, parse_whole i hi hc h hw, ?_⟩)
    obtain ⟨hi, hb, ht, e⟩ := step i hi hc
    have hr : reqZ (b.take (i + 1)) = reqZ b := by
      have h3 := hw.1
      have hn : (i : Int) + 1 = 4 + b.getD 3 0 := hw.2
      unfold reqZ
      simp only [getD_take (show 3 < i + 1 by omega)]
      by_cases h7 : b.getD 3 0 ≥ 7
      · rw [if_pos h7, if_pos h7, getD_take (by omega), getD_take (by omega)]
        congr 1
        · have : ∀ j, j ≤ 4 → preZ ((b.take (i + 1)).drop 6) j = preZ (b.drop 6) j := by
            intro j
            induction j with
            | zero => intro _; rfl
            | succ j ih => intro hj; rw [preZ, preZ, ih (by omega), getD_drop, getD_drop, getD_take (by omega)]
          exact this 4 (by omega)
        · rw [List.take_take, Nat.min_eq_left (by omega)]
      · rw [if_neg h7, if_neg h7]
        have hi5 : 5 < i + 1 := by
          rcases (flt0 (hc 3 (by
            rcases Nat.lt_or_ge 3 i with g | g
            · exact g
            · exfalso
              have : i = 3 := by omega
              subst this
              have := (flt0 h).2.2.2.1 rfl
              omega)).1).2.2.2.1 rfl with g | g | g <;> omega
        by_cases h3' : b.getD 3 0 = 3
        · rw [if_pos h3', if_pos h3', getD_take (by omega), getD_take (by omega), getD_take (by omega)]
        · rw [if_neg h3', if_neg h3', getD_take (by omega), getD_take (by omega)]
    have e' : parseZ (b.take (i + 1)) rules = (reqZ b, (i : Int) + 1, 0) := by rw [e, if_neg (by simp [h]), if_pos hw, hr]
    rw [all_clean i (by omega) hc, hb, allZ, ht, e', if_neg (by simp), if_pos (by show (0 : Int) < (i : Int) + 1; omega)]
    simp
    omega
end Go.Proofs.Ytaghookljjpllaa
