/- A ring of bytes: plain mathematics. -/
namespace Go.Proofs.Ytaghookljjpllaa
set_option linter.unusedSimpArgs false
set_option linter.unusedVariables false
theorem obmod_two {a s : Nat} (h : a < 2 * s) : a % s = if a < s then a else a - s := by
  split
  · exact Nat.mod_eq_of_lt (by assumption)
  · rw [Nat.mod_eq_sub_mod (by omega)]; exact Nat.mod_eq_of_lt (by omega)
/-- what waits in a ring. -/
def Ring (arr : List Int) (size first : Nat) (q : List Int) : Prop :=
  arr.length = size ∧ first < size ∧ q.length ≤ size ∧ (∀ i, i < q.length → arr.getD ((first + i) % size) 0 = q.getD i 0)
theorem ring_new (size : Nat) (h : 1 ≤ size) : Ring (List.replicate size 0) size 0 [] := ⟨by simp, by omega, by simp, fun i hi => by simp at hi⟩
theorem obgetD_set (l : List Int) (i j : Nat) (v : Int) (hi : i < l.length) : (l.set i v).getD j 0 = if j = i then v else l.getD j 0 := by
  simp only [List.getD, List.getElem?_set]
  by_cases h : i = j
  · subst h; simp [hi]
  · rw [if_neg h, if_neg (fun e => h e.symm)]
theorem ring_put {arr : List Int} {size first : Nat} {q : List Int} (h : Ring arr size first q) (hq : q.length < size) (c : Int) : Ring (arr.set ((first + q.length) % size) c) size first (q ++ [c]) := by
  obtain ⟨h1, h2, h3, h4⟩ := h
  refine ⟨by simp [h1], h2, by simp; omega, fun i hi => ?_⟩
  have hlt : (first + q.length) % size < arr.length := by rw [h1]; exact Nat.mod_lt _ (by omega)
  rw [obgetD_set _ _ _ _ hlt]
  simp only [List.length_append, List.length_cons, List.length_nil] at hi
  have e1 := obmod_two (a := first + i) (s := size) (by omega)
  have e2 := obmod_two (a := first + q.length) (s := size) (by omega)
  by_cases hiq : i = q.length
  · subst hiq
    rw [if_pos rfl]; simp [List.getD]
  · rw [if_neg (by rw [e1, e2]; split <;> split <;> omega), h4 i (by omega)]
    simp [List.getD, List.getElem?_append, show i < q.length by omega]
theorem ring_take {arr : List Int} {size first : Nat} {c : Int} {q : List Int} (h : Ring arr size first (c :: q)) : arr.getD first 0 = c ∧ Ring arr size ((first + 1) % size) q := by
  obtain ⟨h1, h2, h3, h4⟩ := h
  simp only [List.length_cons] at h3 h4
  have h0 := h4 0 (by omega)
  rw [Nat.add_zero, Nat.mod_eq_of_lt h2] at h0
  refine ⟨by rw [h0]; simp [List.getD], h1, Nat.mod_lt _ (by omega), by omega, fun i hi => ?_⟩
  have hh := h4 (i + 1) (by omega)
  have e1 := obmod_two (a := first + 1) (s := size) (by omega)
  have e2 := obmod_two (a := first + (i + 1)) (s := size) (by omega)
  have e3 := obmod_two (a := (first + 1) % size + i) (s := size) (by rw [e1]; split <;> omega)
  have e : ((first + 1) % size + i) % size = (first + (i + 1)) % size := by rw [e3, e2, e1]; (repeat' split) <;> omega
  rw [e, hh]; simp [List.getD]
theorem ring_clear {arr : List Int} {size first : Nat} {q : List Int} (h : Ring arr size first q) : Ring arr size 0 [] := ⟨h.1, by have := h.2.1; omega, by simp, fun i hi => by simp at hi⟩
theorem obset_fill (q : List Int) (i m : Nat) (hi : i < m) (hq : i < q.length) : (q.take i ++ List.replicate (m - i) 0).set i (q[i]) = q.take (i + 1) ++ List.replicate (m - (i + 1)) 0 := by
  have hl : (q.take i).length = i := by rw [List.length_take]; omega
  have e : m - i = (m - (i + 1)) + 1 := by omega
  rw [List.set_append_right _ _ (by omega), hl, Nat.sub_self, e, List.replicate_succ, List.set_cons_zero, show q.take (i + 1) = q.take i ++ [q[i]] from by rw [List.take_add_one, List.getElem?_eq_getElem hq]; rfl, List.append_assoc]
  rfl
end Go.Proofs.Ytaghookljjpllaa
