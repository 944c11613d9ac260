/- Keys' bytes in places: plain mathematics. -/
namespace Go.Proofs.Ytmdkokehomboaaa
set_option linter.unusedSimpArgs false
set_option linter.unusedVariables false
set_option maxRecDepth 100000
theorem getD_set' (l : List Int) (i j : Nat) (v : Int) (hi : i < l.length) : (l.set i v).getD j 0 = if j = i then v else l.getD j 0 := by
  simp only [List.getD, List.getElem?_set]
  by_cases h : i = j
  · subst h; simp [hi]
  · rw [if_neg h, if_neg (fun e => h e.symm)]
/-- so many numbers laid over others from a place on. -/
def splice : List Int → Nat → List Int → List Int
  | l, _, [] => l
  | l, o, v :: r => splice (l.set o v) (o + 1) r
theorem splice_length : ∀ (vs l : List Int) (o : Nat), (splice l o vs).length = l.length
  | [], _, _ => rfl
  | v :: r, l, o => by rw [splice, splice_length r]; simp
theorem splice_getD : ∀ (vs l : List Int) (o k : Nat), o + vs.length ≤ l.length → (splice l o vs).getD k 0 = if o ≤ k ∧ k < o + vs.length then vs.getD (k - o) 0 else l.getD k 0
  | [], l, o, k, _ => by rw [splice, if_neg (by simp)]
  | v :: r, l, o, k, h => by
    simp only [List.length_cons] at h
    rw [splice, splice_getD r _ _ _ (by simp; omega), getD_set' _ _ _ _ (by omega)]
    simp only [List.length_cons]
    by_cases h1 : k = o
    · subst h1
      rw [if_neg (by omega), if_pos rfl, if_pos (by omega), Nat.sub_self]; rfl
    · by_cases h2 : o + 1 ≤ k ∧ k < o + 1 + r.length
      · rw [if_pos h2, if_pos (by omega), show k - o = (k - (o + 1)) + 1 by omega]; generalize k - (o + 1) = m; rfl
      · rw [if_neg h2, if_neg h1, if_neg (by omega)]
/-- a key's bytes, as numbers. -/
def nums (s : ByteArray) : List Int := s.data.toList.map fun c => (c.toNat : Int)
theorem nums_length (s : ByteArray) : (nums s).length = s.size := by unfold nums; rw [List.length_map]; rfl
theorem nums_bd (s : ByteArray) : ∀ z ∈ nums s, 0 ≤ z ∧ z ≤ 255 := by
  intro z hz
  obtain ⟨c, _, rfl⟩ := List.mem_map.1 hz
  have := c.toNat_lt
  omega
/-- which places are free, in which order they were freed, and what the others have. -/
structure Places (n : Nat) (fl : List Nat) (K : Nat → Option ByteArray) : Prop where
  use : ∃ ul : List Nat, (fl ++ ul).Perm (List.range n) ∧ ∀ i, (K i).isSome = true ↔ i ∈ ul
theorem Places.lt {n : Nat} {fl : List Nat} {K : Nat → Option ByteArray} (h : Places n fl K) {i : Nat} (hi : (K i).isSome = true) : i < n ∧ fl.length < n := by
  obtain ⟨ul, hp, hu⟩ := h.use
  have h1 := (hu i).1 hi
  have h2 := hp.length_eq
  rw [List.length_append, List.length_range] at h2
  have h3 := List.length_pos_of_mem h1
  exact ⟨List.mem_range.1 (hp.mem_iff.1 (List.mem_append.2 (Or.inr h1))), by omega⟩
theorem Places.le {n : Nat} {fl : List Nat} {K : Nat → Option ByteArray} (h : Places n fl K) : fl.length ≤ n := by
  obtain ⟨ul, hp, hu⟩ := h.use
  have h2 := hp.length_eq
  rw [List.length_append, List.length_range] at h2
  omega
theorem Places.nodup {n : Nat} {fl : List Nat} {K : Nat → Option ByteArray} (h : Places n fl K) : ∃ ul : List Nat, (fl ++ ul).Nodup ∧ ∀ i, (K i).isSome = true ↔ i ∈ ul := by
  obtain ⟨ul, hp, hu⟩ := h.use
  exact ⟨ul, hp.nodup_iff.2 List.nodup_range, hu⟩
theorem Places.free {n : Nat} {fl : List Nat} {K : Nat → Option ByteArray} (h : Places n fl K) {i : Nat} (hi : i ∈ fl) : i < n ∧ K i = none := by
  obtain ⟨ul, hp, hu⟩ := h.use
  have hn : (fl ++ ul).Nodup := hp.nodup_iff.2 List.nodup_range
  refine ⟨List.mem_range.1 (hp.mem_iff.1 (List.mem_append.2 (Or.inl hi))), ?_⟩
  cases hk : K i with
  | none => rfl
  | some s =>
    have := (hu i).1 (by rw [hk]; rfl)
    exact absurd rfl ((List.nodup_append.1 hn).2.2 i hi i this)
theorem places_new (n : Nat) : Places n (List.range n).reverse (fun _ => none) := ⟨[], by rw [List.append_nil]; exact List.reverse_perm _, fun i => by simp⟩
theorem Places.put {n i : Nat} {fl : List Nat} {K : Nat → Option ByteArray} (h : Places n (fl ++ [i]) K) (s : ByteArray) : Places n fl (fun j => if j = i then some s else K j) := by
  obtain ⟨ul, hp, hu⟩ := h.use
  refine ⟨i :: ul, by simpa using hp, fun j => ?_⟩
  by_cases hj : j = i
  · subst hj; simp
  · rw [if_neg hj, hu]; simp [hj]
theorem Places.drop {n i : Nat} {fl : List Nat} {K : Nat → Option ByteArray} (h : Places n fl K) (hi : (K i).isSome = true) : Places n (fl ++ [i]) (fun j => if j = i then none else K j) := by
  obtain ⟨ul, hp, hu⟩ := h.use
  have hm := (hu i).1 hi
  have hn : (fl ++ ul).Nodup := hp.nodup_iff.2 List.nodup_range
  have hnu : ul.Nodup := (List.nodup_append.1 hn).2.1
  refine ⟨ul.erase i, ?_, fun j => ?_⟩
  · have h1 : ul.Perm (i :: ul.erase i) := List.perm_cons_erase hm
    have h2 : (fl ++ ul).Perm (fl ++ (i :: ul.erase i)) := List.Perm.append_left fl h1
    have h3 : fl ++ [i] ++ ul.erase i = fl ++ (i :: ul.erase i) := by simp
    rw [h3]
    exact h2.symm.trans hp
  · by_cases hj : j = i
    · subst hj
      simp only [if_true, Option.isSome_none, Bool.false_eq_true, false_iff]
      exact fun hx => by
        have := List.Nodup.mem_erase_iff hnu |>.1 hx
        exact this.1 rfl
    · rw [if_neg hj, hu, List.Nodup.mem_erase_iff hnu]
      simp [hj]
end Go.Proofs.Ytmdkokehomboaaa
