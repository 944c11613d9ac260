/- The laws of layer 8 (summary): what is told of keys, the plain side. -/
import Derived.Test.YtnpiimaapholiaaSmT
namespace Go.Proofs.Ytnpiimaapholiaa
set_option linter.unusedSimpArgs false
set_option linter.unusedVariables false
open Go.ChangeShapes Go.WideShapes Go.ChangeAt Go.RowKit
/-- each key is there once. -/
def uniM (M : List Tri) : Prop := (M.map (fun t => t.1)).Nodup
theorem uni_of {w : World} {Q : SmN} {M : List Tri} {tot : Int} (h : SmM w Q M tot) : uniM M ∧ M.length ≤ Q.N.n ∧ 0 ≤ tot ∧ tot < 4611686018427387904 := by
  obtain ⟨L, σ, h1, rfl⟩ := h
  refine ⟨?_, by rw [List.length_map]; exact h1.le, h1.ok.tb⟩
  unfold uniM
  rw [List.map_map]
  show (L.map Ent.k).Nodup
  unfold List.Nodup
  rw [List.pairwise_iff_getElem]
  intro i j hi hj hij e
  simp only [List.getElem_map, List.length_map] at hi hj e
  have := h1.keyuni (i := i) (j := j) (List.getElem?_eq_getElem (by simpa using hj)) (List.getElem?_eq_getElem (by simpa using hi)) e
  omega
theorem tell_mem {M : List Tri} (hu : uniM M) {s : ByteArray} {n e : Int} (h : (s, n, e) ∈ M) : tellM M s = (n, e, true) := by
  unfold tellM
  cases hf : M.find? (fun t => decide (t.1 = s)) with
  | none =>
    rw [List.find?_eq_none] at hf
    exact absurd (decide_eq_true rfl) (hf _ h)
  | some t =>
    have h1 : t.1 = s := by have := List.find?_some hf; simpa using this
    have h2 := List.mem_of_find?_eq_some hf
    have : t = (s, n, e) := by
      obtain ⟨i, hi, ei⟩ := List.mem_iff_getElem.1 h2
      obtain ⟨j, hj, ej⟩ := List.mem_iff_getElem.1 h
      have hp := List.pairwise_iff_getElem.1 hu
      rcases Nat.lt_trichotomy i j with hij | hij | hij
      · exact ((hp i j (by simpa using hi) (by simpa using hj) hij) (by simp only [List.getElem_map]; rw [ei, ej]; exact h1)).elim
      · subst hij; rw [← ei, ej]
      · exact ((hp j i (by simpa using hj) (by simpa using hi) hij) (by simp only [List.getElem_map]; rw [ei, ej]; exact h1.symm)).elim
    rw [this]
theorem tell_none {M : List Tri} {s : ByteArray} (h : ∀ t ∈ M, t.1 ≠ s) : tellM M s = (0, 0, false) := by
  unfold tellM
  have hf : M.find? (fun t => decide (t.1 = s)) = none := by
    rw [List.find?_eq_none]
    intro t ht
    simpa using h t ht
  rw [hf]
theorem tell_true {M : List Tri} {s : ByteArray} (h : (tellM M s).2.2 = true) : ∃ n e, (s, n, e) ∈ M ∧ tellM M s = (n, e, true) := by
  unfold tellM at h ⊢
  cases hf : M.find? (fun t => decide (t.1 = s)) with
  | none => rw [hf] at h; cases h
  | some t =>
    have h1 : t.1 = s := by have := List.find?_some hf; simpa using this
    exact ⟨t.2.1, t.2.2, by rw [← h1]; exact List.mem_of_find?_eq_some hf, rfl⟩
theorem tell_perm {M M' : List Tri} (hu : uniM M) (hp : M.Perm M') (s : ByteArray) : tellM M s = tellM M' s := by
  have hu' : uniM M' := (hp.map _).nodup_iff.1 hu
  by_cases h : ∃ n e, (s, n, e) ∈ M
  · obtain ⟨n, e, h⟩ := h
    rw [tell_mem hu h, tell_mem hu' (hp.mem_iff.1 h)]
  · have h1 : ∀ t ∈ M, t.1 ≠ s := fun t ht e => h ⟨t.2.1, t.2.2, by rw [← e]; exact ht⟩
    rw [tell_none h1, tell_none (fun t ht => h1 t (hp.mem_iff.2 ht))]
theorem swapM_perm {L : List Tri} {i : Nat} {x y : Tri} (hy : L[i]? = some y) (hx : L[i + 1]? = some x) : ((L.set i x).set (i + 1) y).Perm L := by
  obtain ⟨l1, e1⟩ := List.getElem?_eq_some_iff.1 hy
  obtain ⟨l2, e2⟩ := List.getElem?_eq_some_iff.1 hx
  have hs : L = L.take i ++ y :: x :: L.drop (i + 2) := by
    conv => lhs; rw [← List.take_append_drop i L, List.drop_eq_getElem_cons l1, List.drop_eq_getElem_cons l2, e1, e2]
  have hlen : (L.take i).length = i := by rw [List.length_take]; omega
  have h2 : (L.set i x).set (i + 1) y = L.take i ++ x :: y :: L.drop (i + 2) := by
    conv => lhs; rw [hs]
    rw [List.set_append_right _ _ (by omega), hlen, Nat.sub_self, List.set_cons_zero, List.set_append_right _ _ (by omega), hlen, show i + 1 - i = 1 by omega]
    rfl
  rw [h2]
  conv => rhs; rw [hs]
  exact List.Perm.append_left _ (List.Perm.swap _ _ _)
theorem riseM_perm : ∀ (i : Nat) (L : List Tri), (riseM L i).Perm L
  | 0, L => by unfold riseM; exact List.Perm.refl _
  | i + 1, L => by
    unfold riseM
    split
    · rename_i y x hy hx
      split
      · exact (riseM_perm i _).trans (swapM_perm hy hx)
      · exact List.Perm.refl _
    · exact List.Perm.refl _
/-- what is told behind an offer that meets its key, or room. -/
theorem offer_tells {n : Nat} {M : List Tri} {tot d : Int} {s : ByteArray} (hu : uniM M) (hs : s.size ≤ 64) (hd : 1 ≤ d) (ht : tot + d < 4611686018427387904) (h0 : 0 ≤ tot) (hn : (tellM M s).2.2 = true ∨ M.length < n) (x : ByteArray) :
    (offerM n M tot s d).2 = tot + d ∧ tellM (offerM n M tot s d).1 x = (if x = s then ((tellM M s).1 + d, (tellM M s).2.1, true) else tellM M x) ∧ (offerM n M tot s d).1.length = (if (tellM M s).2.2 = true then M.length else M.length + 1) := by
  have hb : begM M tot d = (M, tot) := by unfold begM; rw [if_neg (by omega)]
  unfold offerM
  rw [if_neg (by omega), hb]
  refine ⟨rfl, ?_⟩
  by_cases hk : (tellM M s).2.2 = true
  · obtain ⟨m, e, hmem, htell⟩ := tell_true hk
    obtain ⟨j, hj⟩ := List.getElem?_of_mem hmem
    obtain ⟨hjl, hje⟩ := List.getElem?_eq_some_iff.1 hj
    have hp : preM n M s = (M, j) := by
      have hf : M.findIdx? (fun x => decide (x.1 = s)) = some j := by
        rw [List.findIdx?_eq_some_iff_getElem]
        refine ⟨hjl, by simp [hje], fun i hi => ?_⟩
        have hpw := List.pairwise_iff_getElem.1 hu i j (by simpa using (by omega : i < M.length)) (by simpa using hjl) hi
        simp only [List.getElem_map, hje] at hpw
        simpa using hpw
      unfold preM
      rw [hf]
    have hi : incM M j d = M.set j (s, m + d, e) := by unfold incM; rw [hj]
    have hu2 : uniM (M.set j (s, m + d, e)) := by
      unfold uniM at hu ⊢
      rw [List.map_set]
      have : (M.map (fun t => t.1)).set j s = M.map (fun t => t.1) := set_same (by rw [List.getElem?_map, hj]; rfl)
      rw [this]; exact hu
    show tellM (riseM (incM (preM n M s).1 (preM n M s).2 d) (preM n M s).2) x = _ ∧ (riseM (incM (preM n M s).1 (preM n M s).2 d) (preM n M s).2).length = _
    rw [hp]
    show tellM (riseM (incM M j d) j) x = _ ∧ (riseM (incM M j d) j).length = _
    rw [hi, if_pos hk, (riseM_perm j _).length_eq, List.length_set, ← tell_perm hu2 (riseM_perm j _).symm]
    refine ⟨?_, rfl⟩
    by_cases e1 : x = s
    · rw [if_pos e1, e1, htell]
      exact tell_mem hu2 (List.mem_set hjl _)
    · rw [if_neg e1]
      by_cases hx : ∃ n' e', (x, n', e') ∈ M
      · obtain ⟨n', e', hx⟩ := hx
        rw [tell_mem hu hx]
        refine tell_mem hu2 ?_
        obtain ⟨q, hq⟩ := List.getElem?_of_mem hx
        refine List.mem_of_getElem? (i := q) ?_
        rw [List.getElem?_set_ne (fun e2 => by
          rw [← e2, hj] at hq
          have := Option.some.inj hq
          exact e1 (by have := congrArg Prod.fst this; exact this.symm))]
        exact hq
      · rw [tell_none (M := M) (s := x) (fun t ht e2 => hx ⟨t.2.1, t.2.2, by rw [← e2]; exact ht⟩)]
        refine tell_none (fun t ht e2 => ?_)
        rcases List.mem_or_eq_of_mem_set ht with h1 | h1
        · exact hx ⟨t.2.1, t.2.2, by rw [← e2]; exact h1⟩
        · rw [h1] at e2; exact e1 e2.symm
  · have hl : M.length < n := by rcases hn with h | h; exact absurd h hk; exact h
    have hno : ∀ t ∈ M, t.1 ≠ s := fun t ht e2 => hk (by rw [tell_mem hu (n := t.2.1) (e := t.2.2) (by rw [← e2]; exact ht)])
    have hp : preM n M s = (M ++ [(s, 0, 0)], M.length) := by
      have hf : M.findIdx? (fun x => decide (x.1 = s)) = none := by
        rw [List.findIdx?_eq_none_iff]
        intro t ht
        exact decide_eq_false (hno t ht)
      unfold preM cutM leastM
      rw [hf]
      simp only []
      rw [if_neg (by omega), if_pos hl]
    have hi : incM (M ++ [((s, 0, 0) : Tri)]) M.length d = M ++ [(s, d, 0)] := by
      unfold incM
      have : (M ++ [((s, 0, 0) : Tri)])[M.length]? = some (s, 0, 0) := by simp
      rw [this]
      show (M ++ [((s, 0, 0) : Tri)]).set M.length (s, 0 + d, 0) = _
      rw [List.set_append_right _ _ (Nat.le_refl _), Nat.sub_self, Int.zero_add]
      rfl
    have hu2 : uniM (M ++ [(s, d, 0)]) := by
      unfold uniM at hu ⊢
      rw [List.map_append, List.nodup_append]
      refine ⟨hu, by simp, fun a ha b hb => ?_⟩
      obtain ⟨t, ht, e2⟩ := List.mem_map.1 ha
      have hb : b = s := by simpa using hb
      rw [← e2, hb]
      exact hno t ht
    show tellM (riseM (incM (preM n M s).1 (preM n M s).2 d) (preM n M s).2) x = _ ∧ (riseM (incM (preM n M s).1 (preM n M s).2 d) (preM n M s).2).length = _
    rw [hp]
    show tellM (riseM (incM (M ++ [((s, 0, 0) : Tri)]) M.length d) M.length) x = _ ∧ (riseM (incM (M ++ [((s, 0, 0) : Tri)]) M.length d) M.length).length = _
    rw [hi, if_neg hk, (riseM_perm _ _).length_eq, List.length_append, ← tell_perm hu2 (riseM_perm _ _).symm]
    refine ⟨?_, rfl⟩
    by_cases e1 : x = s
    · rw [if_pos e1, e1, tell_none hno]
      have := tell_mem hu2 (s := s) (n := d) (e := 0) (by simp)
      rw [this]
      show (d, (0 : Int), true) = (0 + d, 0, true)
      rw [Int.zero_add]
    · rw [if_neg e1]
      by_cases hx : ∃ n' e', (x, n', e') ∈ M
      · obtain ⟨n', e', hx⟩ := hx
        rw [tell_mem hu hx]
        exact tell_mem hu2 (List.mem_append_left _ hx)
      · rw [tell_none (M := M) (s := x) (fun t ht e2 => hx ⟨t.2.1, t.2.2, by rw [← e2]; exact ht⟩)]
        refine tell_none (fun t ht e2 => ?_)
        rcases List.mem_append.1 ht with h1 | h1
        · exact hx ⟨t.2.1, t.2.2, by rw [← e2]; exact h1⟩
        · rw [List.mem_singleton.1 h1] at e2; exact e1 e2.symm
end Go.Proofs.Ytnpiimaapholiaa
