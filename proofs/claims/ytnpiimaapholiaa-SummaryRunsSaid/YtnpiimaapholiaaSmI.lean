import Derived.Test.YtnpiimaapholiaaZSm
/- Layer 8 (summary): what Space-Saving holds, the plain side. -/
namespace Go.Proofs.Ytnpiimaapholiaa
set_option linter.unusedSimpArgs false
set_option linter.unusedVariables false
open Go.ChangeShapes Go.WideShapes Go.ChangeAt Go.RowKit
def srtM (M : List Tri) : Prop := M.Pairwise (fun a b => b.2.1 ≤ a.2.1)
def sumM (M : List Tri) : Int := (M.map fun t => t.2.1).sum
theorem sumM_perm {M M' : List Tri} (h : M.Perm M') : sumM M = sumM M' := by
  unfold sumM
  induction h with
  | nil => rfl
  | cons x _ ih => simp only [List.map_cons, List.sum_cons, ih]
  | swap x y l => simp only [List.map_cons, List.sum_cons]; omega
  | trans _ _ ih1 ih2 => rw [ih1, ih2]
theorem sumM_app (A B : List Tri) : sumM (A ++ B) = sumM A + sumM B := by
  unfold sumM
  induction A with
  | nil => simp
  | cons x A ih => simp only [List.cons_append, List.map_cons, List.sum_cons, ih]; omega
theorem sumM_cons (x : Tri) (B : List Tri) : sumM (x :: B) = x.2.1 + sumM B := by unfold sumM; simp
theorem sumM_low {c : Int} : ∀ {M : List Tri}, (∀ t ∈ M, c ≤ t.2.1) → c * (M.length : Int) ≤ sumM M
  | [], _ => by simp [sumM]
  | x :: M, h => by
    have ih := sumM_low (c := c) (M := M) (fun t ht => h t (List.mem_cons_of_mem _ ht))
    have hx := h x (List.mem_cons_self ..)
    rw [sumM_cons, List.length_cons]
    have : c * ((M.length + 1 : Nat) : Int) = c * (M.length : Int) + c := by rw [Int.natCast_add, Int.mul_add]; simp
    omega
/-- rise, where a list is told by what stands ahead. -/
theorem rise_sort : ∀ (k : Nat) (A : List Tri) (x : Tri) (B : List Tri), A.length = k → srtM (A ++ B) → (∀ b ∈ B, b.2.1 ≤ x.2.1) → srtM (riseM (A ++ x :: B) k)
  | 0, A, x, B, hk, hs, hb => by
    have : A = [] := List.length_eq_zero_iff.1 hk
    subst this
    unfold riseM
    exact List.pairwise_cons.2 ⟨hb, hs⟩
  | k + 1, A, x, B, hk, hs, hb => by
    have hne : A ≠ [] := fun e => by rw [e] at hk; simp at hk
    obtain ⟨A', y, rfl⟩ : ∃ A' y, A = A' ++ [y] := ⟨A.dropLast, A.getLast hne, (List.dropLast_concat_getLast hne).symm⟩
    have hk' : A'.length = k := by simpa using hk
    subst hk'
    have g1 : (A' ++ [y] ++ x :: B)[A'.length]? = some y := by simp
    have g2 : (A' ++ [y] ++ x :: B)[A'.length + 1]? = some x := by simp
    unfold riseM
    rw [g1, g2]
    simp only
    split
    · rename_i hlt
      have e : ((A' ++ [y] ++ x :: B).set A'.length x).set (A'.length + 1) y = A' ++ x :: (y :: B) := by
        rw [List.append_assoc, List.set_append_right _ _ (Nat.le_refl _), Nat.sub_self, List.singleton_append, List.set_cons_zero, List.set_append_right _ _ (Nat.le_succ _), show A'.length + 1 - A'.length = 1 by omega]
        rfl
      rw [e]
      refine rise_sort A'.length A' x (y :: B) rfl ?_ ?_
      · have : A' ++ [y] ++ B = A' ++ y :: B := by simp
        rw [← this]; exact hs
      · intro b hb'
        rcases List.mem_cons.1 hb' with rfl | h
        · omega
        · exact hb b h
    · rename_i hlt
      have hs2 : srtM (A' ++ y :: B) := by
        have : A' ++ [y] ++ B = A' ++ y :: B := by simp
        rw [← this]; exact hs
      unfold srtM at hs2 ⊢
      rw [List.pairwise_append] at hs2
      obtain ⟨p1, p2, p3⟩ := hs2
      obtain ⟨p4, p5⟩ := List.pairwise_cons.1 p2
      rw [List.append_assoc, List.singleton_append, List.pairwise_append]
      refine ⟨p1, List.pairwise_cons.2 ⟨fun b hb' => ?_, List.pairwise_cons.2 ⟨hb, p5⟩⟩, fun a ha b hb' => ?_⟩
      · rcases List.mem_cons.1 hb' with rfl | h
        · omega
        · exact p4 b h
      · have h1 := p3 a ha y (List.mem_cons_self ..)
        rcases List.mem_cons.1 hb' with rfl | h
        · exact h1
        · rcases List.mem_cons.1 h with rfl | h
          · omega
          · exact p3 a ha b (List.mem_cons_of_mem _ h)
/-- what an offer comes to. -/
theorem offer_form {n : Nat} {M : List Tri} {tot d : Int} {s : ByteArray} (hu : uniM M) (hs : s.size ≤ 64) (hd : 1 ≤ d) (ht : tot + d < 4611686018427387904) (h0 : 0 ≤ tot) :
    (offerM n M tot s d).2 = tot + d ∧ ∃ A x B, (offerM n M tot s d).1 = riseM (A ++ x :: B) A.length ∧
      ((∃ n0 e0, M = A ++ (s, n0, e0) :: B ∧ x = (s, n0 + d, e0)) ∨ ((∀ t ∈ M, t.1 ≠ s) ∧ B = [] ∧ A = cutM n M ∧ x = (s, leastM n M + d, leastM n M))) := by
  have hb : begM M tot d = (M, tot) := by unfold begM; rw [if_neg (by omega)]
  have e : offerM n M tot s d = (riseM (incM (preM n M s).1 (preM n M s).2 d) (preM n M s).2, tot + d) := by
    unfold offerM
    rw [if_neg (by omega), hb]
  rw [e]
  refine ⟨rfl, ?_⟩
  cases hf : M.findIdx? (fun x => decide (x.1 = s)) with
  | none =>
    have hk : ∀ t ∈ M, t.1 ≠ s := fun t ht => by
      rw [List.findIdx?_eq_none_iff] at hf
      have := hf t ht
      simpa using this
    have hp : preM n M s = (cutM n M ++ [(s, leastM n M, leastM n M)], (cutM n M).length) := by unfold preM; rw [hf]
    refine ⟨cutM n M, (s, leastM n M + d, leastM n M), [], ?_, .inr ⟨hk, rfl, rfl, rfl⟩⟩
    rw [hp]
    simp only
    have : incM (cutM n M ++ [(s, leastM n M, leastM n M)]) (cutM n M).length d = cutM n M ++ [(s, leastM n M + d, leastM n M)] := by
      unfold incM
      have : (cutM n M ++ [(s, leastM n M, leastM n M)])[(cutM n M).length]? = some (s, leastM n M, leastM n M) := by simp
      rw [this]
      simp only
      rw [List.set_append_right _ _ (Nat.le_refl _), Nat.sub_self]
      rfl
    rw [this]
  | some j =>
    have hp : preM n M s = (M, j) := by unfold preM; rw [hf]
    rw [List.findIdx?_eq_some_iff_getElem] at hf
    obtain ⟨hj, hjs, _⟩ := hf
    have hjs : M[j].1 = s := by simpa using hjs
    have hsplit : M = M.take j ++ M[j] :: M.drop (j + 1) := by
      conv => lhs; rw [← List.take_append_drop j M, List.drop_eq_getElem_cons hj]
    have hlen : (M.take j).length = j := by rw [List.length_take]; omega
    refine ⟨M.take j, (s, M[j].2.1 + d, M[j].2.2), M.drop (j + 1), ?_, .inl ⟨M[j].2.1, M[j].2.2, ?_, rfl⟩⟩
    · rw [hp, hlen]
      simp only
      have : incM M j d = M.take j ++ (s, M[j].2.1 + d, M[j].2.2) :: M.drop (j + 1) := by
        unfold incM
        rw [List.getElem?_eq_getElem hj]
        simp only
        rw [hjs, List.set_eq_take_append_cons_drop, if_pos hj]
      rw [this]
    · rw [← hjs]; exact hsplit
/-- what the document promises of a summary, behind calls with sums H. -/
structure SSI (n : Nat) (H : ByteArray → Int) (M : List Tri) (tot : Int) : Prop where
  uni : uniM M
  len : M.length ≤ n
  srt : srtM M
  sum : sumM M = tot
  bd : ∀ t ∈ M, H t.1 ≤ t.2.1 ∧ t.2.1 - t.2.2 ≤ H t.1 ∧ 0 ≤ t.2.2 ∧ t.2.2 * (n : Int) ≤ tot ∧ 0 ≤ t.2.1
  no : ∀ s, (∀ t ∈ M, t.1 ≠ s) → H s ≤ leastM n M
  pos : ∀ s, 0 ≤ H s
theorem SSI.nil (n : Nat) : SSI n (fun _ => 0) [] 0 :=
  ⟨List.nodup_nil, Nat.zero_le _, List.Pairwise.nil, rfl, fun t ht => by simp at ht, fun s _ => by unfold leastM; split <;> simp, fun s => Int.le_refl _⟩
section
variable {n : Nat} {H : ByteArray → Int} {M : List Tri} {tot : Int}
/-- the least count is a lower bound. -/
theorem SSI.least (h : SSI n H M tot) : ∀ t ∈ M, leastM n M ≤ t.2.1 := by
  intro t ht
  have hb := (h.bd t ht).2.2.2.2
  unfold leastM
  split
  · exact hb
  · cases hl : M.getLast? with
    | none => exact hb
    | some x =>
      simp only
      obtain ⟨i, hi, e⟩ := List.mem_iff_getElem.1 ht
      rw [List.getLast?_eq_getElem?] at hl
      obtain ⟨hx, ex⟩ := List.getElem?_eq_some_iff.1 hl
      by_cases hij : i = M.length - 1
      · subst hij; rw [ex] at e; rw [e]; exact Int.le_refl _
      · have := List.pairwise_iff_getElem.1 h.srt i (M.length - 1) hi hx (by omega)
        rw [ex, e] at this
        exact this
theorem SSI.least_pos (h : SSI n H M tot) : 0 ≤ leastM n M := by
  unfold leastM
  split
  · exact Int.le_refl _
  · cases hl : M.getLast? with
    | none => exact Int.le_refl _
    | some x => exact (h.bd x (List.mem_of_getLast? hl)).2.2.2.2
theorem SSI.least_sum (h : SSI n H M tot) : leastM n M * (n : Int) ≤ tot := by
  by_cases hl : M.length < n
  · have : leastM n M = 0 := by unfold leastM; rw [if_pos hl]
    rw [this, Int.zero_mul, ← h.sum]
    have := sumM_low (c := 0) (M := M) (fun t ht => (h.bd t ht).2.2.2.2)
    omega
  · have hn : M.length = n := by have := h.len; omega
    have := sumM_low h.least
    rw [hn, h.sum] at this
    exact this
theorem cut_sub (n : Nat) (M : List Tri) : (cutM n M).Sublist M := by
  unfold cutM
  split
  · exact List.dropLast_sublist M
  · exact List.Sublist.refl _
theorem SSI.step (h : SSI n H M tot) (hn : 1 ≤ n) {s : ByteArray} (hs : s.size ≤ 64) {d : Int} (hd : 1 ≤ d) (ht : tot + d < 4611686018427387904) (h0 : 0 ≤ tot) :
    SSI n (fun x => if x = s then H s + d else H x) (offerM n M tot s d).1 (tot + d) ∧ (offerM n M tot s d).2 = tot + d := by
  obtain ⟨e2, A, x, B, e1, hx⟩ := offer_form (n := n) h.uni hs hd ht h0
  refine ⟨?_, e2⟩
  rw [e1]
  have hp : (riseM (A ++ x :: B) A.length).Perm (A ++ x :: B) := riseM_perm _ _
  generalize hM' : riseM (A ++ x :: B) A.length = M' at hp
  have hls := h.least_sum
  have hlp := h.least_pos
  have hpos : ∀ y, 0 ≤ (if y = s then H s + d else H y) := fun y => by
    have h1 := h.pos s
    have h2 := h.pos y
    split <;> omega
  rcases hx with ⟨n0, e0, hM, rfl⟩ | ⟨hno, rfl, rfl, rfl⟩
  · have hmem : (s, n0, e0) ∈ M := by rw [hM]; simp
    have hb0 := h.bd _ hmem
    simp only at hb0
    have hkeys : ∀ t, t ∈ A ∨ t ∈ B → t ∈ M ∧ t.1 ≠ s := fun t ht => by
      have hu := h.uni
      unfold uniM at hu
      rw [hM, List.map_append, List.map_cons, List.nodup_append] at hu
      obtain ⟨u1, u2, u3⟩ := hu
      rcases ht with ht | ht
      · exact ⟨by rw [hM]; simp [ht], u3 t.1 (List.mem_map.2 ⟨t, ht, rfl⟩) s (by simp)⟩
      · exact ⟨by rw [hM]; simp [ht], fun e => (List.nodup_cons.1 u2).1 (List.mem_map.2 ⟨t, ht, e⟩)⟩
    have hlen : (A ++ (s, n0 + d, e0) :: B).length = M.length := by rw [hM]; simp
    have hsrt : srtM (A ++ B) := by
      refine List.Pairwise.sublist ?_ (hM ▸ h.srt)
      exact List.Sublist.append (List.Sublist.refl _) (List.sublist_cons_self _ _)
    have hB : ∀ b ∈ B, b.2.1 ≤ n0 + d := fun b hb => by
      have hsr := h.srt
      unfold srtM at hsr
      rw [hM, List.pairwise_append] at hsr
      have := (List.pairwise_cons.1 hsr.2.1).1 b hb
      simp only at this
      omega
    have hsum : sumM M' = tot + d := by
      rw [sumM_perm hp, sumM_app, sumM_cons]
      have := h.sum
      rw [hM, sumM_app, sumM_cons] at this
      simp only at this ⊢
      omega
    have hbd : ∀ t ∈ M', (if t.1 = s then H s + d else H t.1) ≤ t.2.1 ∧ t.2.1 - t.2.2 ≤ (if t.1 = s then H s + d else H t.1) ∧ 0 ≤ t.2.2 ∧ t.2.2 * (n : Int) ≤ tot + d ∧ 0 ≤ t.2.1 := fun t ht => by
      have ht' := hp.mem_iff.1 ht
      rw [List.mem_append, List.mem_cons] at ht'
      have : t = (s, n0 + d, e0) ∨ (t ∈ A ∨ t ∈ B) := by rcases ht' with h1 | h1 | h1; exact .inr (.inl h1); exact .inl h1; exact .inr (.inr h1)
      rcases this with rfl | h1
      · simp only [if_true]
        omega
      · obtain ⟨h2, h3⟩ := hkeys t h1
        rw [if_neg h3]
        have := h.bd t h2
        omega
    refine ⟨?_, by rw [hp.length_eq, hlen]; exact h.len, by rw [← hM']; exact rise_sort _ A _ B rfl hsrt hB, hsum, hbd, fun y hy => ?_, hpos⟩
    · unfold uniM
      rw [(hp.map _).nodup_iff, List.map_append, List.map_cons]
      have := h.uni
      unfold uniM at this
      rw [hM, List.map_append, List.map_cons] at this
      exact this
    · have hys : y ≠ s := fun e => hy (s, n0 + d, e0) (hp.mem_iff.2 (by simp)) e.symm
      show (if y = s then H s + d else H y) ≤ _
      rw [if_neg hys]
      have h1 : H y ≤ leastM n M := h.no y (fun t ht => by
        rw [hM, List.mem_append, List.mem_cons] at ht
        rcases ht with ht | rfl | ht
        · exact hy t (hp.mem_iff.2 (by simp [ht]))
        · exact fun e => hys e.symm
        · exact hy t (hp.mem_iff.2 (by simp [ht])))
      have h2 : leastM n M ≤ leastM n M' := by
        by_cases hl : M.length < n
        · have e1 : leastM n M = 0 := by unfold leastM; rw [if_pos hl]
          have e2 : leastM n M' = 0 := by unfold leastM; rw [if_pos (by rw [hp.length_eq, hlen]; exact hl)]
          omega
        · have hl' : ¬ M'.length < n := by rw [hp.length_eq, hlen]; exact hl
          have hne : M' ≠ [] := fun e => by rw [e] at hl'; simp at hl'; omega
          have e2 : leastM n M' = (M'.getLast hne).2.1 := by
            show (if M'.length < n then 0 else match M'.getLast? with | some x => x.2.1 | none => 0) = _
            rw [if_neg hl', List.getLast?_eq_some_getLast hne]
          rw [e2]
          have hz := hp.mem_iff.1 (List.getLast_mem hne)
          generalize M'.getLast hne = z at hz
          rw [List.mem_append, List.mem_cons] at hz
          have hle := h.least
          rcases hz with hz | rfl | hz
          · exact hle z (hkeys z (.inl hz)).1
          · have := hle _ hmem
            simp only at this ⊢
            omega
          · exact hle z (hkeys z (.inr hz)).1
      omega
  · have hcs := cut_sub n M
    have hcm : ∀ t ∈ cutM n M, t ∈ M := fun t ht => hcs.subset ht
    have hHs : H s ≤ leastM n M := h.no s hno
    have hlenc : (cutM n M).length + 1 ≤ n ∧ (M.length < n → cutM n M = M) ∧ (M.length = n → (cutM n M).length + 1 = n) := by
      unfold cutM
      have := h.len
      split
      · rename_i he
        rw [List.length_dropLast]
        exact ⟨by omega, fun h => by omega, fun _ => by omega⟩
      · exact ⟨by omega, fun _ => rfl, fun h => absurd h (by assumption)⟩
    have hsum0 : sumM (cutM n M) + leastM n M = tot := by
      have hs0 := h.sum
      by_cases he : M.length = n
      · have hne : M ≠ [] := fun e => by rw [e] at he; simp at he; omega
        have e1 : cutM n M = M.dropLast := by unfold cutM; rw [if_pos he]
        have e2 : leastM n M = (M.getLast hne).2.1 := by
          show (if M.length < n then 0 else match M.getLast? with | some x => x.2.1 | none => 0) = _
          rw [if_neg (by omega), List.getLast?_eq_some_getLast hne]
        rw [e1, e2, ← hs0]
        conv => rhs; rw [← List.dropLast_concat_getLast hne]
        rw [sumM_app, sumM_cons]
        simp [sumM]
      · have e1 : cutM n M = M := by unfold cutM; rw [if_neg he]
        have e2 : leastM n M = 0 := by unfold leastM; rw [if_pos (by have := h.len; omega)]
        rw [e1, e2, hs0]; omega
    have hbd : ∀ t ∈ M', (if t.1 = s then H s + d else H t.1) ≤ t.2.1 ∧ t.2.1 - t.2.2 ≤ (if t.1 = s then H s + d else H t.1) ∧ 0 ≤ t.2.2 ∧ t.2.2 * (n : Int) ≤ tot + d ∧ 0 ≤ t.2.1 := fun t ht => by
      have ht' := hp.mem_iff.1 ht
      rw [List.mem_append, List.mem_singleton] at ht'
      rcases ht' with h1 | rfl
      · rw [if_neg (hno t (hcm t h1))]
        have := h.bd t (hcm t h1)
        omega
      · have := h.pos s
        simp only [if_true]
        omega
    refine ⟨?_, by rw [hp.length_eq, List.length_append]; exact hlenc.1, by
      rw [← hM']
      exact rise_sort _ (cutM n M) _ [] rfl (by rw [List.append_nil]; exact h.srt.sublist hcs) (fun b hb => by simp at hb), by
      rw [sumM_perm hp, sumM_app, sumM_cons]
      simp only [show sumM [] = 0 from rfl]
      omega, hbd, fun y hy => ?_, hpos⟩
    · unfold uniM
      rw [(hp.map _).nodup_iff, List.map_append, List.nodup_append]
      refine ⟨h.uni.sublist (hcs.map _), by simp, fun a ha b hb => ?_⟩
      obtain ⟨t, ht, rfl⟩ := List.mem_map.1 ha
      simp only [List.map_cons, List.map_nil, List.mem_singleton] at hb
      rw [hb]
      exact hno t (hcm t ht)
    · have hys : y ≠ s := fun e => hy (s, leastM n M + d, leastM n M) (hp.mem_iff.2 (by simp)) e.symm
      show (if y = s then H s + d else H y) ≤ _
      rw [if_neg hys]
      have h1 : H y ≤ leastM n M := by
        by_cases hyM : ∃ t ∈ M, t.1 = y
        · obtain ⟨t, ht, e⟩ := hyM
          -- it was the last one
          have hnc : t ∉ cutM n M := fun hc => hy t (hp.mem_iff.2 (by simp [hc])) e
          have he : M.length = n := by
            have := h.len
            rcases Nat.lt_or_ge M.length n with hl | hl
            · rw [hlenc.2.1 hl] at hnc; exact absurd ht hnc
            · omega
          have hne : M ≠ [] := fun e => by rw [e] at ht; simp at ht
          have e1 : cutM n M = M.dropLast := by unfold cutM; rw [if_pos he]
          have e2 : leastM n M = (M.getLast hne).2.1 := by
            show (if M.length < n then 0 else match M.getLast? with | some x => x.2.1 | none => 0) = _
            rw [if_neg (by omega), List.getLast?_eq_some_getLast hne]
          have htl : t = M.getLast hne := by
            rw [← List.dropLast_concat_getLast hne, List.mem_append, List.mem_singleton] at ht
            rcases ht with ht | ht
            · rw [e1] at hnc; exact absurd ht hnc
            · exact ht
          have := (h.bd t (by rw [htl]; exact List.getLast_mem hne)).1
          rw [e] at this
          rw [e2, ← htl]
          exact this
        · exact h.no y (fun t ht e => hyM ⟨t, ht, e⟩)
      have h2 : leastM n M ≤ leastM n M' := by
        by_cases hl : M'.length < n
        · have hl2 : M.length < n := by
            have := h.len
            rcases Nat.lt_or_ge M.length n with hl2 | hl2
            · exact hl2
            · exfalso
              have := hlenc.2.2 (by omega)
              rw [hp.length_eq, List.length_append] at hl
              simp at hl
              omega
          have e1 : leastM n M = 0 := by unfold leastM; rw [if_pos hl2]
          have e2 : leastM n M' = 0 := by unfold leastM; rw [if_pos hl]
          omega
        · have hne : M' ≠ [] := fun e => by rw [e] at hl; simp at hl; omega
          have e2 : leastM n M' = (M'.getLast hne).2.1 := by
            show (if M'.length < n then 0 else match M'.getLast? with | some x => x.2.1 | none => 0) = _
            rw [if_neg hl, List.getLast?_eq_some_getLast hne]
          rw [e2]
          have hz := hp.mem_iff.1 (List.getLast_mem hne)
          generalize M'.getLast hne = z at hz
          rw [List.mem_append, List.mem_singleton] at hz
          rcases hz with hz | rfl
          · exact h.least z (hcm z hz)
          · show leastM n M ≤ leastM n M + d; omega
      omega
end
end Go.Proofs.Ytnpiimaapholiaa
