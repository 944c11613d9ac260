/- The contracts of layer 8 (summary): rise. -/
import Derived.Test.YtnpiimaapholiaaSmF
import Derived.Test.YtnpiimaapholiaaPhase
namespace Go.Proofs.Ytnpiimaapholiaa
set_option linter.unusedSimpArgs false
set_option linter.unusedVariables false
open Go.ChangeShapes Go.WideShapes Go.ChangeAt Go.RowKit
/-- one goes ahead of all whose counts are less. -/
def riseE : List Ent → Nat → List Ent
  | L, 0 => L
  | L, i + 1 => match L[i]?, L[i + 1]? with
    | some y, some x => if y.n < x.n then riseE ((L.set i x).set (i + 1) y) i else L
    | _, _ => L
section
variable {w W : World} {Q : SmN} {L M : List Ent} {tot : Int} {σ : KSt}
theorem swap_perm {L : List Ent} {i : Nat} {x y : Ent} (hy : L[i]? = some y) (hx : L[i + 1]? = some x) : ((L.set i x).set (i + 1) y).Perm L := by
  obtain ⟨l1, e1⟩ := List.getElem?_eq_some_iff.1 hy
  obtain ⟨l2, e2⟩ := List.getElem?_eq_some_iff.1 hx
  have hs : L = L.take i ++ y :: x :: L.drop (i + 2) := by
    conv => lhs; rw [← List.take_append_drop i L, List.drop_eq_getElem_cons l1, List.drop_eq_getElem_cons l2, e1, e2]
  have hlen : (L.take i).length = i := by rw [List.length_take]; omega
  have h2 : (L.set i x).set (i + 1) y = L.take i ++ x :: y :: L.drop (i + 2) := by
    conv => lhs; rw [hs]
    rw [List.set_append_right _ _ (by omega), hlen, Nat.sub_self, List.set_cons_zero, List.set_append_right _ _ (by omega), hlen, show i + 1 - i = 1 by omega]
    rfl
  rw [h2]
  conv => rhs; rw [hs]
  exact List.Perm.append_left _ (List.Perm.swap _ _ _)
theorem SmOK.perm {n : Nat} (h : SmOK n L tot σ) (hp : M.Perm L) : SmOK n M tot σ :=
  ⟨fun x hx => h.key x (hp.mem_iff.1 hx), fun i s hi => by
    obtain ⟨x, hx, e⟩ := h.has i s hi
    exact ⟨x, hp.mem_iff.2 hx, e⟩, (hp.map Ent.p).nodup_iff.2 h.nd, by rw [hp.length_eq]; exact h.cnt, fun x hx => h.bd x (hp.mem_iff.1 hx), h.tb⟩
theorem rise_perm : ∀ (i : Nat) (L : List Ent), (riseE L i).Perm L
  | 0, L => by unfold riseE; exact List.Perm.refl _
  | i + 1, L => by
    unfold riseE
    split
    · rename_i y x hy hx
      split
      · exact (rise_perm i _).trans (swap_perm hy hx)
      · exact List.Perm.refl _
    · exact List.Perm.refl _
set_option maxRecDepth 100000 in
set_option maxHeartbeats 4000000 in
theorem smrise_any (i : Nat) (w : World) (h : SmAt w Q L tot σ) (hi : i < L.length) : Calls Try.prog 30 #[.pointer (some ⟨Q.s, 0, none⟩), .int .i64 (i : Int)] w fun e w' => e = .returned (.tuple #[]) ∧ SmAt w' Q (riseE L i) tot σ ∧ Fr Q.F w w' := by
  have H0 := Lib.hid h
  have HI := Lib.hid hi
  obtain ⟨T, hT⟩ : ∃ T, T = riseE L i := ⟨_, rfl⟩
  rw [← hT]
  have HT := Lib.hid hT
  clear h hT hi
  go_enter Try.func30, Try.ntmps30
  go_wp2
  go_loopg [1] i (fun kk si wr => ∃ (j : Nat) (M : List Ent), Hid (kk = j) ∧ si = .int .i64 (j : Int) ∧ Hid (SmAt wr Q M tot σ) ∧ Hid (Fr Q.F w wr) ∧ Hid (j < M.length ∧ T = riseE M j))
  case atStart => exact ⟨i, L, Lib.hid rfl, rfl, H0, Lib.hid (Fr.refl _ _), Lib.hid ⟨HI.out, HT.out⟩⟩
  case round =>
    obtain ⟨j, M, HK, rfl, HM, HF, HJ⟩ := hrel
    obtain ⟨m, hm⟩ : ∃ m, m = M.length := ⟨_, rfl⟩
    have HMM := Lib.hid hm
    have hle := HM.out.le
    have hn := HM.out.n1
    have hj := HJ.out.1
    have HS := Lib.hid (show ∀ wx, Below wr.heap.size wr wx → (fun w' : World => (∀ i, w'.cell? ⟨Q.s, i, none⟩ = (smC Q m tot)[i]?)) wx from fun wx hb => by rw [hm]; exact (HM.out.keep hb).hs.rd)
    have B1 := Lib.hid (show Below wr.heap.size wr wr.drew from below_draws (Below.refl _ _) 1)
    cases j with
    | zero =>
      have t1 : decide ((0 : Int) < ((0 : Nat) : Int)) = false := by decide
      clear hm hle hn hj
      go_upto_region 0 with (fail)
      refine wp_region_held_drew (S := (fun w' : World => (∀ i, w'.cell? ⟨Q.s, i, none⟩ = (smC Q m tot)[i]?))) (by kernel_rfl) (HS.out _ B1.out) (fun hHeld => ?_)
      refine wpAnyH_take (i := 0) (oi := ?_) (v := ?_) ?_ ?_ ?_ ?_ ?_ ?_ ?_ ?_
      rotate_left 2
      · simp only [List.getElem?_toArray, List.getElem?_cons_succ, List.getElem?_cons_zero]; rfl
      · kernel_rfl
      · kernel_rfl
      · kernel_rfl
      · exact fun _ _ _ h => h
      · refine Or.inl ⟨by rfl, ?_⟩
        intro w' hSw
        (try dsimp only at hSw)
        go_simp
        all_goals (with_reducible rfl)
      · assumption
      try simp only [Act.put, List.setIfInBounds_toArray, List.set_cons_zero, List.set_cons_succ]
      refine wpAnyH_take (i := 1) (oi := ?_) (v := ?_) ?_ ?_ ?_ ?_ ?_ ?_ ?_ ?_
      rotate_left 2
      · simp only [List.getElem?_toArray, List.getElem?_cons_succ, List.getElem?_cons_zero]; rfl
      · kernel_rfl
      · kernel_rfl
      · kernel_rfl
      · exact fun _ _ _ h => h
      · refine Or.inl ⟨by rfl, ?_⟩
        intro w' hSw
        (try dsimp only at hSw)
        go_simp
        all_goals (with_reducible rfl)
      · assumption
      try simp only [Act.put, List.setIfInBounds_toArray, List.set_cons_zero, List.set_cons_succ]
      refine wpAnyH_take (i := 2) (oi := ?_) (v := ?_) ?_ ?_ ?_ ?_ ?_ ?_ ?_ ?_
      rotate_left 2
      · simp only [List.getElem?_toArray, List.getElem?_cons_succ, List.getElem?_cons_zero]; rfl
      · kernel_rfl
      · kernel_rfl
      · kernel_rfl
      · exact fun _ _ _ h => h
      · refine Or.inl ⟨by rfl, ?_⟩
        intro w' hSw
        (try dsimp only at hSw)
        go_simp
        all_goals (with_reducible rfl)
      · assumption
      try simp only [Act.put, List.setIfInBounds_toArray, List.set_cons_zero, List.set_cons_succ]
      refine wpAnyH_take (i := 3) (oi := ?_) (v := undef) ?_ ?_ ?_ ?_ ?_ ?_ ?_ ?_
      rotate_left 1
      · simp only [List.getElem?_toArray, List.getElem?_cons_succ, List.getElem?_cons_zero]; rfl
      · kernel_rfl
      · kernel_rfl
      · kernel_rfl
      · exact fun _ _ _ h => h
      · exact Or.inr ⟨by kernel_rfl, rfl⟩
      · assumption
      try simp only [Act.put, List.setIfInBounds_toArray, List.set_cons_zero, List.set_cons_succ]
      refine wpAnyH_take (i := 4) (oi := ?_) (v := undef) ?_ ?_ ?_ ?_ ?_ ?_ ?_ ?_
      rotate_left 1
      · simp only [List.getElem?_toArray, List.getElem?_cons_succ, List.getElem?_cons_zero]; rfl
      · kernel_rfl
      · kernel_rfl
      · kernel_rfl
      · exact fun _ _ _ h => h
      · exact Or.inr ⟨by kernel_rfl, rfl⟩
      · assumption
      try simp only [Act.put, List.setIfInBounds_toArray, List.set_cons_zero, List.set_cons_succ]
      refine wpAnyH_take (i := 5) (oi := ?_) (v := undef) ?_ ?_ ?_ ?_ ?_ ?_ ?_ ?_
      rotate_left 1
      · simp only [List.getElem?_toArray, List.getElem?_cons_succ, List.getElem?_cons_zero]; rfl
      · kernel_rfl
      · kernel_rfl
      · kernel_rfl
      · exact fun _ _ _ h => h
      · exact Or.inr ⟨by kernel_rfl, rfl⟩
      · assumption
      try simp only [Act.put, List.setIfInBounds_toArray, List.set_cons_zero, List.set_cons_succ]
      refine wpAnyH_take (i := 6) (oi := ?_) (v := undef) ?_ ?_ ?_ ?_ ?_ ?_ ?_ ?_
      rotate_left 1
      · simp only [List.getElem?_toArray, List.getElem?_cons_succ, List.getElem?_cons_zero]; rfl
      · kernel_rfl
      · kernel_rfl
      · kernel_rfl
      · exact fun _ _ _ h => h
      · exact Or.inr ⟨by kernel_rfl, rfl⟩
      · assumption
      try simp only [Act.put, List.setIfInBounds_toArray, List.set_cons_zero, List.set_cons_succ]
      refine wpAnyH_take (i := 7) (oi := ?_) (v := undef) ?_ ?_ ?_ ?_ ?_ ?_ ?_ ?_
      rotate_left 1
      · simp only [List.getElem?_toArray, List.getElem?_cons_succ, List.getElem?_cons_zero]; rfl
      · kernel_rfl
      · kernel_rfl
      · kernel_rfl
      · exact fun _ _ _ h => h
      · exact Or.inr ⟨by kernel_rfl, rfl⟩
      · assumption
      try simp only [Act.put, List.setIfInBounds_toArray, List.set_cons_zero, List.set_cons_succ]
      refine wpAnyH_take (i := 8) (oi := ?_) (v := undef) ?_ ?_ ?_ ?_ ?_ ?_ ?_ ?_
      rotate_left 1
      · simp only [List.getElem?_toArray, List.getElem?_cons_succ, List.getElem?_cons_zero]; rfl
      · kernel_rfl
      · kernel_rfl
      · kernel_rfl
      · exact fun _ _ _ h => h
      · exact Or.inr ⟨by kernel_rfl, rfl⟩
      · assumption
      try simp only [Act.put, List.setIfInBounds_toArray, List.set_cons_zero, List.set_cons_succ]
      refine wpAnyH_take (i := 9) (oi := ?_) (v := undef) ?_ ?_ ?_ ?_ ?_ ?_ ?_ ?_
      rotate_left 1
      · simp only [List.getElem?_toArray, List.getElem?_cons_succ, List.getElem?_cons_zero]; rfl
      · kernel_rfl
      · kernel_rfl
      · kernel_rfl
      · exact fun _ _ _ h => h
      · exact Or.inr ⟨by kernel_rfl, rfl⟩
      · assumption
      try simp only [Act.put, List.setIfInBounds_toArray, List.set_cons_zero, List.set_cons_succ]
      refine wpAnyH_take (i := 10) (oi := ?_) (v := undef) ?_ ?_ ?_ ?_ ?_ ?_ ?_ ?_
      rotate_left 1
      · simp only [List.getElem?_toArray, List.getElem?_cons_succ, List.getElem?_cons_zero]; rfl
      · kernel_rfl
      · kernel_rfl
      · kernel_rfl
      · exact fun _ _ _ h => h
      · exact Or.inr ⟨by kernel_rfl, rfl⟩
      · assumption
      try simp only [Act.put, List.setIfInBounds_toArray, List.set_cons_zero, List.set_cons_succ]
      refine wpAnyH_take (i := 11) (oi := ?_) (v := undef) ?_ ?_ ?_ ?_ ?_ ?_ ?_ ?_
      rotate_left 1
      · simp only [List.getElem?_toArray, List.getElem?_cons_succ, List.getElem?_cons_zero]; rfl
      · kernel_rfl
      · kernel_rfl
      · kernel_rfl
      · exact fun _ _ _ h => h
      · exact Or.inr ⟨by kernel_rfl, rfl⟩
      · assumption
      try simp only [Act.put, List.setIfInBounds_toArray, List.set_cons_zero, List.set_cons_succ]
      refine wpAnyH_take (i := 12) (oi := ?_) (v := undef) ?_ ?_ ?_ ?_ ?_ ?_ ?_ ?_
      rotate_left 1
      · simp only [List.getElem?_toArray, List.getElem?_cons_succ, List.getElem?_cons_zero]; rfl
      · kernel_rfl
      · kernel_rfl
      · kernel_rfl
      · exact fun _ _ _ h => h
      · exact Or.inr ⟨by kernel_rfl, rfl⟩
      · assumption
      try simp only [Act.put, List.setIfInBounds_toArray, List.set_cons_zero, List.set_cons_succ]
      refine wpAnyH_take (i := 13) (oi := ?_) (v := undef) ?_ ?_ ?_ ?_ ?_ ?_ ?_ ?_
      rotate_left 1
      · simp only [List.getElem?_toArray, List.getElem?_cons_succ, List.getElem?_cons_zero]; rfl
      · kernel_rfl
      · kernel_rfl
      · kernel_rfl
      · exact fun _ _ _ h => h
      · exact Or.inr ⟨by kernel_rfl, rfl⟩
      · assumption
      try simp only [Act.put, List.setIfInBounds_toArray, List.set_cons_zero, List.set_cons_succ]
      refine wpAnyH_take (i := 14) (oi := ?_) (v := undef) ?_ ?_ ?_ ?_ ?_ ?_ ?_ ?_
      rotate_left 1
      · simp only [List.getElem?_toArray, List.getElem?_cons_succ, List.getElem?_cons_zero]; rfl
      · kernel_rfl
      · kernel_rfl
      · kernel_rfl
      · exact fun _ _ _ h => h
      · exact Or.inr ⟨by kernel_rfl, rfl⟩
      · assumption
      try simp only [Act.put, List.setIfInBounds_toArray, List.set_cons_zero, List.set_cons_succ]
      refine wpAnyH_take (i := 15) (oi := ?_) (v := undef) ?_ ?_ ?_ ?_ ?_ ?_ ?_ ?_
      rotate_left 1
      · simp only [List.getElem?_toArray, List.getElem?_cons_succ, List.getElem?_cons_zero]; rfl
      · kernel_rfl
      · kernel_rfl
      · kernel_rfl
      · exact fun _ _ _ h => h
      · exact Or.inr ⟨by kernel_rfl, rfl⟩
      · assumption
      try simp only [Act.put, List.setIfInBounds_toArray, List.set_cons_zero, List.set_cons_succ]
      refine wpAnyH_take (i := 16) (oi := ?_) (v := undef) ?_ ?_ ?_ ?_ ?_ ?_ ?_ ?_
      rotate_left 1
      · simp only [List.getElem?_toArray, List.getElem?_cons_succ, List.getElem?_cons_zero]; rfl
      · kernel_rfl
      · kernel_rfl
      · kernel_rfl
      · exact fun _ _ _ h => h
      · exact Or.inr ⟨by kernel_rfl, rfl⟩
      · assumption
      try simp only [Act.put, List.setIfInBounds_toArray, List.set_cons_zero, List.set_cons_succ]
      refine wpAnyH_take (i := 17) (oi := ?_) (v := undef) ?_ ?_ ?_ ?_ ?_ ?_ ?_ ?_
      rotate_left 1
      · simp only [List.getElem?_toArray, List.getElem?_cons_succ, List.getElem?_cons_zero]; rfl
      · kernel_rfl
      · kernel_rfl
      · kernel_rfl
      · exact fun _ _ _ h => h
      · exact Or.inr ⟨by kernel_rfl, rfl⟩
      · assumption
      try simp only [Act.put, List.setIfInBounds_toArray, List.set_cons_zero, List.set_cons_succ]
      refine wpAnyH_take (i := 18) (oi := ?_) (v := undef) ?_ ?_ ?_ ?_ ?_ ?_ ?_ ?_
      rotate_left 1
      · simp only [List.getElem?_toArray, List.getElem?_cons_succ, List.getElem?_cons_zero]; rfl
      · kernel_rfl
      · kernel_rfl
      · kernel_rfl
      · exact fun _ _ _ h => h
      · exact Or.inr ⟨by kernel_rfl, rfl⟩
      · assumption
      try simp only [Act.put, List.setIfInBounds_toArray, List.set_cons_zero, List.set_cons_succ]
      refine wpAnyH_take (i := 19) (oi := ?_) (v := undef) ?_ ?_ ?_ ?_ ?_ ?_ ?_ ?_
      rotate_left 1
      · simp only [List.getElem?_toArray, List.getElem?_cons_succ, List.getElem?_cons_zero]; rfl
      · kernel_rfl
      · kernel_rfl
      · kernel_rfl
      · exact fun _ _ _ h => h
      · exact Or.inr ⟨by kernel_rfl, rfl⟩
      · assumption
      try simp only [Act.put, List.setIfInBounds_toArray, List.set_cons_zero, List.set_cons_succ]
      refine wpAnyH_take (i := 20) (oi := ?_) (v := undef) ?_ ?_ ?_ ?_ ?_ ?_ ?_ ?_
      rotate_left 1
      · simp only [List.getElem?_toArray, List.getElem?_cons_succ, List.getElem?_cons_zero]; rfl
      · kernel_rfl
      · kernel_rfl
      · kernel_rfl
      · exact fun _ _ _ h => h
      · exact Or.inr ⟨by kernel_rfl, rfl⟩
      · assumption
      try simp only [Act.put, List.setIfInBounds_toArray, List.set_cons_zero, List.set_cons_succ]
      refine wpAnyH_take (i := 21) (oi := ?_) (v := ?_) ?_ ?_ ?_ ?_ ?_ ?_ ?_ ?_
      rotate_left 2
      · simp only [List.getElem?_toArray, List.getElem?_cons_succ, List.getElem?_cons_zero]; rfl
      · kernel_rfl
      · kernel_rfl
      · kernel_rfl
      · exact fun _ _ _ h => h
      · refine Or.inl ⟨by rfl, ?_⟩
        intro w' hSw
        (try dsimp only at hSw)
        go_simp
        all_goals (with_reducible rfl)
      · assumption
      try simp only [Act.put, List.setIfInBounds_toArray, List.set_cons_zero, List.set_cons_succ]
      refine wpAnyH_done (by kernel_rfl) ?_ _
      clear hHeld
      go_wp2
      go_end0
      have := HJ.out.2
      unfold riseE at this
      rw [this]
      exact ⟨rfl, HM.out.keep B1.out, HF.out.trans (Fr.of_below B1.out)⟩
    | succ j =>
      have jl : j < M.length := by omega
      obtain ⟨y, hy⟩ : ∃ y, M[j]? = some y := ⟨_, List.getElem?_eq_getElem jl⟩
      obtain ⟨x, hx⟩ : ∃ x, M[j + 1]? = some x := ⟨_, List.getElem?_eq_getElem hj⟩
      obtain ⟨j1, hj1⟩ : ∃ k, k = j + 1 := ⟨_, rfl⟩
      rw [← hj1] at hx HK HJ ⊢
      have t1 : decide ((0 : Int) < (j1 : Int)) = true := by rw [decide_eq_true_iff]; omega
      have t1' : 0 < j1 := by omega
      have e1 : IntKind.i64.wrap ((j1 : Int) - 1) = (j : Int) := by rw [IntKind.wrap_i64]; omega
      have t2 : (0 : Int) ≤ (j : Int) := by omega
      have t3 : (j : Int) < (m : Int) := by omega
      have t4 : (0 : Int) ≤ (j1 : Int) := by omega
      have t5 : (j1 : Int) < (m : Int) := by omega
      have HXY := Lib.hid (And.intro hy hx)
      have HJJ := Lib.hid (show j1 = j + 1 ∧ j < M.length ∧ j1 < M.length by omega)
      have HS2 := Lib.hid (show ∀ wx, Below wr.heap.size wr wx → (fun w' : World => (∀ i, w'.cell? ⟨Q.s, i, none⟩ = (smC Q m tot)[i]?) ∧ (w'.cell? ⟨Q.g, j * 3, none⟩ = some (.int .i64 y.n) ∧ w'.cell? ⟨Q.g, j * 3 + 1, none⟩ = some (.int .i64 y.e) ∧ w'.cell? ⟨Q.g, j * 3 + 2, none⟩ = some (.int .i64 (y.p : Int))) ∧ (w'.cell? ⟨Q.g, j1 * 3, none⟩ = some (.int .i64 x.n) ∧ w'.cell? ⟨Q.g, j1 * 3 + 1, none⟩ = some (.int .i64 x.e) ∧ w'.cell? ⟨Q.g, j1 * 3 + 2, none⟩ = some (.int .i64 (x.p : Int)))) wx from fun wx hb => ⟨HS.out wx hb, (HM.out.keep hb).cell hy, (HM.out.keep hb).cell hx⟩)
      have hunf : riseE M j1 = if y.n < x.n then riseE ((M.set j x).set j1 y) j else M := by
        rw [hj1]
        conv => lhs; unfold riseE
        rw [hy, ← hj1, hx]
      have HU := Lib.hid hunf
      clear hm hle hn hj jl hy hx hj1 hunf
      go_upto_region 0 with (fail)
      refine wp_region_held_drew (S := (fun w' : World => (∀ i, w'.cell? ⟨Q.s, i, none⟩ = (smC Q m tot)[i]?) ∧ (w'.cell? ⟨Q.g, j * 3, none⟩ = some (.int .i64 y.n) ∧ w'.cell? ⟨Q.g, j * 3 + 1, none⟩ = some (.int .i64 y.e) ∧ w'.cell? ⟨Q.g, j * 3 + 2, none⟩ = some (.int .i64 (y.p : Int))) ∧ (w'.cell? ⟨Q.g, j1 * 3, none⟩ = some (.int .i64 x.n) ∧ w'.cell? ⟨Q.g, j1 * 3 + 1, none⟩ = some (.int .i64 x.e) ∧ w'.cell? ⟨Q.g, j1 * 3 + 2, none⟩ = some (.int .i64 (x.p : Int))))) (by kernel_rfl) (HS2.out _ B1.out) (fun hHeld => ?_)
      refine wpAnyH_take (i := 0) (oi := ?_) (v := ?_) ?_ ?_ ?_ ?_ ?_ ?_ ?_ ?_
      rotate_left 2
      · simp only [List.getElem?_toArray, List.getElem?_cons_succ, List.getElem?_cons_zero]; rfl
      · kernel_rfl
      · kernel_rfl
      · kernel_rfl
      · exact fun _ _ _ h => h
      · refine Or.inl ⟨by rfl, ?_⟩
        intro w' hSw
        (try dsimp only at hSw)
        go_simp
        all_goals (with_reducible rfl)
      · assumption
      try simp only [Act.put, List.setIfInBounds_toArray, List.set_cons_zero, List.set_cons_succ]
      refine wpAnyH_take (i := 1) (oi := ?_) (v := ?_) ?_ ?_ ?_ ?_ ?_ ?_ ?_ ?_
      rotate_left 2
      · simp only [List.getElem?_toArray, List.getElem?_cons_succ, List.getElem?_cons_zero]; rfl
      · kernel_rfl
      · kernel_rfl
      · kernel_rfl
      · exact fun _ _ _ h => h
      · refine Or.inl ⟨by rfl, ?_⟩
        intro w' hSw
        (try dsimp only at hSw)
        go_simp
        all_goals (with_reducible rfl)
      · assumption
      try simp only [Act.put, List.setIfInBounds_toArray, List.set_cons_zero, List.set_cons_succ]
      refine wpAnyH_take (i := 2) (oi := ?_) (v := ?_) ?_ ?_ ?_ ?_ ?_ ?_ ?_ ?_
      rotate_left 2
      · simp only [List.getElem?_toArray, List.getElem?_cons_succ, List.getElem?_cons_zero]; rfl
      · kernel_rfl
      · kernel_rfl
      · kernel_rfl
      · exact fun _ _ _ h => h
      · refine Or.inl ⟨by rfl, ?_⟩
        intro w' hSw
        (try dsimp only at hSw)
        go_simp
        all_goals (with_reducible rfl)
      · assumption
      try simp only [Act.put, List.setIfInBounds_toArray, List.set_cons_zero, List.set_cons_succ]
      refine wpAnyH_take (i := 3) (oi := ?_) (v := ?_) ?_ ?_ ?_ ?_ ?_ ?_ ?_ ?_
      rotate_left 2
      · simp only [List.getElem?_toArray, List.getElem?_cons_succ, List.getElem?_cons_zero]; rfl
      · kernel_rfl
      · kernel_rfl
      · kernel_rfl
      · exact fun _ _ _ h => h
      · refine Or.inl ⟨by rfl, ?_⟩
        intro w' hSw
        (try dsimp only at hSw)
        go_simp
        all_goals (with_reducible rfl)
      · assumption
      try simp only [Act.put, List.setIfInBounds_toArray, List.set_cons_zero, List.set_cons_succ]
      refine wpAnyH_take (i := 4) (oi := ?_) (v := ?_) ?_ ?_ ?_ ?_ ?_ ?_ ?_ ?_
      rotate_left 2
      · simp only [List.getElem?_toArray, List.getElem?_cons_succ, List.getElem?_cons_zero]; rfl
      · kernel_rfl
      · kernel_rfl
      · kernel_rfl
      · exact fun _ _ _ h => h
      · refine Or.inl ⟨by rfl, ?_⟩
        intro w' hSw
        (try dsimp only at hSw)
        go_simp
        all_goals (with_reducible rfl)
      · assumption
      try simp only [Act.put, List.setIfInBounds_toArray, List.set_cons_zero, List.set_cons_succ]
      refine wpAnyH_take (i := 5) (oi := ?_) (v := ?_) ?_ ?_ ?_ ?_ ?_ ?_ ?_ ?_
      rotate_left 2
      · simp only [List.getElem?_toArray, List.getElem?_cons_succ, List.getElem?_cons_zero]; rfl
      · kernel_rfl
      · kernel_rfl
      · kernel_rfl
      · exact fun _ _ _ h => h
      · refine Or.inl ⟨by rfl, ?_⟩
        intro w' hSw
        (try dsimp only at hSw)
        go_simp
        all_goals (with_reducible rfl)
      · assumption
      try simp only [Act.put, List.setIfInBounds_toArray, List.set_cons_zero, List.set_cons_succ]
      refine wpAnyH_take (i := 6) (oi := ?_) (v := ?_) ?_ ?_ ?_ ?_ ?_ ?_ ?_ ?_
      rotate_left 2
      · simp only [List.getElem?_toArray, List.getElem?_cons_succ, List.getElem?_cons_zero]; rfl
      · kernel_rfl
      · kernel_rfl
      · kernel_rfl
      · exact fun _ _ _ h => h
      · refine Or.inl ⟨by rfl, ?_⟩
        intro w' hSw
        (try dsimp only at hSw)
        go_simp
        all_goals (with_reducible rfl)
      · assumption
      try simp only [Act.put, List.setIfInBounds_toArray, List.set_cons_zero, List.set_cons_succ]
      refine wpAnyH_take (i := 7) (oi := ?_) (v := ?_) ?_ ?_ ?_ ?_ ?_ ?_ ?_ ?_
      rotate_left 2
      · simp only [List.getElem?_toArray, List.getElem?_cons_succ, List.getElem?_cons_zero]; rfl
      · kernel_rfl
      · kernel_rfl
      · kernel_rfl
      · exact fun _ _ _ h => h
      · refine Or.inl ⟨by rfl, ?_⟩
        intro w' hSw
        (try dsimp only at hSw)
        go_simp
        all_goals (with_reducible rfl)
      · assumption
      try simp only [Act.put, List.setIfInBounds_toArray, List.set_cons_zero, List.set_cons_succ]
      refine wpAnyH_take (i := 8) (oi := ?_) (v := ?_) ?_ ?_ ?_ ?_ ?_ ?_ ?_ ?_
      rotate_left 2
      · simp only [List.getElem?_toArray, List.getElem?_cons_succ, List.getElem?_cons_zero]; rfl
      · kernel_rfl
      · kernel_rfl
      · kernel_rfl
      · exact fun _ _ _ h => h
      · refine Or.inl ⟨by rfl, ?_⟩
        intro w' hSw
        (try dsimp only at hSw)
        go_simp
        all_goals (with_reducible rfl)
      · assumption
      try simp only [Act.put, List.setIfInBounds_toArray, List.set_cons_zero, List.set_cons_succ]
      refine wpAnyH_take (i := 9) (oi := ?_) (v := ?_) ?_ ?_ ?_ ?_ ?_ ?_ ?_ ?_
      rotate_left 2
      · simp only [List.getElem?_toArray, List.getElem?_cons_succ, List.getElem?_cons_zero]; rfl
      · kernel_rfl
      · kernel_rfl
      · kernel_rfl
      · exact fun _ _ _ h => h
      · refine Or.inl ⟨by rfl, ?_⟩
        intro w' hSw
        (try dsimp only at hSw)
        go_simp
        all_goals (with_reducible rfl)
      · assumption
      try simp only [Act.put, List.setIfInBounds_toArray, List.set_cons_zero, List.set_cons_succ]
      refine wpAnyH_take (i := 10) (oi := ?_) (v := ?_) ?_ ?_ ?_ ?_ ?_ ?_ ?_ ?_
      rotate_left 2
      · simp only [List.getElem?_toArray, List.getElem?_cons_succ, List.getElem?_cons_zero]; rfl
      · kernel_rfl
      · kernel_rfl
      · kernel_rfl
      · exact fun _ _ _ h => h
      · refine Or.inl ⟨by rfl, ?_⟩
        intro w' hSw
        (try dsimp only at hSw)
        go_simp
        all_goals (with_reducible rfl)
      · assumption
      try simp only [Act.put, List.setIfInBounds_toArray, List.set_cons_zero, List.set_cons_succ]
      refine wpAnyH_take (i := 11) (oi := ?_) (v := ?_) ?_ ?_ ?_ ?_ ?_ ?_ ?_ ?_
      rotate_left 2
      · simp only [List.getElem?_toArray, List.getElem?_cons_succ, List.getElem?_cons_zero]; rfl
      · kernel_rfl
      · kernel_rfl
      · kernel_rfl
      · exact fun _ _ _ h => h
      · refine Or.inl ⟨by rfl, ?_⟩
        intro w' hSw
        (try dsimp only at hSw)
        go_simp
        all_goals (with_reducible rfl)
      · assumption
      try simp only [Act.put, List.setIfInBounds_toArray, List.set_cons_zero, List.set_cons_succ]
      refine wpAnyH_take (i := 12) (oi := ?_) (v := ?_) ?_ ?_ ?_ ?_ ?_ ?_ ?_ ?_
      rotate_left 2
      · simp only [List.getElem?_toArray, List.getElem?_cons_succ, List.getElem?_cons_zero]; rfl
      · kernel_rfl
      · kernel_rfl
      · kernel_rfl
      · exact fun _ _ _ h => h
      · refine Or.inl ⟨by rfl, ?_⟩
        intro w' hSw
        (try dsimp only at hSw)
        go_simp
        all_goals (with_reducible rfl)
      · assumption
      try simp only [Act.put, List.setIfInBounds_toArray, List.set_cons_zero, List.set_cons_succ]
      refine wpAnyH_take (i := 13) (oi := ?_) (v := ?_) ?_ ?_ ?_ ?_ ?_ ?_ ?_ ?_
      rotate_left 2
      · simp only [List.getElem?_toArray, List.getElem?_cons_succ, List.getElem?_cons_zero]; rfl
      · kernel_rfl
      · kernel_rfl
      · kernel_rfl
      · exact fun _ _ _ h => h
      · refine Or.inl ⟨by rfl, ?_⟩
        intro w' hSw
        (try dsimp only at hSw)
        go_simp
        all_goals (with_reducible rfl)
      · assumption
      try simp only [Act.put, List.setIfInBounds_toArray, List.set_cons_zero, List.set_cons_succ]
      refine wpAnyH_take (i := 14) (oi := ?_) (v := ?_) ?_ ?_ ?_ ?_ ?_ ?_ ?_ ?_
      rotate_left 2
      · simp only [List.getElem?_toArray, List.getElem?_cons_succ, List.getElem?_cons_zero]; rfl
      · kernel_rfl
      · kernel_rfl
      · kernel_rfl
      · exact fun _ _ _ h => h
      · refine Or.inl ⟨by rfl, ?_⟩
        intro w' hSw
        (try dsimp only at hSw)
        go_simp
        all_goals (with_reducible rfl)
      · assumption
      try simp only [Act.put, List.setIfInBounds_toArray, List.set_cons_zero, List.set_cons_succ]
      refine wpAnyH_take (i := 15) (oi := ?_) (v := ?_) ?_ ?_ ?_ ?_ ?_ ?_ ?_ ?_
      rotate_left 2
      · simp only [List.getElem?_toArray, List.getElem?_cons_succ, List.getElem?_cons_zero]; rfl
      · kernel_rfl
      · kernel_rfl
      · kernel_rfl
      · exact fun _ _ _ h => h
      · refine Or.inl ⟨by rfl, ?_⟩
        intro w' hSw
        (try dsimp only at hSw)
        go_simp
        all_goals (with_reducible rfl)
      · assumption
      try simp only [Act.put, List.setIfInBounds_toArray, List.set_cons_zero, List.set_cons_succ]
      refine wpAnyH_take (i := 16) (oi := ?_) (v := ?_) ?_ ?_ ?_ ?_ ?_ ?_ ?_ ?_
      rotate_left 2
      · simp only [List.getElem?_toArray, List.getElem?_cons_succ, List.getElem?_cons_zero]; rfl
      · kernel_rfl
      · kernel_rfl
      · kernel_rfl
      · exact fun _ _ _ h => h
      · refine Or.inl ⟨by rfl, ?_⟩
        intro w' hSw
        (try dsimp only at hSw)
        go_simp
        all_goals (with_reducible rfl)
      · assumption
      try simp only [Act.put, List.setIfInBounds_toArray, List.set_cons_zero, List.set_cons_succ]
      refine wpAnyH_take (i := 17) (oi := ?_) (v := ?_) ?_ ?_ ?_ ?_ ?_ ?_ ?_ ?_
      rotate_left 2
      · simp only [List.getElem?_toArray, List.getElem?_cons_succ, List.getElem?_cons_zero]; rfl
      · kernel_rfl
      · kernel_rfl
      · kernel_rfl
      · exact fun _ _ _ h => h
      · refine Or.inl ⟨by rfl, ?_⟩
        intro w' hSw
        (try dsimp only at hSw)
        go_simp
        all_goals (with_reducible rfl)
      · assumption
      try simp only [Act.put, List.setIfInBounds_toArray, List.set_cons_zero, List.set_cons_succ]
      refine wpAnyH_take (i := 18) (oi := ?_) (v := ?_) ?_ ?_ ?_ ?_ ?_ ?_ ?_ ?_
      rotate_left 2
      · simp only [List.getElem?_toArray, List.getElem?_cons_succ, List.getElem?_cons_zero]; rfl
      · kernel_rfl
      · kernel_rfl
      · kernel_rfl
      · exact fun _ _ _ h => h
      · refine Or.inl ⟨by rfl, ?_⟩
        intro w' hSw
        (try dsimp only at hSw)
        go_simp
        all_goals (with_reducible rfl)
      · assumption
      try simp only [Act.put, List.setIfInBounds_toArray, List.set_cons_zero, List.set_cons_succ]
      refine wpAnyH_take (i := 19) (oi := ?_) (v := ?_) ?_ ?_ ?_ ?_ ?_ ?_ ?_ ?_
      rotate_left 2
      · simp only [List.getElem?_toArray, List.getElem?_cons_succ, List.getElem?_cons_zero]; rfl
      · kernel_rfl
      · kernel_rfl
      · kernel_rfl
      · exact fun _ _ _ h => h
      · refine Or.inl ⟨by rfl, ?_⟩
        intro w' hSw
        (try dsimp only at hSw)
        go_simp
        all_goals (with_reducible rfl)
      · assumption
      try simp only [Act.put, List.setIfInBounds_toArray, List.set_cons_zero, List.set_cons_succ]
      refine wpAnyH_take (i := 20) (oi := ?_) (v := ?_) ?_ ?_ ?_ ?_ ?_ ?_ ?_ ?_
      rotate_left 2
      · simp only [List.getElem?_toArray, List.getElem?_cons_succ, List.getElem?_cons_zero]; rfl
      · kernel_rfl
      · kernel_rfl
      · kernel_rfl
      · exact fun _ _ _ h => h
      · refine Or.inl ⟨by rfl, ?_⟩
        intro w' hSw
        (try dsimp only at hSw)
        go_simp
        all_goals (with_reducible rfl)
      · assumption
      try simp only [Act.put, List.setIfInBounds_toArray, List.set_cons_zero, List.set_cons_succ]
      refine wpAnyH_take (i := 21) (oi := ?_) (v := ?_) ?_ ?_ ?_ ?_ ?_ ?_ ?_ ?_
      rotate_left 2
      · simp only [List.getElem?_toArray, List.getElem?_cons_succ, List.getElem?_cons_zero]; rfl
      · kernel_rfl
      · kernel_rfl
      · kernel_rfl
      · exact fun _ _ _ h => h
      · refine Or.inl ⟨by rfl, ?_⟩
        intro w' hSw
        (try dsimp only at hSw)
        go_simp
        all_goals (with_reducible rfl)
      · assumption
      try simp only [Act.put, List.setIfInBounds_toArray, List.set_cons_zero, List.set_cons_succ]
      refine wpAnyH_done (by kernel_rfl) ?_ _
      clear hHeld
      by_cases hlt : y.n < x.n
      · as_aux_lemma =>
          have b1 : decide (y.n < x.n) = true := by rw [decide_eq_true_iff]; exact hlt
          have HLT := Lib.hid hlt
          have B2 := Lib.hid (show Below wr.heap.size wr wr.drew.drew from below_draws (Below.refl _ _) 2)
          obtain ⟨R, hg, hl⟩ := (HM.out.keep B2.out).hg
          obtain ⟨w2, hw2⟩ : ∃ z, z = wr.drew.drew := ⟨_, rfl⟩
          have hjR : j < (M ++ R).length := by have := HJJ.out.2.1; rw [List.length_append]; omega
          have hxR : (M ++ R)[j1]? = some x := by rw [List.getElem?_append_left HJJ.out.2.2]; exact HXY.out.2
          have hyR : (M ++ R)[j]? = some y := by rw [List.getElem?_append_left HJJ.out.2.1]; exact HXY.out.1
          rw [← hw2] at hg
          have hS2 : (fun w' : World => (∀ i, w'.cell? ⟨Q.s, i, none⟩ = (smC Q m tot)[i]?) ∧ (w'.cell? ⟨Q.g, j * 3, none⟩ = some (.int .i64 y.n) ∧ w'.cell? ⟨Q.g, j * 3 + 1, none⟩ = some (.int .i64 y.e) ∧ w'.cell? ⟨Q.g, j * 3 + 2, none⟩ = some (.int .i64 (y.p : Int))) ∧ (w'.cell? ⟨Q.g, j1 * 3, none⟩ = some (.int .i64 x.n) ∧ w'.cell? ⟨Q.g, j1 * 3 + 1, none⟩ = some (.int .i64 x.e) ∧ w'.cell? ⟨Q.g, j1 * 3 + 2, none⟩ = some (.int .i64 (x.p : Int)))) w2 := by rw [hw2]; exact HS2.out _ B2.out
          have st1 := rws_store3 encE_len hg hjR x (v0 := .int .i64 x.n) (v1 := .int .i64 x.e) (v2 := .int .i64 (x.p : Int)) rfl
          have g3 : Blk (setObj w2 Q.g (.cells (rws encE ((M ++ R).set j x)).toArray 74 (0, 0))) Q.g 74 (rws encE ((M ++ R).set j x)).toArray := setObj_at (lt_of_block hg) _
          have f3 : Fr (fun k => k = Q.g) w2 (setObj w2 Q.g (.cells (rws encE ((M ++ R).set j x)).toArray 74 (0, 0))) := Fr.setObj (F := fun k => k = Q.g) (Fr.refl _ _) rfl _
          obtain ⟨w3, hw3⟩ : ∃ z, z = setObj w2 Q.g (.cells (rws encE ((M ++ R).set j x)).toArray 74 (0, 0)) := ⟨_, rfl⟩
          rw [← hw3] at st1 g3 f3
          have hj1R : j1 < ((M ++ R).set j x).length := by have := HJJ.out.2.2; rw [List.length_set, List.length_append]; omega
          have st2 := rws_store3 encE_len g3 hj1R y (v0 := .int .i64 y.n) (v1 := .int .i64 y.e) (v2 := .int .i64 (y.p : Int)) rfl
          have hx3 : ((M ++ R).set j x)[j1]? = some x := by rw [List.getElem?_set_ne (by have := HJJ.out.1; omega)]; exact hxR
          have d0 : w3.cell? ⟨Q.g, j1 * 3, none⟩ = some (.int .i64 x.n) := rws_cell encE_len g3 hx3 (j := 0) (by omega)
          have d1 : w3.cell? ⟨Q.g, j1 * 3 + 1, none⟩ = some (.int .i64 x.e) := rws_cell encE_len g3 hx3 (j := 1) (by omega)
          have d2 : w3.cell? ⟨Q.g, j1 * 3 + 2, none⟩ = some (.int .i64 (x.p : Int)) := rws_cell encE_len g3 hx3 (j := 2) (by omega)
          have gw := hg.wr
          have gw3 := g3.wr
          have HG := Lib.hid (And.intro hg hl)
          have G3 := Lib.hid g3
          have F3 := Lib.hid f3
          clear hjR hxR hyR hj1R hx3 hg hl g3 f3
          go_upto_region 1 with (fail)
          clear hlt
          refine Ph.start [27] (Ph.pick [(fun w' : World => (∀ i, w'.cell? ⟨Q.s, i, none⟩ = (smC Q m tot)[i]?) ∧ (w'.cell? ⟨Q.g, j * 3, none⟩ = some (.int .i64 y.n) ∧ w'.cell? ⟨Q.g, j * 3 + 1, none⟩ = some (.int .i64 y.e) ∧ w'.cell? ⟨Q.g, j * 3 + 2, none⟩ = some (.int .i64 (y.p : Int))) ∧ (w'.cell? ⟨Q.g, j1 * 3, none⟩ = some (.int .i64 x.n) ∧ w'.cell? ⟨Q.g, j1 * 3 + 1, none⟩ = some (.int .i64 x.e) ∧ w'.cell? ⟨Q.g, j1 * 3 + 2, none⟩ = some (.int .i64 (x.p : Int)))), (fun w' : World => (∀ i, w'.cell? ⟨Q.s, i, none⟩ = (smC Q m tot)[i]?))]) (by kernel_rfl) (Ph.pick0 (by rw [← hw2]; exact hS2)) (fun hHeld hOrd => ?_)
          rw [← hw2]
          clear hw3
          rw [← hw2] at hHeld
          have B2 : Hid (Below wr.heap.size wr w2) := Lib.hid (by rw [hw2]; exact B2.out)
          obtain ⟨q0, q1, q2⟩ := hS2.2.1
          clear hw2 hS2
          have HS3 := Lib.hid (show (fun w' : World => (∀ i, w'.cell? ⟨Q.s, i, none⟩ = (smC Q m tot)[i]?)) w3 from by rw [HMM.out]; exact ((HM.out.keep B2.out).hs.fr F3.out HM.out.ne.1).rd)
          have HS4 := Lib.hid (show (fun w' : World => (∀ i, w'.cell? ⟨Q.s, i, none⟩ = (smC Q m tot)[i]?)) (setObj w3 Q.g (.cells (rws encE (((M ++ R).set j x).set j1 y)).toArray 74 (0, 0))) from by rw [HMM.out]; exact (((HM.out.keep B2.out).hs.fr F3.out HM.out.ne.1).fr (Fr.setObj (F := fun k => k = Q.g) (Fr.refl _ _) rfl _) HM.out.ne.1).rd)
          have HT := Lib.hid (show ∀ p, p ≤ 1 → ∀ w', Ph.pick [(fun w' : World => (∀ i, w'.cell? ⟨Q.s, i, none⟩ = (smC Q m tot)[i]?) ∧ (w'.cell? ⟨Q.g, j * 3, none⟩ = some (.int .i64 y.n) ∧ w'.cell? ⟨Q.g, j * 3 + 1, none⟩ = some (.int .i64 y.e) ∧ w'.cell? ⟨Q.g, j * 3 + 2, none⟩ = some (.int .i64 (y.p : Int))) ∧ (w'.cell? ⟨Q.g, j1 * 3, none⟩ = some (.int .i64 x.n) ∧ w'.cell? ⟨Q.g, j1 * 3 + 1, none⟩ = some (.int .i64 x.e) ∧ w'.cell? ⟨Q.g, j1 * 3 + 2, none⟩ = some (.int .i64 (x.p : Int)))), (fun w' : World => (∀ i, w'.cell? ⟨Q.s, i, none⟩ = (smC Q m tot)[i]?))] p w' → (fun w' : World => (∀ i, w'.cell? ⟨Q.s, i, none⟩ = (smC Q m tot)[i]?)) w' from fun p hp w' h => by
            match p, hp, h with
            | 0, _, h => exact h.1
            | 1, _, h => exact h)
          refine Ph.takeAll (i := 6) (oi := ?_) (v := ?_) (p := 0) ((fun w' : World => (∀ i, w'.cell? ⟨Q.s, i, none⟩ = (smC Q m tot)[i]?))) (HT.out) ?_ ?_ ?_ ?_ hOrd ?_ ?_ ?_ ?_ ?_ ?_
          rotate_left 2
          · simp only [List.getElem?_toArray, List.getElem?_cons_succ, List.getElem?_cons_zero]; rfl
          · kernel_rfl
          · kernel_rfl
          · kernel_rfl
          · kernel_rfl
          · kernel_rfl
          · exact fun _ _ _ h => h
          · refine Or.inl ⟨by rfl, ?_⟩
            intro w' hSw
            (try dsimp only at hSw)
            go_simp
            all_goals (with_reducible rfl)
          · assumption
          clear hOrd
          intro hOrd
          try simp only [Act.put, List.setIfInBounds_toArray, List.set_cons_zero, List.set_cons_succ] at hOrd ⊢
          refine Ph.takeAll (i := 7) (oi := ?_) (v := ?_) (p := 0) ((fun w' : World => (∀ i, w'.cell? ⟨Q.s, i, none⟩ = (smC Q m tot)[i]?))) (HT.out) ?_ ?_ ?_ ?_ hOrd ?_ ?_ ?_ ?_ ?_ ?_
          rotate_left 2
          · simp only [List.getElem?_toArray, List.getElem?_cons_succ, List.getElem?_cons_zero]; rfl
          · kernel_rfl
          · kernel_rfl
          · kernel_rfl
          · kernel_rfl
          · kernel_rfl
          · exact fun _ _ _ h => h
          · refine Or.inl ⟨by rfl, ?_⟩
            intro w' hSw
            (try dsimp only at hSw)
            go_simp
            all_goals (with_reducible rfl)
          · assumption
          clear hOrd
          intro hOrd
          try simp only [Act.put, List.setIfInBounds_toArray, List.set_cons_zero, List.set_cons_succ] at hOrd ⊢
          refine Ph.takeAll (i := 8) (oi := ?_) (v := ?_) (p := 0) ((fun w' : World => (∀ i, w'.cell? ⟨Q.s, i, none⟩ = (smC Q m tot)[i]?))) (HT.out) ?_ ?_ ?_ ?_ hOrd ?_ ?_ ?_ ?_ ?_ ?_
          rotate_left 2
          · simp only [List.getElem?_toArray, List.getElem?_cons_succ, List.getElem?_cons_zero]; rfl
          · kernel_rfl
          · kernel_rfl
          · kernel_rfl
          · kernel_rfl
          · kernel_rfl
          · exact fun _ _ _ h => h
          · refine Or.inl ⟨by rfl, ?_⟩
            intro w' hSw
            (try dsimp only at hSw)
            go_simp
            all_goals (with_reducible rfl)
          · assumption
          clear hOrd
          intro hOrd
          try simp only [Act.put, List.setIfInBounds_toArray, List.set_cons_zero, List.set_cons_succ] at hOrd ⊢
          refine Ph.takeAll (i := 9) (oi := ?_) (v := ?_) (p := 0) ((fun w' : World => (∀ i, w'.cell? ⟨Q.s, i, none⟩ = (smC Q m tot)[i]?))) (HT.out) ?_ ?_ ?_ ?_ hOrd ?_ ?_ ?_ ?_ ?_ ?_
          rotate_left 2
          · simp only [List.getElem?_toArray, List.getElem?_cons_succ, List.getElem?_cons_zero]; rfl
          · kernel_rfl
          · kernel_rfl
          · kernel_rfl
          · kernel_rfl
          · kernel_rfl
          · exact fun _ _ _ h => h
          · refine Or.inl ⟨by rfl, ?_⟩
            intro w' hSw
            (try dsimp only at hSw)
            go_simp
            all_goals (with_reducible rfl)
          · assumption
          clear hOrd
          intro hOrd
          try simp only [Act.put, List.setIfInBounds_toArray, List.set_cons_zero, List.set_cons_succ] at hOrd ⊢
          refine Ph.takeAll (i := 10) (oi := ?_) (v := ?_) (p := 0) ((fun w' : World => (∀ i, w'.cell? ⟨Q.s, i, none⟩ = (smC Q m tot)[i]?))) (HT.out) ?_ ?_ ?_ ?_ hOrd ?_ ?_ ?_ ?_ ?_ ?_
          rotate_left 2
          · simp only [List.getElem?_toArray, List.getElem?_cons_succ, List.getElem?_cons_zero]; rfl
          · kernel_rfl
          · kernel_rfl
          · kernel_rfl
          · kernel_rfl
          · kernel_rfl
          · exact fun _ _ _ h => h
          · refine Or.inl ⟨by rfl, ?_⟩
            intro w' hSw
            (try dsimp only at hSw)
            go_simp
            all_goals (with_reducible rfl)
          · assumption
          clear hOrd
          intro hOrd
          try simp only [Act.put, List.setIfInBounds_toArray, List.set_cons_zero, List.set_cons_succ] at hOrd ⊢
          refine Ph.take (i := 0) (oi := ?_) (v := ?_) (p := 0) ?_ ?_ ?_ ?_ hOrd ?_ ?_ ?_ ?_ ?_ ?_
          rotate_left 2
          · simp only [List.getElem?_toArray, List.getElem?_cons_succ, List.getElem?_cons_zero]; rfl
          · kernel_rfl
          · kernel_rfl
          · kernel_rfl
          · kernel_rfl
          · kernel_rfl
          · exact fun _ _ _ h => h
          · refine Or.inl ⟨by rfl, ?_⟩
            intro w' hSw
            (try simp only [Ph.pick, List.getD_cons_succ, List.getD_cons_zero] at hSw)
            go_simp
            all_goals (with_reducible rfl)
          · assumption
          clear hOrd
          intro hOrd
          try simp only [Act.put, List.setIfInBounds_toArray, List.set_cons_zero, List.set_cons_succ] at hOrd ⊢
          refine Ph.take (i := 1) (oi := ?_) (v := ?_) (p := 0) ?_ ?_ ?_ ?_ hOrd ?_ ?_ ?_ ?_ ?_ ?_
          rotate_left 2
          · simp only [List.getElem?_toArray, List.getElem?_cons_succ, List.getElem?_cons_zero]; rfl
          · kernel_rfl
          · kernel_rfl
          · kernel_rfl
          · kernel_rfl
          · kernel_rfl
          · exact fun _ _ _ h => h
          · refine Or.inl ⟨by rfl, ?_⟩
            intro w' hSw
            (try simp only [Ph.pick, List.getD_cons_succ, List.getD_cons_zero] at hSw)
            go_simp
            all_goals (with_reducible rfl)
          · assumption
          clear hOrd
          intro hOrd
          try simp only [Act.put, List.setIfInBounds_toArray, List.set_cons_zero, List.set_cons_succ] at hOrd ⊢
          refine Ph.take (i := 2) (oi := ?_) (v := ?_) (p := 0) ?_ ?_ ?_ ?_ hOrd ?_ ?_ ?_ ?_ ?_ ?_
          rotate_left 2
          · simp only [List.getElem?_toArray, List.getElem?_cons_succ, List.getElem?_cons_zero]; rfl
          · kernel_rfl
          · kernel_rfl
          · kernel_rfl
          · kernel_rfl
          · kernel_rfl
          · exact fun _ _ _ h => h
          · refine Or.inl ⟨by rfl, ?_⟩
            intro w' hSw
            (try simp only [Ph.pick, List.getD_cons_succ, List.getD_cons_zero] at hSw)
            go_simp
            all_goals (with_reducible rfl)
          · assumption
          clear hOrd
          intro hOrd
          try simp only [Act.put, List.setIfInBounds_toArray, List.set_cons_zero, List.set_cons_succ] at hOrd ⊢
          refine Ph.take (i := 3) (oi := ?_) (v := ?_) (p := 0) ?_ ?_ ?_ ?_ hOrd ?_ ?_ ?_ ?_ ?_ ?_
          rotate_left 2
          · simp only [List.getElem?_toArray, List.getElem?_cons_succ, List.getElem?_cons_zero]; rfl
          · kernel_rfl
          · kernel_rfl
          · kernel_rfl
          · kernel_rfl
          · kernel_rfl
          · exact fun _ _ _ h => h
          · refine Or.inl ⟨by rfl, ?_⟩
            intro w' hSw
            (try simp only [Ph.pick, List.getD_cons_succ, List.getD_cons_zero] at hSw)
            go_simp
            all_goals (with_reducible rfl)
          · assumption
          clear hOrd
          intro hOrd
          try simp only [Act.put, List.setIfInBounds_toArray, List.set_cons_zero, List.set_cons_succ] at hOrd ⊢
          refine Ph.take (i := 4) (oi := ?_) (v := ?_) (p := 0) ?_ ?_ ?_ ?_ hOrd ?_ ?_ ?_ ?_ ?_ ?_
          rotate_left 2
          · simp only [List.getElem?_toArray, List.getElem?_cons_succ, List.getElem?_cons_zero]; rfl
          · kernel_rfl
          · kernel_rfl
          · kernel_rfl
          · kernel_rfl
          · kernel_rfl
          · exact fun _ _ _ h => h
          · refine Or.inl ⟨by rfl, ?_⟩
            intro w' hSw
            (try simp only [Ph.pick, List.getD_cons_succ, List.getD_cons_zero] at hSw)
            go_simp
            all_goals (with_reducible rfl)
          · assumption
          clear hOrd
          intro hOrd
          try simp only [Act.put, List.setIfInBounds_toArray, List.set_cons_zero, List.set_cons_succ] at hOrd ⊢
          refine Ph.take (i := 5) (oi := ?_) (v := ?_) (p := 0) ?_ ?_ ?_ ?_ hOrd ?_ ?_ ?_ ?_ ?_ ?_
          rotate_left 2
          · simp only [List.getElem?_toArray, List.getElem?_cons_succ, List.getElem?_cons_zero]; rfl
          · kernel_rfl
          · kernel_rfl
          · kernel_rfl
          · kernel_rfl
          · kernel_rfl
          · exact fun _ _ _ h => h
          · refine Or.inl ⟨by rfl, ?_⟩
            intro w' hSw
            (try simp only [Ph.pick, List.getD_cons_succ, List.getD_cons_zero] at hSw)
            go_simp
            all_goals (with_reducible rfl)
          · assumption
          clear hOrd
          intro hOrd
          try simp only [Act.put, List.setIfInBounds_toArray, List.set_cons_zero, List.set_cons_succ] at hOrd ⊢
          refine Ph.take (i := 11) (oi := ?_) (v := ?_) (p := 0) ?_ ?_ ?_ ?_ hOrd ?_ ?_ ?_ ?_ ?_ ?_
          rotate_left 2
          · simp only [List.getElem?_toArray, List.getElem?_cons_succ, List.getElem?_cons_zero]; rfl
          · kernel_rfl
          · kernel_rfl
          · kernel_rfl
          · kernel_rfl
          · kernel_rfl
          · exact fun _ _ _ h => h
          · refine Or.inl ⟨by rfl, ?_⟩
            intro w' hSw
            (try simp only [Ph.pick, List.getD_cons_succ, List.getD_cons_zero] at hSw)
            go_simp
            all_goals (with_reducible rfl)
          · assumption
          clear hOrd
          intro hOrd
          try simp only [Act.put, List.setIfInBounds_toArray, List.set_cons_zero, List.set_cons_succ] at hOrd ⊢
          refine Ph.take (i := 12) (oi := ?_) (v := ?_) (p := 0) ?_ ?_ ?_ ?_ hOrd ?_ ?_ ?_ ?_ ?_ ?_
          rotate_left 2
          · simp only [List.getElem?_toArray, List.getElem?_cons_succ, List.getElem?_cons_zero]; rfl
          · kernel_rfl
          · kernel_rfl
          · kernel_rfl
          · kernel_rfl
          · kernel_rfl
          · exact fun _ _ _ h => h
          · refine Or.inl ⟨by rfl, ?_⟩
            intro w' hSw
            (try simp only [Ph.pick, List.getD_cons_succ, List.getD_cons_zero] at hSw)
            go_simp
            all_goals (with_reducible rfl)
          · assumption
          clear hOrd
          intro hOrd
          try simp only [Act.put, List.setIfInBounds_toArray, List.set_cons_zero, List.set_cons_succ] at hOrd ⊢
          refine Ph.take (i := 13) (oi := ?_) (v := ?_) (p := 0) ?_ ?_ ?_ ?_ hOrd ?_ ?_ ?_ ?_ ?_ ?_
          rotate_left 2
          · simp only [List.getElem?_toArray, List.getElem?_cons_succ, List.getElem?_cons_zero]; rfl
          · kernel_rfl
          · kernel_rfl
          · kernel_rfl
          · kernel_rfl
          · kernel_rfl
          · exact fun _ _ _ h => h
          · refine Or.inl ⟨by rfl, ?_⟩
            intro w' hSw
            (try simp only [Ph.pick, List.getD_cons_succ, List.getD_cons_zero] at hSw)
            go_simp
            all_goals (with_reducible rfl)
          · assumption
          clear hOrd
          intro hOrd
          try simp only [Act.put, List.setIfInBounds_toArray, List.set_cons_zero, List.set_cons_succ] at hOrd ⊢
          refine Ph.take (i := 14) (oi := ?_) (v := ?_) (p := 0) ?_ ?_ ?_ ?_ hOrd ?_ ?_ ?_ ?_ ?_ ?_
          rotate_left 2
          · simp only [List.getElem?_toArray, List.getElem?_cons_succ, List.getElem?_cons_zero]; rfl
          · kernel_rfl
          · kernel_rfl
          · kernel_rfl
          · kernel_rfl
          · kernel_rfl
          · exact fun _ _ _ h => h
          · refine Or.inl ⟨by rfl, ?_⟩
            intro w' hSw
            (try simp only [Ph.pick, List.getD_cons_succ, List.getD_cons_zero] at hSw)
            go_simp
            all_goals (with_reducible rfl)
          · assumption
          clear hOrd
          intro hOrd
          try simp only [Act.put, List.setIfInBounds_toArray, List.set_cons_zero, List.set_cons_succ] at hOrd ⊢
          refine Ph.take (i := 15) (oi := ?_) (v := ?_) (p := 0) ?_ ?_ ?_ ?_ hOrd ?_ ?_ ?_ ?_ ?_ ?_
          rotate_left 2
          · simp only [List.getElem?_toArray, List.getElem?_cons_succ, List.getElem?_cons_zero]; rfl
          · kernel_rfl
          · kernel_rfl
          · kernel_rfl
          · kernel_rfl
          · kernel_rfl
          · exact fun _ _ _ h => h
          · refine Or.inl ⟨by rfl, ?_⟩
            intro w' hSw
            (try simp only [Ph.pick, List.getD_cons_succ, List.getD_cons_zero] at hSw)
            go_simp
            all_goals (with_reducible rfl)
          · assumption
          clear hOrd
          intro hOrd
          try simp only [Act.put, List.setIfInBounds_toArray, List.set_cons_zero, List.set_cons_succ] at hOrd ⊢
          refine Ph.take (i := 16) (oi := ?_) (v := ?_) (p := 0) ?_ ?_ ?_ ?_ hOrd ?_ ?_ ?_ ?_ ?_ ?_
          rotate_left 2
          · simp only [List.getElem?_toArray, List.getElem?_cons_succ, List.getElem?_cons_zero]; rfl
          · kernel_rfl
          · kernel_rfl
          · kernel_rfl
          · kernel_rfl
          · kernel_rfl
          · exact fun _ _ _ h => h
          · refine Or.inl ⟨by rfl, ?_⟩
            intro w' hSw
            (try simp only [Ph.pick, List.getD_cons_succ, List.getD_cons_zero] at hSw)
            go_simp
            all_goals (with_reducible rfl)
          · assumption
          clear hOrd
          intro hOrd
          try simp only [Act.put, List.setIfInBounds_toArray, List.set_cons_zero, List.set_cons_succ] at hOrd ⊢
          refine Ph.take (i := 17) (oi := ?_) (v := ?_) (p := 0) ?_ ?_ ?_ ?_ hOrd ?_ ?_ ?_ ?_ ?_ ?_
          rotate_left 2
          · simp only [List.getElem?_toArray, List.getElem?_cons_succ, List.getElem?_cons_zero]; rfl
          · kernel_rfl
          · kernel_rfl
          · kernel_rfl
          · kernel_rfl
          · kernel_rfl
          · exact fun _ _ _ h => h
          · refine Or.inl ⟨by rfl, ?_⟩
            intro w' hSw
            (try simp only [Ph.pick, List.getD_cons_succ, List.getD_cons_zero] at hSw)
            go_simp
            all_goals (with_reducible rfl)
          · assumption
          clear hOrd
          intro hOrd
          try simp only [Act.put, List.setIfInBounds_toArray, List.set_cons_zero, List.set_cons_succ] at hOrd ⊢
          refine Ph.take (i := 18) (oi := ?_) (v := ?_) (p := 0) ?_ ?_ ?_ ?_ hOrd ?_ ?_ ?_ ?_ ?_ ?_
          rotate_left 2
          · simp only [List.getElem?_toArray, List.getElem?_cons_succ, List.getElem?_cons_zero]; rfl
          · kernel_rfl
          · kernel_rfl
          · kernel_rfl
          · kernel_rfl
          · kernel_rfl
          · exact fun _ _ _ h => h
          · refine Or.inl ⟨by rfl, ?_⟩
            intro w' hSw
            (try simp only [Ph.pick, List.getD_cons_succ, List.getD_cons_zero] at hSw)
            go_simp
            all_goals (with_reducible rfl)
          · assumption
          clear hOrd
          intro hOrd
          try simp only [Act.put, List.setIfInBounds_toArray, List.set_cons_zero, List.set_cons_succ] at hOrd ⊢
          refine Ph.take (i := 19) (oi := ?_) (v := ?_) (p := 0) ?_ ?_ ?_ ?_ hOrd ?_ ?_ ?_ ?_ ?_ ?_
          rotate_left 2
          · simp only [List.getElem?_toArray, List.getElem?_cons_succ, List.getElem?_cons_zero]; rfl
          · kernel_rfl
          · kernel_rfl
          · kernel_rfl
          · kernel_rfl
          · kernel_rfl
          · exact fun _ _ _ h => h
          · refine Or.inl ⟨by rfl, ?_⟩
            intro w' hSw
            (try simp only [Ph.pick, List.getD_cons_succ, List.getD_cons_zero] at hSw)
            go_simp
            all_goals (with_reducible rfl)
          · assumption
          clear hOrd
          intro hOrd
          try simp only [Act.put, List.setIfInBounds_toArray, List.set_cons_zero, List.set_cons_succ] at hOrd ⊢
          refine Ph.take (i := 20) (oi := ?_) (v := ?_) (p := 0) ?_ ?_ ?_ ?_ hOrd ?_ ?_ ?_ ?_ ?_ ?_
          rotate_left 2
          · simp only [List.getElem?_toArray, List.getElem?_cons_succ, List.getElem?_cons_zero]; rfl
          · kernel_rfl
          · kernel_rfl
          · kernel_rfl
          · kernel_rfl
          · kernel_rfl
          · exact fun _ _ _ h => h
          · refine Or.inl ⟨by rfl, ?_⟩
            intro w' hSw
            (try simp only [Ph.pick, List.getD_cons_succ, List.getD_cons_zero] at hSw)
            go_simp
            all_goals (with_reducible rfl)
          · assumption
          clear hOrd
          intro hOrd
          try simp only [Act.put, List.setIfInBounds_toArray, List.set_cons_zero, List.set_cons_succ] at hOrd ⊢
          refine Ph.take (i := 21) (oi := ?_) (v := ?_) (p := 0) ?_ ?_ ?_ ?_ hOrd ?_ ?_ ?_ ?_ ?_ ?_
          rotate_left 2
          · simp only [List.getElem?_toArray, List.getElem?_cons_succ, List.getElem?_cons_zero]; rfl
          · kernel_rfl
          · kernel_rfl
          · kernel_rfl
          · kernel_rfl
          · kernel_rfl
          · exact fun _ _ _ h => h
          · refine Or.inl ⟨by rfl, ?_⟩
            intro w' hSw
            (try simp only [Ph.pick, List.getD_cons_succ, List.getD_cons_zero] at hSw)
            go_simp
            all_goals (with_reducible rfl)
          · assumption
          clear hOrd
          intro hOrd
          try simp only [Act.put, List.setIfInBounds_toArray, List.set_cons_zero, List.set_cons_succ] at hOrd ⊢
          refine Ph.take (i := 22) (oi := ?_) (v := ?_) (p := 0) ?_ ?_ ?_ ?_ hOrd ?_ ?_ ?_ ?_ ?_ ?_
          rotate_left 2
          · simp only [List.getElem?_toArray, List.getElem?_cons_succ, List.getElem?_cons_zero]; rfl
          · kernel_rfl
          · kernel_rfl
          · kernel_rfl
          · kernel_rfl
          · kernel_rfl
          · exact fun _ _ _ h => h
          · refine Or.inl ⟨by rfl, ?_⟩
            intro w' hSw
            (try simp only [Ph.pick, List.getD_cons_succ, List.getD_cons_zero] at hSw)
            go_simp
            all_goals (with_reducible rfl)
          · assumption
          clear hOrd
          intro hOrd
          try simp only [Act.put, List.setIfInBounds_toArray, List.set_cons_zero, List.set_cons_succ] at hOrd ⊢
          refine Ph.take (i := 23) (oi := ?_) (v := ?_) (p := 0) ?_ ?_ ?_ ?_ hOrd ?_ ?_ ?_ ?_ ?_ ?_
          rotate_left 2
          · simp only [List.getElem?_toArray, List.getElem?_cons_succ, List.getElem?_cons_zero]; rfl
          · kernel_rfl
          · kernel_rfl
          · kernel_rfl
          · kernel_rfl
          · kernel_rfl
          · exact fun _ _ _ h => h
          · refine Or.inl ⟨by rfl, ?_⟩
            intro w' hSw
            (try simp only [Ph.pick, List.getD_cons_succ, List.getD_cons_zero] at hSw)
            go_simp
            all_goals (with_reducible rfl)
          · assumption
          clear hOrd
          intro hOrd
          try simp only [Act.put, List.setIfInBounds_toArray, List.set_cons_zero, List.set_cons_succ] at hOrd ⊢
          refine Ph.take (i := 24) (oi := ?_) (v := ?_) (p := 0) ?_ ?_ ?_ ?_ hOrd ?_ ?_ ?_ ?_ ?_ ?_
          rotate_left 2
          · simp only [List.getElem?_toArray, List.getElem?_cons_succ, List.getElem?_cons_zero]; rfl
          · kernel_rfl
          · kernel_rfl
          · kernel_rfl
          · kernel_rfl
          · kernel_rfl
          · exact fun _ _ _ h => h
          · refine Or.inl ⟨by rfl, ?_⟩
            intro w' hSw
            (try simp only [Ph.pick, List.getD_cons_succ, List.getD_cons_zero] at hSw)
            go_simp
            all_goals (with_reducible rfl)
          · assumption
          clear hOrd
          intro hOrd
          try simp only [Act.put, List.setIfInBounds_toArray, List.set_cons_zero, List.set_cons_succ] at hOrd ⊢
          refine Ph.take (i := 25) (oi := ?_) (v := ?_) (p := 0) ?_ ?_ ?_ ?_ hOrd ?_ ?_ ?_ ?_ ?_ ?_
          rotate_left 2
          · simp only [List.getElem?_toArray, List.getElem?_cons_succ, List.getElem?_cons_zero]; rfl
          · kernel_rfl
          · kernel_rfl
          · kernel_rfl
          · kernel_rfl
          · kernel_rfl
          · exact fun _ _ _ h => h
          · refine Or.inl ⟨by rfl, ?_⟩
            intro w' hSw
            (try simp only [Ph.pick, List.getD_cons_succ, List.getD_cons_zero] at hSw)
            go_simp
            all_goals (with_reducible rfl)
          · assumption
          clear hOrd
          intro hOrd
          try simp only [Act.put, List.setIfInBounds_toArray, List.set_cons_zero, List.set_cons_succ] at hOrd ⊢
          refine Ph.take (i := 26) (oi := ?_) (v := ?_) (p := 0) ?_ ?_ ?_ ?_ hOrd ?_ ?_ ?_ ?_ ?_ ?_
          rotate_left 2
          · simp only [List.getElem?_toArray, List.getElem?_cons_succ, List.getElem?_cons_zero]; rfl
          · kernel_rfl
          · kernel_rfl
          · kernel_rfl
          · kernel_rfl
          · kernel_rfl
          · exact fun _ _ _ h => h
          · refine Or.inl ⟨by rfl, ?_⟩
            intro w' hSw
            (try simp only [Ph.pick, List.getD_cons_succ, List.getD_cons_zero] at hSw)
            go_simp
            all_goals (with_reducible rfl)
          · assumption
          clear hOrd
          intro hOrd
          try simp only [Act.put, List.setIfInBounds_toArray, List.set_cons_zero, List.set_cons_succ] at hOrd ⊢
          refine Ph.alone (i := 27) (o := ?_) (p := 1) ?_ ?_ hOrd ?_ ?_
          rotate_left 2
          · simp only [List.getElem?_toArray, List.getElem?_cons_succ, List.getElem?_cons_zero]; rfl
          rotate_right 1
          · kernel_rfl
          · kernel_rfl
          clear hOrd
          intro K hK
          go_simp
          skip
          refine hK.out _ _ (Ph.pick1 HS3.out) (fun hHeld hOrd => ?_)
          clear hK K
          try simp only [Act.put, List.setIfInBounds_toArray, List.set_cons_zero, List.set_cons_succ] at hOrd ⊢
          try rw [st1]
          refine Ph.take (i := 28) (oi := ?_) (v := ?_) (p := 1) ?_ ?_ ?_ ?_ hOrd ?_ ?_ ?_ ?_ ?_ ?_
          rotate_left 2
          · simp only [List.getElem?_toArray, List.getElem?_cons_succ, List.getElem?_cons_zero]; rfl
          · kernel_rfl
          · kernel_rfl
          · kernel_rfl
          · kernel_rfl
          · kernel_rfl
          · exact fun _ _ _ h => h
          · refine Or.inl ⟨by rfl, ?_⟩
            intro w' hSw
            (try simp only [Ph.pick, List.getD_cons_succ, List.getD_cons_zero] at hSw)
            go_simp
            all_goals (with_reducible rfl)
          · assumption
          clear hOrd
          intro hOrd
          try simp only [Act.put, List.setIfInBounds_toArray, List.set_cons_zero, List.set_cons_succ] at hOrd ⊢
          refine Ph.alone (i := 29) (o := ?_) (p := 1) ?_ ?_ hOrd ?_ ?_
          rotate_left 2
          · simp only [List.getElem?_toArray, List.getElem?_cons_succ, List.getElem?_cons_zero]; rfl
          rotate_right 1
          · kernel_rfl
          · kernel_rfl
          clear hOrd
          intro K hK
          go_simp
          skip
          refine hK.out _ _ (Ph.pick1 HS4.out) (fun hHeld hOrd => ?_)
          clear hK K
          try simp only [Act.put, List.setIfInBounds_toArray, List.set_cons_zero, List.set_cons_succ] at hOrd ⊢
          try rw [st2]
          refine Ph.done (by kernel_rfl) ?_ _
          clear hHeld hOrd d0 d1 d2 q0 q1 q2 gw gw3 st1 st2
          have g4 : Blk (setObj w3 Q.g (.cells (rws encE (((M ++ R).set j x).set j1 y)).toArray 74 (0, 0))) Q.g 74 (rws encE (((M ++ R).set j x).set j1 y)).toArray := setObj_at (lt_of_block G3.out) _
          have f4 : Fr (fun k => k = Q.g) w3 (setObj w3 Q.g (.cells (rws encE (((M ++ R).set j x).set j1 y)).toArray 74 (0, 0))) := Fr.setObj (F := fun k => k = Q.g) (Fr.refl _ _) rfl _
          generalize setObj w3 Q.g (.cells (rws encE (((M ++ R).set j x).set j1 y)).toArray 74 (0, 0)) = w4 at g4 f4 ⊢
          have hh := HM.out.keep B2.out
          have f24 := F3.out.trans f4
          have hset : ((M ++ R).set j x).set j1 y = (M.set j x).set j1 y ++ R := by
            rw [List.set_append_left _ _ HJJ.out.2.1, List.set_append_left _ _ (by rw [List.length_set]; exact HJJ.out.2.2)]
          have hperm : ((M.set j x).set j1 y).Perm M := by rw [HJJ.out.1]; exact swap_perm HXY.out.1 (by have := HXY.out.2; rw [HJJ.out.1] at this; exact this)
          have H4 := Lib.hid (show SmAt w4 Q ((M.set j x).set j1 y) tot σ from ⟨by rw [hperm.length_eq]; exact hh.hs.fr f24 hh.ne.1, ⟨R, by rw [← hset]; exact g4, by rw [List.length_append, hperm.length_eq, ← List.length_append]; exact HG.out.2⟩, hh.ix.fr f24 (fun k hk e => (hh.ne.2 k hk).1 e), hh.n1, hh.ne, hh.ok.perm hperm⟩)
          have F4 := Lib.hid ((HF.out.trans (Fr.of_below B2.out)).trans (f24.mono (fun k hk => Or.inr (Or.inr hk))))
          have HN := Lib.hid (show j < ((M.set j x).set j1 y).length ∧ T = riseE ((M.set j x).set j1 y) j from ⟨by rw [hperm.length_eq]; exact HJJ.out.2.1, by have := HJ.out.2; rw [HU.out, if_pos HLT.out] at this; exact this⟩)
          clear g4 f4 f24 hset hperm hh
          go_wp2
          go_roundg j
          case measure => have := HK.out; have := HJJ.out.1; omega
          case rel => exact ⟨j, _, Lib.hid rfl, rfl, H4, F4, HN⟩
      · have b1 : decide (y.n < x.n) = false := by rw [decide_eq_false_iff_not]; exact hlt
        go_wp2
        go_end0
        have := HJ.out.2
        rw [HU.out, if_neg (Int.not_lt.2 hlt)] at this
        rw [this]
        exact ⟨rfl, HM.out.keep B1.out, HF.out.trans (Fr.of_below B1.out)⟩
end
end Go.Proofs.Ytnpiimaapholiaa
