/- The contracts of layer 8 (summary): drop, Clear. -/
import Derived.Test.YtnpiimaapholiaaSmF
namespace Go.Proofs.Ytnpiimaapholiaa
set_option linter.unusedSimpArgs false
set_option linter.unusedVariables false
open Go.ChangeShapes Go.WideShapes Go.ChangeAt Go.RowKit
section
variable {w W : World} {Q : SmN} {L M : List Ent} {tot : Int} {σ : KSt}
/-- what drop leaves. -/
def KSt.off (σ : KSt) (p : Nat) : KSt := ⟨σ.fl ++ [p], fun j => if j = p then none else σ.K j⟩
theorem SmOK.drop {n : Nat} {x : Ent} (h : SmOK n (M ++ [x]) tot σ) : SmOK n M tot (σ.off x.p) := by
  have hlast : (M ++ [x])[M.length]? = some x := by simp
  have hne : ∀ y ∈ M, y.p ≠ x.p := fun y hy => by
    obtain ⟨i, hi, e⟩ := List.mem_iff_getElem.1 hy
    exact h.other (i := i) (j := M.length) (by rw [List.getElem?_append_left hi, List.getElem?_eq_getElem hi, e]) hlast (by omega)
  refine ⟨fun y hy => ?_, fun i s hi => ?_, ?_, ?_, fun y hy => h.bd y (List.mem_append_left _ hy), h.tb⟩
  · show (if y.p = x.p then none else σ.K y.p) = some y.k
    rw [if_neg (hne y hy)]
    exact h.key y (List.mem_append_left _ hy)
  · have hi : (if i = x.p then none else σ.K i) = some s := hi
    by_cases e : i = x.p
    · rw [if_pos e] at hi; cases hi
    · rw [if_neg e] at hi
      obtain ⟨y, hy, hp⟩ := h.has i s hi
      rcases List.mem_append.1 hy with h1 | h1
      · exact ⟨y, h1, hp⟩
      · rw [List.mem_singleton.1 h1] at hp; exact absurd hp.symm e
  · have := h.nd
    rw [List.map_append] at this
    exact (List.nodup_append.1 this).1
  · have := h.cnt
    rw [List.length_append] at this
    show M.length + (σ.fl ++ [x.p]).length = n
    rw [List.length_append]
    simp only [List.length_singleton] at this ⊢
    omega
set_option maxHeartbeats 1000000 in
theorem smdrop_any (x : Ent) (w : World) (h : SmAt w Q (M ++ [x]) tot σ) : Calls Try.prog 33 #[.pointer (some ⟨Q.s, 0, none⟩)] w fun e w' => e = .returned (.tuple #[]) ∧ SmAt w' Q M tot (σ.off x.p) ∧ Fr Q.F w w' := by
  obtain ⟨m, hm⟩ : ∃ m, m = M.length := ⟨_, rfl⟩
  have hlast : (M ++ [x])[m]? = some x := by rw [hm]; simp
  obtain ⟨m1, hm1⟩ : ∃ k, k = m + 1 := ⟨_, rfl⟩
  have hlen : (M ++ [x]).length = m1 := by rw [hm1, hm]; simp
  have hu := h.ix.uni
  have hx : x ∈ M ++ [x] := by simp
  have hkey := h.ok.key x hx
  have hsz := hu.2.1 x.p x.k hkey
  have hle := h.le
  have hn := h.n1
  rw [hlen] at hle
  have HH := Lib.hid h
  have CK := Lib.hid (fun wx (hb : Below w.heap.size w wx) => key_yes x.p x.k wx ((h.ix.keep hb).ks) hsz.1 hkey)
  have CR := Lib.hid (fun wx (hb : Below w.heap.size w wx) => ixremove_any x.k (by have := hsz.2; unfold maxLen; omega) wx (h.ix.keep hb))
  have hpos := h.ok.pos ⟨hu.1, hu.2.1⟩ hx
  have hdel : σ.del Q.N.n x.k = (σ.off x.p, some x.p) := by unfold KSt.del; rw [hpos]; rfl
  rw [hdel] at CR
  have HL := Lib.hid hlast
  have HM := Lib.hid (And.intro hm hlen)
  have k := h.hs.rd
  rw [hlen] at k
  have e1 : IntKind.i64.wrap ((m1 : Int) - 1) = (m : Int) := by rw [IntKind.wrap_i64]; omega
  have t1 : (0 : Int) ≤ (m : Int) := by omega
  have t2 : (m : Int) < (m1 : Int) := by omega
  have HLE := Lib.hid (show m + 1 ≤ Q.N.n ∧ 1 ≤ Q.N.n ∧ Q.N.n ≤ 64 by omega)
  clear h hu hx hkey hsz hle hn hpos hdel hlast hm hlen hm1
  go_enter Try.func33, Try.ntmps33
  go_upto_region 1 with (fail)
  clear k
  have HS := Lib.hid (show ∀ wx, Below w.heap.size w wx → (fun w' : World => (∀ i, w'.cell? ⟨Q.s, i, none⟩ = (smC Q m1 tot)[i]?) ∧ w'.cell? ⟨Q.g, m * 3 + 2, none⟩ = some (.int .i64 (x.p : Int))) wx from fun wx hb => ⟨by have := (HH.out.keep hb).hs.rd; rw [HM.out.2] at this; exact this, ((HH.out.keep hb).cell HL.out).2.2⟩)
  have B1 := Lib.hid (show Below w.heap.size w w.drew from below_draws (Below.refl _ _) 1)
  refine wp_region_held_drew (S := (fun w' : World => (∀ i, w'.cell? ⟨Q.s, i, none⟩ = (smC Q m1 tot)[i]?) ∧ w'.cell? ⟨Q.g, m * 3 + 2, none⟩ = some (.int .i64 (x.p : Int)))) (by kernel_rfl) (HS.out _ B1.out) (fun hHeld => ?_)
  refine wpAnyH_take (i := 0) (oi := ?_) (v := ?_) ?_ ?_ ?_ ?_ ?_ ?_ ?_ ?_
  rotate_left 2
  · simp only [List.getElem?_toArray, List.getElem?_cons_succ, List.getElem?_cons_zero]; rfl
  · kernel_rfl
  · kernel_rfl
  · kernel_rfl
  · exact fun _ _ _ h => h
  · refine Or.inl ⟨by rfl, ?_⟩
    intro w' hSw
    (try dsimp only at hSw)
    go_simp
    all_goals (with_reducible rfl)
  · assumption
  try simp only [Act.put, List.setIfInBounds_toArray, List.set_cons_zero, List.set_cons_succ]
  refine wpAnyH_take (i := 1) (oi := ?_) (v := ?_) ?_ ?_ ?_ ?_ ?_ ?_ ?_ ?_
  rotate_left 2
  · simp only [List.getElem?_toArray, List.getElem?_cons_succ, List.getElem?_cons_zero]; rfl
  · kernel_rfl
  · kernel_rfl
  · kernel_rfl
  · exact fun _ _ _ h => h
  · refine Or.inl ⟨by rfl, ?_⟩
    intro w' hSw
    (try dsimp only at hSw)
    go_simp
    all_goals (with_reducible rfl)
  · assumption
  try simp only [Act.put, List.setIfInBounds_toArray, List.set_cons_zero, List.set_cons_succ]
  refine wpAnyH_take (i := 2) (oi := ?_) (v := ?_) ?_ ?_ ?_ ?_ ?_ ?_ ?_ ?_
  rotate_left 2
  · simp only [List.getElem?_toArray, List.getElem?_cons_succ, List.getElem?_cons_zero]; rfl
  · kernel_rfl
  · kernel_rfl
  · kernel_rfl
  · exact fun _ _ _ h => h
  · refine Or.inl ⟨by rfl, ?_⟩
    intro w' hSw
    (try dsimp only at hSw)
    go_simp
    all_goals (with_reducible rfl)
  · assumption
  try simp only [Act.put, List.setIfInBounds_toArray, List.set_cons_zero, List.set_cons_succ]
  refine wpAnyH_take (i := 3) (oi := ?_) (v := ?_) ?_ ?_ ?_ ?_ ?_ ?_ ?_ ?_
  rotate_left 2
  · simp only [List.getElem?_toArray, List.getElem?_cons_succ, List.getElem?_cons_zero]; rfl
  · kernel_rfl
  · kernel_rfl
  · kernel_rfl
  · exact fun _ _ _ h => h
  · refine Or.inl ⟨by rfl, ?_⟩
    intro w' hSw
    (try dsimp only at hSw)
    go_simp
    all_goals (with_reducible rfl)
  · assumption
  try simp only [Act.put, List.setIfInBounds_toArray, List.set_cons_zero, List.set_cons_succ]
  refine wpAnyH_take (i := 4) (oi := ?_) (v := ?_) ?_ ?_ ?_ ?_ ?_ ?_ ?_ ?_
  rotate_left 2
  · simp only [List.getElem?_toArray, List.getElem?_cons_succ, List.getElem?_cons_zero]; rfl
  · kernel_rfl
  · kernel_rfl
  · kernel_rfl
  · exact fun _ _ _ h => h
  · refine Or.inl ⟨by rfl, ?_⟩
    intro w' hSw
    (try dsimp only at hSw)
    go_simp
    all_goals (with_reducible rfl)
  · assumption
  try simp only [Act.put, List.setIfInBounds_toArray, List.set_cons_zero, List.set_cons_succ]
  refine wpAnyH_take (i := 5) (oi := ?_) (v := ?_) ?_ ?_ ?_ ?_ ?_ ?_ ?_ ?_
  rotate_left 2
  · simp only [List.getElem?_toArray, List.getElem?_cons_succ, List.getElem?_cons_zero]; rfl
  · kernel_rfl
  · kernel_rfl
  · kernel_rfl
  · exact fun _ _ _ h => h
  · refine Or.inl ⟨by rfl, ?_⟩
    intro w' hSw
    (try dsimp only at hSw)
    go_simp
    all_goals (with_reducible rfl)
  · assumption
  try simp only [Act.put, List.setIfInBounds_toArray, List.set_cons_zero, List.set_cons_succ]
  refine wpAnyH_take (i := 6) (oi := ?_) (v := ?_) ?_ ?_ ?_ ?_ ?_ ?_ ?_ ?_
  rotate_left 2
  · simp only [List.getElem?_toArray, List.getElem?_cons_succ, List.getElem?_cons_zero]; rfl
  · kernel_rfl
  · kernel_rfl
  · kernel_rfl
  · exact fun _ _ _ h => h
  · refine Or.inl ⟨by rfl, ?_⟩
    intro w' hSw
    (try dsimp only at hSw)
    go_simp
    all_goals (with_reducible rfl)
  · assumption
  try simp only [Act.put, List.setIfInBounds_toArray, List.set_cons_zero, List.set_cons_succ]
  refine wpAnyH_take (i := 7) (oi := ?_) (v := ?_) ?_ ?_ ?_ ?_ ?_ ?_ ?_ ?_
  rotate_left 2
  · simp only [List.getElem?_toArray, List.getElem?_cons_succ, List.getElem?_cons_zero]; rfl
  · kernel_rfl
  · kernel_rfl
  · kernel_rfl
  · exact fun _ _ _ h => h
  · refine Or.inl ⟨by rfl, ?_⟩
    intro w' hSw
    (try dsimp only at hSw)
    go_simp
    all_goals (with_reducible rfl)
  · assumption
  try simp only [Act.put, List.setIfInBounds_toArray, List.set_cons_zero, List.set_cons_succ]
  refine wpAnyH_take (i := 8) (oi := ?_) (v := ?_) ?_ ?_ ?_ ?_ ?_ ?_ ?_ ?_
  rotate_left 2
  · simp only [List.getElem?_toArray, List.getElem?_cons_succ, List.getElem?_cons_zero]; rfl
  · kernel_rfl
  · kernel_rfl
  · kernel_rfl
  · exact fun _ _ _ h => h
  · refine Or.inl ⟨by rfl, ?_⟩
    intro w' hSw
    (try dsimp only at hSw)
    go_simp
    all_goals (with_reducible rfl)
  · assumption
  try simp only [Act.put, List.setIfInBounds_toArray, List.set_cons_zero, List.set_cons_succ]
  refine wpAnyH_take (i := 9) (oi := ?_) (v := ?_) ?_ ?_ ?_ ?_ ?_ ?_ ?_ ?_
  rotate_left 2
  · simp only [List.getElem?_toArray, List.getElem?_cons_succ, List.getElem?_cons_zero]; rfl
  · kernel_rfl
  · kernel_rfl
  · kernel_rfl
  · exact fun _ _ _ h => h
  · refine Or.inl ⟨by rfl, ?_⟩
    intro w' hSw
    (try dsimp only at hSw)
    go_simp
    all_goals (with_reducible rfl)
  · assumption
  try simp only [Act.put, List.setIfInBounds_toArray, List.set_cons_zero, List.set_cons_succ]
  refine wpAnyH_take (i := 10) (oi := ?_) (v := ?_) ?_ ?_ ?_ ?_ ?_ ?_ ?_ ?_
  rotate_left 2
  · simp only [List.getElem?_toArray, List.getElem?_cons_succ, List.getElem?_cons_zero]; rfl
  · kernel_rfl
  · kernel_rfl
  · kernel_rfl
  · exact fun _ _ _ h => h
  · refine Or.inl ⟨by rfl, ?_⟩
    intro w' hSw
    (try dsimp only at hSw)
    go_simp
    all_goals (with_reducible rfl)
  · assumption
  try simp only [Act.put, List.setIfInBounds_toArray, List.set_cons_zero, List.set_cons_succ]
  refine wpAnyH_take (i := 11) (oi := ?_) (v := ?_) ?_ ?_ ?_ ?_ ?_ ?_ ?_ ?_
  rotate_left 2
  · simp only [List.getElem?_toArray, List.getElem?_cons_succ, List.getElem?_cons_zero]; rfl
  · kernel_rfl
  · kernel_rfl
  · kernel_rfl
  · exact fun _ _ _ h => h
  · refine Or.inl ⟨by rfl, ?_⟩
    intro w' hSw
    (try dsimp only at hSw)
    go_simp
    all_goals (with_reducible rfl)
  · assumption
  try simp only [Act.put, List.setIfInBounds_toArray, List.set_cons_zero, List.set_cons_succ]
  refine wpAnyH_ready (rs := [12]) (by kernel_rfl) (by simp) ?_
  refine AllReadyH.cons (o := ?_) ?_ ?_ ?_
  rotate_left 1
  · simp only [List.getElem?_toArray, List.getElem?_cons_succ, List.getElem?_cons_zero]; rfl
  rotate_left 1
  · exact AllReadyH.nil
  intro K hK
  go_simp
  ((with_reducible refine (CK.out w.drew B1.out).mono ?_); rintro e w2 ⟨rfl, b2⟩; have B2 := Lib.hid (G.below_on B1.out b2); clear b2)
  refine hK.out _ _ (HS.out _ B2.out) (fun hHeld => ?_)
  clear hK K
  try simp only [Act.put, List.setIfInBounds_toArray, List.set_cons_zero, List.set_cons_succ]
  refine wpAnyH_take (i := 13) (oi := ?_) (v := ?_) ?_ ?_ ?_ ?_ ?_ ?_ ?_ ?_
  rotate_left 2
  · simp only [List.getElem?_toArray, List.getElem?_cons_succ, List.getElem?_cons_zero]; rfl
  · kernel_rfl
  · kernel_rfl
  · kernel_rfl
  · exact fun _ _ _ h => h
  · refine Or.inl ⟨by rfl, ?_⟩
    intro w' hSw
    (try dsimp only at hSw)
    go_simp
    all_goals (with_reducible rfl)
  · assumption
  try simp only [Act.put, List.setIfInBounds_toArray, List.set_cons_zero, List.set_cons_succ]
  refine wpAnyH_take (i := 14) (oi := ?_) (v := ?_) ?_ ?_ ?_ ?_ ?_ ?_ ?_ ?_
  rotate_left 2
  · simp only [List.getElem?_toArray, List.getElem?_cons_succ, List.getElem?_cons_zero]; rfl
  · kernel_rfl
  · kernel_rfl
  · kernel_rfl
  · exact fun _ _ _ h => h
  · refine Or.inl ⟨by rfl, ?_⟩
    intro w' hSw
    (try dsimp only at hSw)
    go_simp
    all_goals (with_reducible rfl)
  · assumption
  try simp only [Act.put, List.setIfInBounds_toArray, List.set_cons_zero, List.set_cons_succ]
  refine wpAnyH_take (i := 15) (oi := ?_) (v := ?_) ?_ ?_ ?_ ?_ ?_ ?_ ?_ ?_
  rotate_left 2
  · simp only [List.getElem?_toArray, List.getElem?_cons_succ, List.getElem?_cons_zero]; rfl
  · kernel_rfl
  · kernel_rfl
  · kernel_rfl
  · exact fun _ _ _ h => h
  · refine Or.inl ⟨by rfl, ?_⟩
    intro w' hSw
    (try dsimp only at hSw)
    go_simp
    all_goals (with_reducible rfl)
  · assumption
  try simp only [Act.put, List.setIfInBounds_toArray, List.set_cons_zero, List.set_cons_succ]
  refine wpAnyH_take (i := 16) (oi := ?_) (v := ?_) ?_ ?_ ?_ ?_ ?_ ?_ ?_ ?_
  rotate_left 2
  · simp only [List.getElem?_toArray, List.getElem?_cons_succ, List.getElem?_cons_zero]; rfl
  · kernel_rfl
  · kernel_rfl
  · kernel_rfl
  · exact fun _ _ _ h => h
  · refine Or.inl ⟨by rfl, ?_⟩
    intro w' hSw
    (try dsimp only at hSw)
    go_simp
    all_goals (with_reducible rfl)
  · assumption
  try simp only [Act.put, List.setIfInBounds_toArray, List.set_cons_zero, List.set_cons_succ]
  refine wpAnyH_take (i := 17) (oi := ?_) (v := ?_) ?_ ?_ ?_ ?_ ?_ ?_ ?_ ?_
  rotate_left 2
  · simp only [List.getElem?_toArray, List.getElem?_cons_succ, List.getElem?_cons_zero]; rfl
  · kernel_rfl
  · kernel_rfl
  · kernel_rfl
  · exact fun _ _ _ h => h
  · refine Or.inl ⟨by rfl, ?_⟩
    intro w' hSw
    (try dsimp only at hSw)
    go_simp
    all_goals (with_reducible rfl)
  · assumption
  try simp only [Act.put, List.setIfInBounds_toArray, List.set_cons_zero, List.set_cons_succ]
  refine wpAnyH_done (by kernel_rfl) ?_ _
  have k := hHeld.1
  clear hHeld
  go_upto_region 3 with (go_at_call 44; refine (show Calls Try.prog 44 #[.pointer (some ⟨Q.N.x, 0, none⟩), .string x.k] w2 (fun e w' => e = .returned (.int .i64 (x.p : Int)) ∧ IdxAt w' Q.N (σ.off x.p) ∧ Fr Q.N.F w2 w') from CR.out _ B2.out).mono ?_; rintro e w3 ⟨rfl, i3, f3⟩; have I3 := Lib.hid i3; have F3 := Lib.hid f3; clear i3 f3)
  clear k
  have H2 := Lib.hid (HH.out.keep B2.out)
  have h3 := H2.out.hs.fr F3.out (fun hF => (H2.out.ne.2 _ (Or.inl hF)).2 rfl)
  rw [HM.out.2] at h3
  have H3 := Lib.hid h3
  have k := h3.rd
  have kw := h3.wr
  obtain ⟨w4, e4, r4, f4, s4⟩ := G.box_set h3 2 (.slice (some ⟨Q.g, 0, none⟩) m Q.N.n) (smC Q m tot) rfl
  have R4 := Lib.hid r4
  have F4 := Lib.hid f4
  have t3 : (m : Int) ≤ (Q.N.n : Int) := by have := HLE.out.1; omega
  have hmn : m ≤ Q.N.n := by have := HLE.out.1; omega
  clear h3 r4 f4 s4
  go_wp2
  go_end0
  have hh := H2.out
  obtain ⟨R, hg, hl⟩ := hh.hg
  refine ⟨rfl, ⟨by rw [← HM.out.1]; exact R4.out, ⟨x :: R, ?_, ?_⟩, I3.out.fr F4.out (fun k hk e => (hh.ne.2 k hk).2 e), hh.n1, hh.ne, hh.ok.drop⟩, ?_⟩
  · have := (hg.fr F3.out (fun hF => (hh.ne.2 _ (Or.inl hF)).1 rfl)).fr F4.out (fun e => hh.ne.1 e.symm)
    rw [List.append_assoc] at this
    exact this
  · rw [List.append_assoc] at hl
    exact hl
  · exact ((Fr.of_below B2.out).trans (F3.out.mono (fun k hk => Or.inl hk))).trans (F4.out.mono (fun k hk => Or.inr (Or.inl hk)))
end
end Go.Proofs.Ytnpiimaapholiaa
