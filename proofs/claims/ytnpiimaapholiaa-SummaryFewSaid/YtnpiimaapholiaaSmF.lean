/- The contracts of layer 8 (summary): find, Count. -/
import Derived.Test.YtnpiimaapholiaaSm
import Derived.OwnWalk
namespace Go.Proofs.Ytnpiimaapholiaa
set_option linter.unusedSimpArgs false
set_option linter.unusedVariables false
open Go.ChangeShapes Go.WideShapes Go.ChangeAt Go.RowKit
section
variable {w W : World} {Q : SmN} {L : List Ent} {tot : Int} {σ : KSt}
theorem SmOK.pos {n : Nat} (h : SmOK n L tot σ) (hu : (∀ i j s, σ.K i = some s → σ.K j = some s → i = j) ∧ (∀ i s, σ.K i = some s → i < n ∧ s.size ≤ 64)) {x : Ent} (hx : x ∈ L) : posN n σ.K x.k = some x.p :=
  posN_at (hu.2 _ _ (h.key x hx)).1 (h.key x hx) hu.1
theorem SmOK.no {n : Nat} (h : SmOK n L tot σ) {s : ByteArray} (hs : ∀ x ∈ L, x.k ≠ s) : posN n σ.K s = none :=
  posN_no (fun i _ e => by
    obtain ⟨x, hx, hp⟩ := h.has i s e
    have := h.key x hx
    rw [hp, e] at this
    exact hs x hx (Option.some.inj this).symm)
theorem SmOK.other {n : Nat} (h : SmOK n L tot σ) {i j : Nat} {x y : Ent} (hi : L[i]? = some y) (hj : L[j]? = some x) (hij : i ≠ j) : y.p ≠ x.p := fun e => by
  have hi' := List.getElem?_eq_some_iff.1 hi
  have hj' := List.getElem?_eq_some_iff.1 hj
  obtain ⟨li, ei⟩ := hi'
  obtain ⟨lj, ej⟩ := hj'
  have hp := List.pairwise_iff_getElem.1 h.nd
  have key : ∀ a b (la : a < L.length) (lb : b < L.length), a < b → L[a].p ≠ L[b].p := fun a b la lb hab => by
    have := hp a b (by simpa using la) (by simpa using lb) hab
    simpa using this
  rcases Nat.lt_or_gt_of_ne hij with h1 | h1
  · exact key i j li lj h1 (by rw [ei, ej]; exact e)
  · exact key j i lj li h1 (by rw [ei, ej]; exact e.symm)
theorem smfind_nil (s : ByteArray) (w : World) : Calls Try.prog 28 #[.pointer none, .string s] w fun e w' => e = .returned (.int .i64 (-1)) ∧ w = w' := by
  go_enter Try.func28, Try.ntmps28
  go_wp2
  go_ret
  exact ⟨rfl, rfl⟩
theorem smfind_no (s : ByteArray) (hs : s.size ≤ maxLen) (w : World) (h : SmAt w Q L tot σ) (hk : ∀ x ∈ L, x.k ≠ s) : Calls Try.prog 28 #[.pointer (some ⟨Q.s, 0, none⟩), .string s] w fun e w' => e = .returned (.int .i64 (-1)) ∧ Below w.heap.size w w' := by
  have CF := Lib.hid (ixfind_any s hs w h.ix)
  rw [h.ok.no hk] at CF
  have k := h.hs.rd
  clear h hk
  go_enter Try.func28, Try.ntmps28
  go_wp2_with (go_at_call 40; refine (show Calls Try.prog 40 #[.pointer (some ⟨Q.N.x, 0, none⟩), .string s] w (fun e w' => e = .returned (.int .i64 (-1)) ∧ Below w.heap.size w w') from CF.out).mono ?_; rintro e w1 ⟨rfl, b1⟩; have B1 := Lib.hid b1; clear b1)
  go_ret
  exact ⟨rfl, B1.out⟩
theorem smfind_yes (j : Nat) (x : Ent) (hs : x.k.size ≤ maxLen) (w : World) (h : SmAt w Q L tot σ) (hj : L[j]? = some x) : Calls Try.prog 28 #[.pointer (some ⟨Q.s, 0, none⟩), .string x.k] w fun e w' => e = .returned (.int .i64 (j : Int)) ∧ Below w.heap.size w w' := by
  have CF := Lib.hid (ixfind_any x.k hs w h.ix)
  have hu := h.ix.uni
  rw [h.ok.pos ⟨hu.1, hu.2.1⟩ (List.mem_of_getElem? hj)] at CF
  have k := h.hs.rd
  have hle := h.le
  have hn := h.n1
  have hjl := (List.getElem?_eq_some_iff.1 hj).1
  have t0 : decide ((x.p : Int) < 0) = false := by rw [decide_eq_false_iff_not]; omega
  have HH := Lib.hid h
  have HJ := Lib.hid hj
  obtain ⟨m, hm⟩ : ∃ m, m = L.length := ⟨_, rfl⟩
  rw [← hm] at k hjl hle
  have HM := Lib.hid hm
  clear h hj hu hm
  go_enter Try.func28, Try.ntmps28
  go_upto_region 6 with (go_at_call 40; refine (show Calls Try.prog 40 #[.pointer (some ⟨Q.N.x, 0, none⟩), .string x.k] w (fun e w' => e = .returned (.int .i64 (x.p : Int)) ∧ Below w.heap.size w w') from CF.out).mono ?_; rintro e w1 ⟨rfl, b1⟩; have B1 := Lib.hid b1; clear b1)
  clear k
  have H1 := Lib.hid (HH.out.keep B1.out)
  go_wp2
  go_loopg [6] m (fun k0 si wr => ∃ i : Nat, Hid (k0 = m - i) ∧ si = .int .i64 (i : Int) ∧ i ≤ j ∧ Hid (wr = w1))
  case atStart => exact ⟨0, Lib.hid rfl, rfl, Nat.zero_le _, Lib.hid rfl⟩
  case round =>
    obtain ⟨i, HK, rfl, hij, HW⟩ := hrel
    have hw := HW.out
    subst hw
    have il : i < m := by omega
    obtain ⟨y, hy⟩ : ∃ y, L[i]? = some y := ⟨_, List.getElem?_eq_getElem (by rw [← HM.out]; exact il)⟩
    obtain ⟨c0, c1, c2⟩ := H1.out.cell hy
    have k := H1.out.hs.rd
    rw [← HM.out] at k
    have t1 : (0 : Int) ≤ (i : Int) := by omega
    have t2 : (i : Int) < (m : Int) := by omega
    by_cases e : i = j
    · have hxy : y = x := by have := HJ.out; rw [← e, hy] at this; exact Option.some.inj this
      rw [hxy] at c2
      have b1 : ((x.p : Int) != (x.p : Int)) = false := by simp
      subst e
      clear hy hxy c0 c1 hij il
      go_wp2
      go_ret
      exact ⟨rfl, B1.out⟩
    · have hne := HH.out.ok.other hy HJ.out e
      have b1 : ((y.p : Int) != (x.p : Int)) = true := by simp; omega
      have fi : IntKind.i64.wrap ((i : Int) + 1) = ((i + 1 : Nat) : Int) := by rw [IntKind.wrap_i64]; omega
      have HI := Lib.hid (show i + 1 ≤ j ∧ m - (i + 1) < m - i by omega)
      clear hy c0 c1 hne hij il e
      go_wp2
      go_roundg (m - (i + 1))
      case measure => have := HK.out; have := HI.out; omega
      case rel => exact ⟨i + 1, Lib.hid rfl, rfl, HI.out.1, Lib.hid rfl⟩
theorem smcount_nil (s : ByteArray) (w : World) : Calls Try.prog 21 #[.pointer none, .string s] w fun e w' => e = .returned (.tuple #[.int .i64 0, .int .i64 0, .bool false]) ∧ w = w' := by
  have C := Lib.hid (smfind_nil s w)
  go_enter Try.func21, Try.ntmps21
  go_wp2_with (go_at_call 28; ((with_reducible refine C.out.mono ?_); rintro e wx ⟨rfl, rfl⟩))
  go_ret3
  exact ⟨rfl, rfl⟩
theorem smcount_no (s : ByteArray) (hs : s.size ≤ maxLen) (w : World) (h : SmAt w Q L tot σ) (hk : ∀ x ∈ L, x.k ≠ s) : Calls Try.prog 21 #[.pointer (some ⟨Q.s, 0, none⟩), .string s] w fun e w' => e = .returned (.tuple #[.int .i64 0, .int .i64 0, .bool false]) ∧ Below w.heap.size w w' := by
  have C := Lib.hid (smfind_no s hs w h hk)
  clear h hk
  go_enter Try.func21, Try.ntmps21
  go_wp2_with (go_at_call 28; ((with_reducible refine C.out.mono ?_); rintro e w1 ⟨rfl, b1⟩; have B1 := Lib.hid b1; clear b1))
  go_ret3
  exact ⟨rfl, B1.out⟩
theorem smcount_yes (j : Nat) (x : Ent) (hs : x.k.size ≤ maxLen) (w : World) (h : SmAt w Q L tot σ) (hj : L[j]? = some x) : Calls Try.prog 21 #[.pointer (some ⟨Q.s, 0, none⟩), .string x.k] w fun e w' => e = .returned (.tuple #[.int .i64 x.n, .int .i64 x.e, .bool true]) ∧ Below w.heap.size w w' := by
  have C := Lib.hid (smfind_yes j x hs w h hj)
  have hjl := (List.getElem?_eq_some_iff.1 hj).1
  have hle := h.le
  have hn := h.n1
  have HH := Lib.hid h
  have t1 : (0 : Int) ≤ (j : Int) := by omega
  have t0 : decide ((j : Int) < 0) = false := by rw [decide_eq_false_iff_not]; omega
  obtain ⟨m, hm⟩ : ∃ m, m = L.length := ⟨_, rfl⟩
  have t2 : (j : Int) < (m : Int) := by omega
  have HM := Lib.hid hm
  have HJ := Lib.hid hj
  clear h hjl hle hn hm hj
  go_enter Try.func21, Try.ntmps21
  go_upto_region 4 with (go_at_call 28; ((with_reducible refine C.out.mono ?_); rintro e w1 ⟨rfl, b1⟩; have B1 := Lib.hid b1; clear b1))
  have H2 := Lib.hid (HH.out.keep (show Below w.heap.size w w1.drew from below_draws B1.out 1))
  have hS : (fun w' : World => (∀ i, w'.cell? ⟨Q.s, i, none⟩ = (smC Q m tot)[i]?) ∧ w'.cell? ⟨Q.g, j * 3, none⟩ = some (.int .i64 x.n) ∧ w'.cell? ⟨Q.g, j * 3 + 1, none⟩ = some (.int .i64 x.e)) w1.drew := ⟨by rw [HM.out]; exact H2.out.hs.rd, (H2.out.cell HJ.out).1, (H2.out.cell HJ.out).2.1⟩
  refine wp_region_held_drew (S := (fun w' : World => (∀ i, w'.cell? ⟨Q.s, i, none⟩ = (smC Q m tot)[i]?) ∧ w'.cell? ⟨Q.g, j * 3, none⟩ = some (.int .i64 x.n) ∧ w'.cell? ⟨Q.g, j * 3 + 1, none⟩ = some (.int .i64 x.e))) (by kernel_rfl) hS (fun hHeld => ?_)
  refine wpAnyH_take (i := 0) (oi := ?_) (v := ?_) ?_ ?_ ?_ ?_ ?_ ?_ ?_ ?_
  rotate_left 2
  · simp only [List.getElem?_toArray, List.getElem?_cons_succ, List.getElem?_cons_zero]; rfl
  · kernel_rfl
  · kernel_rfl
  · kernel_rfl
  · exact fun _ _ _ h => h
  · refine Or.inl ⟨by rfl, ?_⟩
    intro w' hSw
    (try dsimp only at hSw)
    go_simp
    all_goals (with_reducible rfl)
  · assumption
  try simp only [Act.put, List.setIfInBounds_toArray, List.set_cons_zero, List.set_cons_succ]
  refine wpAnyH_take (i := 1) (oi := ?_) (v := ?_) ?_ ?_ ?_ ?_ ?_ ?_ ?_ ?_
  rotate_left 2
  · simp only [List.getElem?_toArray, List.getElem?_cons_succ, List.getElem?_cons_zero]; rfl
  · kernel_rfl
  · kernel_rfl
  · kernel_rfl
  · exact fun _ _ _ h => h
  · refine Or.inl ⟨by rfl, ?_⟩
    intro w' hSw
    (try dsimp only at hSw)
    go_simp
    all_goals (with_reducible rfl)
  · assumption
  try simp only [Act.put, List.setIfInBounds_toArray, List.set_cons_zero, List.set_cons_succ]
  refine wpAnyH_take (i := 2) (oi := ?_) (v := ?_) ?_ ?_ ?_ ?_ ?_ ?_ ?_ ?_
  rotate_left 2
  · simp only [List.getElem?_toArray, List.getElem?_cons_succ, List.getElem?_cons_zero]; rfl
  · kernel_rfl
  · kernel_rfl
  · kernel_rfl
  · exact fun _ _ _ h => h
  · refine Or.inl ⟨by rfl, ?_⟩
    intro w' hSw
    (try dsimp only at hSw)
    go_simp
    all_goals (with_reducible rfl)
  · assumption
  try simp only [Act.put, List.setIfInBounds_toArray, List.set_cons_zero, List.set_cons_succ]
  refine wpAnyH_take (i := 3) (oi := ?_) (v := ?_) ?_ ?_ ?_ ?_ ?_ ?_ ?_ ?_
  rotate_left 2
  · simp only [List.getElem?_toArray, List.getElem?_cons_succ, List.getElem?_cons_zero]; rfl
  · kernel_rfl
  · kernel_rfl
  · kernel_rfl
  · exact fun _ _ _ h => h
  · refine Or.inl ⟨by rfl, ?_⟩
    intro w' hSw
    (try dsimp only at hSw)
    go_simp
    all_goals (with_reducible rfl)
  · assumption
  try simp only [Act.put, List.setIfInBounds_toArray, List.set_cons_zero, List.set_cons_succ]
  refine wpAnyH_take (i := 4) (oi := ?_) (v := ?_) ?_ ?_ ?_ ?_ ?_ ?_ ?_ ?_
  rotate_left 2
  · simp only [List.getElem?_toArray, List.getElem?_cons_succ, List.getElem?_cons_zero]; rfl
  · kernel_rfl
  · kernel_rfl
  · kernel_rfl
  · exact fun _ _ _ h => h
  · refine Or.inl ⟨by rfl, ?_⟩
    intro w' hSw
    (try dsimp only at hSw)
    go_simp
    all_goals (with_reducible rfl)
  · assumption
  try simp only [Act.put, List.setIfInBounds_toArray, List.set_cons_zero, List.set_cons_succ]
  refine wpAnyH_take (i := 5) (oi := ?_) (v := ?_) ?_ ?_ ?_ ?_ ?_ ?_ ?_ ?_
  rotate_left 2
  · simp only [List.getElem?_toArray, List.getElem?_cons_succ, List.getElem?_cons_zero]; rfl
  · kernel_rfl
  · kernel_rfl
  · kernel_rfl
  · exact fun _ _ _ h => h
  · refine Or.inl ⟨by rfl, ?_⟩
    intro w' hSw
    (try dsimp only at hSw)
    go_simp
    all_goals (with_reducible rfl)
  · assumption
  try simp only [Act.put, List.setIfInBounds_toArray, List.set_cons_zero, List.set_cons_succ]
  refine wpAnyH_take (i := 6) (oi := ?_) (v := ?_) ?_ ?_ ?_ ?_ ?_ ?_ ?_ ?_
  rotate_left 2
  · simp only [List.getElem?_toArray, List.getElem?_cons_succ, List.getElem?_cons_zero]; rfl
  · kernel_rfl
  · kernel_rfl
  · kernel_rfl
  · exact fun _ _ _ h => h
  · refine Or.inl ⟨by rfl, ?_⟩
    intro w' hSw
    (try dsimp only at hSw)
    go_simp
    all_goals (with_reducible rfl)
  · assumption
  try simp only [Act.put, List.setIfInBounds_toArray, List.set_cons_zero, List.set_cons_succ]
  refine wpAnyH_take (i := 7) (oi := ?_) (v := ?_) ?_ ?_ ?_ ?_ ?_ ?_ ?_ ?_
  rotate_left 2
  · simp only [List.getElem?_toArray, List.getElem?_cons_succ, List.getElem?_cons_zero]; rfl
  · kernel_rfl
  · kernel_rfl
  · kernel_rfl
  · exact fun _ _ _ h => h
  · refine Or.inl ⟨by rfl, ?_⟩
    intro w' hSw
    (try dsimp only at hSw)
    go_simp
    all_goals (with_reducible rfl)
  · assumption
  try simp only [Act.put, List.setIfInBounds_toArray, List.set_cons_zero, List.set_cons_succ]
  refine wpAnyH_take (i := 8) (oi := ?_) (v := ?_) ?_ ?_ ?_ ?_ ?_ ?_ ?_ ?_
  rotate_left 2
  · simp only [List.getElem?_toArray, List.getElem?_cons_succ, List.getElem?_cons_zero]; rfl
  · kernel_rfl
  · kernel_rfl
  · kernel_rfl
  · exact fun _ _ _ h => h
  · refine Or.inl ⟨by rfl, ?_⟩
    intro w' hSw
    (try dsimp only at hSw)
    go_simp
    all_goals (with_reducible rfl)
  · assumption
  try simp only [Act.put, List.setIfInBounds_toArray, List.set_cons_zero, List.set_cons_succ]
  refine wpAnyH_take (i := 9) (oi := ?_) (v := ?_) ?_ ?_ ?_ ?_ ?_ ?_ ?_ ?_
  rotate_left 2
  · simp only [List.getElem?_toArray, List.getElem?_cons_succ, List.getElem?_cons_zero]; rfl
  · kernel_rfl
  · kernel_rfl
  · kernel_rfl
  · exact fun _ _ _ h => h
  · refine Or.inl ⟨by rfl, ?_⟩
    intro w' hSw
    (try dsimp only at hSw)
    go_simp
    all_goals (with_reducible rfl)
  · assumption
  try simp only [Act.put, List.setIfInBounds_toArray, List.set_cons_zero, List.set_cons_succ]
  refine wpAnyH_take (i := 10) (oi := ?_) (v := ?_) ?_ ?_ ?_ ?_ ?_ ?_ ?_ ?_
  rotate_left 2
  · simp only [List.getElem?_toArray, List.getElem?_cons_succ, List.getElem?_cons_zero]; rfl
  · kernel_rfl
  · kernel_rfl
  · kernel_rfl
  · exact fun _ _ _ h => h
  · refine Or.inl ⟨by rfl, ?_⟩
    intro w' hSw
    (try dsimp only at hSw)
    go_simp
    all_goals (with_reducible rfl)
  · assumption
  try simp only [Act.put, List.setIfInBounds_toArray, List.set_cons_zero, List.set_cons_succ]
  refine wpAnyH_take (i := 11) (oi := ?_) (v := ?_) ?_ ?_ ?_ ?_ ?_ ?_ ?_ ?_
  rotate_left 2
  · simp only [List.getElem?_toArray, List.getElem?_cons_succ, List.getElem?_cons_zero]; rfl
  · kernel_rfl
  · kernel_rfl
  · kernel_rfl
  · exact fun _ _ _ h => h
  · refine Or.inl ⟨by rfl, ?_⟩
    intro w' hSw
    (try dsimp only at hSw)
    go_simp
    all_goals (with_reducible rfl)
  · assumption
  try simp only [Act.put, List.setIfInBounds_toArray, List.set_cons_zero, List.set_cons_succ]
  refine wpAnyH_take (i := 12) (oi := ?_) (v := ?_) ?_ ?_ ?_ ?_ ?_ ?_ ?_ ?_
  rotate_left 2
  · simp only [List.getElem?_toArray, List.getElem?_cons_succ, List.getElem?_cons_zero]; rfl
  · kernel_rfl
  · kernel_rfl
  · kernel_rfl
  · exact fun _ _ _ h => h
  · refine Or.inl ⟨by rfl, ?_⟩
    intro w' hSw
    (try dsimp only at hSw)
    go_simp
    all_goals (with_reducible rfl)
  · assumption
  try simp only [Act.put, List.setIfInBounds_toArray, List.set_cons_zero, List.set_cons_succ]
  refine wpAnyH_take (i := 13) (oi := ?_) (v := ?_) ?_ ?_ ?_ ?_ ?_ ?_ ?_ ?_
  rotate_left 2
  · simp only [List.getElem?_toArray, List.getElem?_cons_succ, List.getElem?_cons_zero]; rfl
  · kernel_rfl
  · kernel_rfl
  · kernel_rfl
  · exact fun _ _ _ h => h
  · refine Or.inl ⟨by rfl, ?_⟩
    intro w' hSw
    (try dsimp only at hSw)
    go_simp
    all_goals (with_reducible rfl)
  · assumption
  try simp only [Act.put, List.setIfInBounds_toArray, List.set_cons_zero, List.set_cons_succ]
  refine wpAnyH_take (i := 14) (oi := ?_) (v := ?_) ?_ ?_ ?_ ?_ ?_ ?_ ?_ ?_
  rotate_left 2
  · simp only [List.getElem?_toArray, List.getElem?_cons_succ, List.getElem?_cons_zero]; rfl
  · kernel_rfl
  · kernel_rfl
  · kernel_rfl
  · exact fun _ _ _ h => h
  · refine Or.inl ⟨by rfl, ?_⟩
    intro w' hSw
    (try dsimp only at hSw)
    go_simp
    all_goals (with_reducible rfl)
  · assumption
  try simp only [Act.put, List.setIfInBounds_toArray, List.set_cons_zero, List.set_cons_succ]
  refine wpAnyH_take (i := 15) (oi := ?_) (v := ?_) ?_ ?_ ?_ ?_ ?_ ?_ ?_ ?_
  rotate_left 2
  · simp only [List.getElem?_toArray, List.getElem?_cons_succ, List.getElem?_cons_zero]; rfl
  · kernel_rfl
  · kernel_rfl
  · kernel_rfl
  · exact fun _ _ _ h => h
  · refine Or.inl ⟨by rfl, ?_⟩
    intro w' hSw
    (try dsimp only at hSw)
    go_simp
    all_goals (with_reducible rfl)
  · assumption
  try simp only [Act.put, List.setIfInBounds_toArray, List.set_cons_zero, List.set_cons_succ]
  refine wpAnyH_take (i := 16) (oi := ?_) (v := ?_) ?_ ?_ ?_ ?_ ?_ ?_ ?_ ?_
  rotate_left 2
  · simp only [List.getElem?_toArray, List.getElem?_cons_succ, List.getElem?_cons_zero]; rfl
  · kernel_rfl
  · kernel_rfl
  · kernel_rfl
  · exact fun _ _ _ h => h
  · refine Or.inl ⟨by rfl, ?_⟩
    intro w' hSw
    (try dsimp only at hSw)
    go_simp
    all_goals (with_reducible rfl)
  · assumption
  try simp only [Act.put, List.setIfInBounds_toArray, List.set_cons_zero, List.set_cons_succ]
  refine wpAnyH_take (i := 17) (oi := ?_) (v := ?_) ?_ ?_ ?_ ?_ ?_ ?_ ?_ ?_
  rotate_left 2
  · simp only [List.getElem?_toArray, List.getElem?_cons_succ, List.getElem?_cons_zero]; rfl
  · kernel_rfl
  · kernel_rfl
  · kernel_rfl
  · exact fun _ _ _ h => h
  · refine Or.inl ⟨by rfl, ?_⟩
    intro w' hSw
    (try dsimp only at hSw)
    go_simp
    all_goals (with_reducible rfl)
  · assumption
  try simp only [Act.put, List.setIfInBounds_toArray, List.set_cons_zero, List.set_cons_succ]
  refine wpAnyH_take (i := 18) (oi := ?_) (v := ?_) ?_ ?_ ?_ ?_ ?_ ?_ ?_ ?_
  rotate_left 2
  · simp only [List.getElem?_toArray, List.getElem?_cons_succ, List.getElem?_cons_zero]; rfl
  · kernel_rfl
  · kernel_rfl
  · kernel_rfl
  · exact fun _ _ _ h => h
  · refine Or.inl ⟨by rfl, ?_⟩
    intro w' hSw
    (try dsimp only at hSw)
    go_simp
    all_goals (with_reducible rfl)
  · assumption
  try simp only [Act.put, List.setIfInBounds_toArray, List.set_cons_zero, List.set_cons_succ]
  refine wpAnyH_done (by kernel_rfl) ?_ _
  clear hHeld hS
  go_wp2
  go_ret3
  exact ⟨rfl, below_draws B1.out 1⟩
end
end Go.Proofs.Ytnpiimaapholiaa
