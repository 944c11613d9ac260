/- The contracts of layer 20 (audit): Most. -/
import Derived.Test.YteeinckmmbdfoaaAuA
namespace Go.Proofs.Yteeinckmmbdfoaa
set_option linter.unusedSimpArgs false
set_option linter.unusedVariables false
set_option maxRecDepth 100000
open Go.ChangeShapes Go.WideShapes Go.ChangeAt Go.RowKit Go.Maps
open Ar (inR)
/-- of a list that rises: the greatest sum of a stretch that begins with one of its own. -/
def mostS (len : Int) : List (Int × Int) → Int
  | [] => 0
  | x :: r => max (sumIn x.1 (x.1 + len) (x :: r)) (mostS len r)
/-- v is the greatest sum of any stretch. -/
structure IsMost (len : Int) (l : List (Int × Int)) (v : Int) : Prop where
  nn : 0 ≤ v
  ge : ∀ f, sumIn f (f + len) l ≤ v
  is : v = 0 ∨ ∃ x ∈ l, v = sumIn x.1 (x.1 + len) l
theorem IsMost.eq {len : Int} {l m : List (Int × Int)} {v u : Int} (h : IsMost len l v) (g : IsMost len m u) (hp : ∀ f t, sumIn f t l = sumIn f t m) : v = u := by
  apply Int.le_antisymm
  · rcases h.is with e | ⟨x, _, e⟩
    · rw [e]; exact g.nn
    · rw [e, hp]; exact g.ge _
  · rcases g.is with e | ⟨x, _, e⟩
    · rw [e]; exact h.nn
    · rw [e, ← hp]; exact h.ge _
theorem sumIn_wide {f t f' t' : Int} (h1 : f' ≤ f) (h2 : t ≤ t') : ∀ l, costs l → sumIn f t l ≤ sumIn f' t' l
  | [], _ => Int.le_refl _
  | x :: r, h => by
    have h3 := (h x (List.mem_cons_self)).1
    have h4 := sumIn_wide h1 h2 r (fun y hy => h y (List.mem_cons_of_mem _ hy))
    rw [sumIn, sumIn]
    by_cases q : f ≤ x.1 ∧ x.1 < t
    · rw [if_pos q, if_pos (by omega)]; omega
    · rw [if_neg q]; split <;> omega
theorem sumIn_from {f t f' : Int} : ∀ l : List (Int × Int), (∀ y ∈ l, f ≤ y.1 ∧ f' ≤ y.1) → sumIn f t l = sumIn f' t l
  | [], _ => rfl
  | x :: r, h => by
    have h1 := h x (List.mem_cons_self)
    rw [sumIn, sumIn, sumIn_from r (fun y hy => h y (List.mem_cons_of_mem _ hy))]
    by_cases q : x.1 < t
    · rw [if_pos ⟨h1.1, q⟩, if_pos ⟨h1.2, q⟩]
    · rw [if_neg (fun g => q g.2), if_neg (fun g => q g.2)]
theorem sumIn_out {f t : Int} : ∀ l : List (Int × Int), (∀ y ∈ l, t ≤ y.1) → sumIn f t l = 0
  | [], _ => rfl
  | x :: r, h => by
    have h1 := h x (List.mem_cons_self)
    rw [sumIn, sumIn_out r (fun y hy => h y (List.mem_cons_of_mem _ hy)), if_neg (by omega)]; rfl
theorem mostS_nn (len : Int) : ∀ l, 0 ≤ mostS len l
  | [] => Int.le_refl _
  | x :: r => by have := mostS_nn len r; rw [mostS]; omega
theorem mostS_ge (len : Int) : ∀ l : List (Int × Int), l.Pairwise (fun x y => x.1 ≤ y.1) → costs l → ∀ f, sumIn f (f + len) l ≤ mostS len l
  | [], _, _, f => Int.le_refl _
  | x :: r, hp, hc, f => by
    have hc' : costs r := fun y hy => hc y (List.mem_cons_of_mem _ hy)
    have ih := mostS_ge len r (List.pairwise_cons.1 hp).2 hc' f
    by_cases q : f ≤ x.1
    · have h1 : sumIn f (f + len) (x :: r) = sumIn x.1 (f + len) (x :: r) := sumIn_from _ (fun y hy => by
        rcases List.mem_cons.1 hy with e | e
        · rw [e]; exact ⟨q, Int.le_refl _⟩
        · have := (List.pairwise_cons.1 hp).1 y e; exact ⟨by omega, this⟩)
      have h2 := sumIn_wide (f := x.1) (t := f + len) (f' := x.1) (t' := x.1 + len) (Int.le_refl _) (by omega) (x :: r) hc
      rw [mostS, h1]; omega
    · rw [sumIn, if_neg (fun g => q g.1), mostS]; omega
theorem mostS_is (len : Int) : ∀ l : List (Int × Int), costs l → mostS len l = 0 ∨ ∃ x ∈ l, ∃ s, mostS len l ≤ sumIn x.1 (x.1 + len) s ∧ ∃ p, p ++ s = l
  | [], _ => .inl rfl
  | x :: r, hc => by
    have hc' : costs r := fun y hy => hc y (List.mem_cons_of_mem _ hy)
    rw [mostS]
    by_cases q : mostS len r ≤ sumIn x.1 (x.1 + len) (x :: r)
    · exact .inr ⟨x, List.mem_cons_self, x :: r, by omega, [], rfl⟩
    · have e : max (sumIn x.1 (x.1 + len) (x :: r)) (mostS len r) = mostS len r := by omega
      rw [e]
      rcases mostS_is len r hc' with h | ⟨y, hy, s, h1, p, h2⟩
      · exact .inl h
      · exact .inr ⟨y, List.mem_cons_of_mem _ hy, s, h1, x :: p, by rw [List.cons_append, h2]⟩
theorem mostS_most {len : Int} {l m : List (Int × Int)} (hp : l.Perm m) (hs : l.Pairwise (fun x y => x.1 ≤ y.1)) (hc : costs m) : IsMost len m (mostS len l) := by
  have hcl := costs_perm hp hc
  refine ⟨mostS_nn len l, fun f => by rw [← sumIn_perm hp]; exact mostS_ge len l hs hcl f, ?_⟩
  rcases mostS_is len l hcl with h | ⟨x, hx, s, h1, p, h2⟩
  · exact .inl h
  · refine .inr ⟨x, hp.mem_iff.1 hx, ?_⟩
    have g1 := mostS_ge len l hs hcl x.1
    have g2 : sumIn x.1 (x.1 + len) l = sumIn x.1 (x.1 + len) p + sumIn x.1 (x.1 + len) s := by rw [← h2, sumIn_app]
    have g3 := (sumIn_bd x.1 (x.1 + len) p (fun y hy => hcl y (by rw [← h2]; exact List.mem_append_left _ hy))).1
    rw [← sumIn_perm hp]
    omega
theorem isMost_nil (len : Int) : IsMost len [] 0 := ⟨Int.le_refl _, fun _ => Int.le_refl _, .inl rfl⟩
/-- what is answered. -/
def MostPost (len : Int) (l : List (Int × Int)) (w : World) (e : Ending) (w' : World) : Prop := ∃ v : Int, IsMost len l v ∧ e = .returned (.int .i64 v) ∧ Below w.heap.size w w'
set_option maxHeartbeats 4000000 in
theorem ledmost_none (k : Who) (len : Int) (hl : 1 ≤ len) (w : World) {b m c : Nat} {V : VM} {G : GM} (h : LedAt w b m c V G) (hv : V k = none) :
    Calls Try.prog 13 #[.pointer (some ⟨b, 0, none⟩), .agg #[.int .i64 k.r, .string k.s], .int .i64 len] w fun e w' => MostPost len [] w e w' := by
  obtain ⟨w1, hw1, k1, l1, s1⟩ := box_new w #[.int .i64 k.r, .string k.s] 31
  have H1 := Lib.hid (h.keep l1)
  have HL1 := Lib.hid l1
  have K1 := Lib.hid k1
  have HV := Lib.hid hv
  clear h l1 s1 k1 hv
  have d1 : decide (len < 1) = false := by rw [decide_eq_false_iff_not]; omega
  clear hl
  go_enter Try.func13, Try.ntmps13
  go_upto_region 3 with (fail)
  clear hw1
  have D1 := Lib.hid (show LedAt w1.drew b m c V G from H1.out.keep (below_draws (Below.refl _ _) 1))
  have KD := Lib.hid (show Blk w1.drew w.heap.size 31 #[.int .i64 k.r, .string k.s] from K1.out)
  have hlk := D1.out.mp.look Try.underlying40 (C := whoC) (z := .slice none 0 0) (zeroG _) (s := k) trivial
  rw [HV.out] at hlk
  change (Instr.lookup _ _ (.agg #[.int .i64 k.r, .string k.s]) _).run _ _ = .ok (.slice none 0 0) _ at hlk
  have st : (∀ j, w1.drew.cell? ⟨b, j, none⟩ = (#[.map (some m)] : Array Value)[j]?) ∧ (∀ j, w1.drew.cell? ⟨w.heap.size, j, none⟩ = (#[.int .i64 k.r, .string k.s] : Array Value)[j]?) := ⟨D1.out.l.rd, KD.out.rd⟩
  refine wp_region_held_drew (S := fun wx => (∀ j, wx.cell? ⟨b, j, none⟩ = (#[.map (some m)] : Array Value)[j]?) ∧ ∀ j, wx.cell? ⟨w.heap.size, j, none⟩ = (#[.int .i64 k.r, .string k.s] : Array Value)[j]?) (by kernel_rfl) st (fun hHeld => ?_)
  refine wpAnyH_take (i := 0) (oi := ?_) (v := ?_) ?_ ?_ ?_ ?_ ?_ ?_ ?_ ?_
  rotate_left 2
  · simp only [List.getElem?_toArray, List.getElem?_cons_succ, List.getElem?_cons_zero]; rfl
  · kernel_rfl
  · kernel_rfl
  · kernel_rfl
  · exact fun _ _ _ h => h
  · refine Or.inl ⟨by rfl, ?_⟩
    intro w' hSw
    (try dsimp only at hSw)
    go_simp
    all_goals (with_reducible rfl)
  · assumption
  try simp only [Act.put, List.setIfInBounds_toArray, List.set_cons_zero, List.set_cons_succ]
  refine wpAnyH_take (i := 1) (oi := ?_) (v := ?_) ?_ ?_ ?_ ?_ ?_ ?_ ?_ ?_
  rotate_left 2
  · simp only [List.getElem?_toArray, List.getElem?_cons_succ, List.getElem?_cons_zero]; rfl
  · kernel_rfl
  · kernel_rfl
  · kernel_rfl
  · exact fun _ _ _ h => h
  · refine Or.inl ⟨by rfl, ?_⟩
    intro w' hSw
    (try dsimp only at hSw)
    go_simp
    all_goals (with_reducible rfl)
  · assumption
  try simp only [Act.put, List.setIfInBounds_toArray, List.set_cons_zero, List.set_cons_succ]
  refine wpAnyH_take (i := 2) (oi := ?_) (v := ?_) ?_ ?_ ?_ ?_ ?_ ?_ ?_ ?_
  rotate_left 2
  · simp only [List.getElem?_toArray, List.getElem?_cons_succ, List.getElem?_cons_zero]; rfl
  · kernel_rfl
  · kernel_rfl
  · kernel_rfl
  · exact fun _ _ _ h => h
  · refine Or.inl ⟨by rfl, ?_⟩
    intro w' hSw
    (try dsimp only at hSw)
    go_simp
    all_goals (with_reducible rfl)
  · assumption
  try simp only [Act.put, List.setIfInBounds_toArray, List.set_cons_zero, List.set_cons_succ]
  refine wpAnyH_take (i := 3) (oi := ?_) (v := ?_) ?_ ?_ ?_ ?_ ?_ ?_ ?_ ?_
  rotate_left 2
  · simp only [List.getElem?_toArray, List.getElem?_cons_succ, List.getElem?_cons_zero]; rfl
  · kernel_rfl
  · kernel_rfl
  · kernel_rfl
  · exact fun _ _ _ h => h
  · refine Or.inl ⟨by rfl, ?_⟩
    intro w' hSw
    (try dsimp only at hSw)
    go_simp
    all_goals (with_reducible rfl)
  · assumption
  try simp only [Act.put, List.setIfInBounds_toArray, List.set_cons_zero, List.set_cons_succ]
  refine wpAnyH_take (i := 4) (oi := ?_) (v := ?_) ?_ ?_ ?_ ?_ ?_ ?_ ?_ ?_
  rotate_left 2
  · simp only [List.getElem?_toArray, List.getElem?_cons_succ, List.getElem?_cons_zero]; rfl
  · kernel_rfl
  · kernel_rfl
  · kernel_rfl
  · exact fun _ _ _ h => h
  · refine Or.inl ⟨by rfl, ?_⟩
    intro w' hSw
    (try dsimp only at hSw)
    go_simp
    all_goals (with_reducible rfl)
  · assumption
  try simp only [Act.put, List.setIfInBounds_toArray, List.set_cons_zero, List.set_cons_succ]
  refine wpAnyH_ready (rs := [5]) (by kernel_rfl) (by simp) ?_
  refine AllReadyH.cons (o := ?_) ?_ ?_ ?_
  rotate_left 1
  · simp only [List.getElem?_toArray, List.getElem?_cons_succ, List.getElem?_cons_zero]; rfl
  rotate_left 1
  · exact AllReadyH.nil
  intro K hK
  go_simp
  (try rw [hlk])
  refine hK.out _ _ st (fun hHeld => ?_)
  clear hK K
  try simp only [Act.put, List.setIfInBounds_toArray, List.set_cons_zero, List.set_cons_succ]
  refine wpAnyH_ready (rs := [6]) (by kernel_rfl) (by simp) ?_
  refine AllReadyH.cons (o := ?_) ?_ ?_ ?_
  rotate_left 1
  · simp only [List.getElem?_toArray, List.getElem?_cons_succ, List.getElem?_cons_zero]; rfl
  rotate_left 1
  · exact AllReadyH.nil
  intro K hK
  go_simp
  refine (clone_none _).mono ?_; rintro e w' ⟨rfl, rfl⟩
  refine hK.out _ _ st (fun hHeld => ?_)
  clear hK K
  try simp only [Act.put, List.setIfInBounds_toArray, List.set_cons_zero, List.set_cons_succ]
  refine wpAnyH_take (i := 7) (oi := ?_) (v := ?_) ?_ ?_ ?_ ?_ ?_ ?_ ?_ ?_
  rotate_left 2
  · simp only [List.getElem?_toArray, List.getElem?_cons_succ, List.getElem?_cons_zero]; rfl
  · kernel_rfl
  · kernel_rfl
  · kernel_rfl
  · exact fun _ _ _ h => h
  · refine Or.inl ⟨by rfl, ?_⟩
    intro w' hSw
    (try dsimp only at hSw)
    go_simp
    all_goals (with_reducible rfl)
  · assumption
  try simp only [Act.put, List.setIfInBounds_toArray, List.set_cons_zero, List.set_cons_succ]
  refine wpAnyH_done (by kernel_rfl) ?_ _
  clear hHeld hlk st
  go_wp2_with (go_at_call 20; ((with_reducible refine (sortG_none _ _ _).mono ?_); rintro e w' ⟨rfl, rfl⟩))
  refine wp_loop_rounds 1 ?_
  rw [rounds_succ]
  go_wp2
  go_ret
  exact ⟨0, isMost_nil _, rfl, auB HL1.out (below_draws (Below.refl _ _) 1)⟩
theorem sumIn_take {f t : Int} {l : List (Int × Int)} {j : Nat} {x : Int × Int} (hs : l.Pairwise (fun x y => x.1 ≤ y.1)) (hj : l[j]? = some x) (hx : t ≤ x.1) : sumIn f t (l.take j) = sumIn f t l := by
  have h : sumIn f t (l.drop j) = 0 := sumIn_out _ (fun y hy => by
    have hlt := (List.getElem?_eq_some_iff.1 hj).1
    rw [List.drop_eq_getElem_cons hlt] at hy
    have hx' : l[j] = x := (List.getElem?_eq_some_iff.1 hj).2
    rcases List.mem_cons.1 hy with e | e
    · rw [e, hx']; exact hx
    · have hp := hs.sublist (List.drop_sublist j l)
      rw [List.drop_eq_getElem_cons hlt] at hp
      have := (List.pairwise_cons.1 hp).1 y e
      rw [hx'] at this
      omega)
  conv => rhs; rw [← List.take_append_drop j l, sumIn_app, h]
  omega
set_option maxHeartbeats 8000000 in
theorem ledmost_some (k : Who) (len : Int) (hl : 1 ≤ len ∧ len ≤ 1000) (w : World) {b m c : Nat} {V : VM} {G : GM} (h : LedAt w b m c V G) {v0 : Value} (hv : V k = some v0) (hc : costs (G k)) (hn : (G k).length ≤ 1000) :
    Calls Try.prog 13 #[.pointer (some ⟨b, 0, none⟩), .agg #[.int .i64 k.r, .string k.s], .int .i64 len] w fun e w' => MostPost len (G k) w e w' := by
  obtain ⟨w1, hw1, k1, l1, s1⟩ := box_new w #[.int .i64 k.r, .string k.s] 31
  have H1 := Lib.hid (h.keep l1)
  have HL1 := Lib.hid l1
  have K1 := Lib.hid k1
  have HV := Lib.hid hv
  have HC := Lib.hid (And.intro hc hn)
  clear h l1 s1 k1 hv hc hn
  have d1 : decide (len < 1) = false := by rw [decide_eq_false_iff_not]; omega
  go_enter Try.func13, Try.ntmps13
  go_upto_region 3 with (fail)
  clear hw1 d1
  have D1 := Lib.hid (show LedAt w1.drew b m c V G from H1.out.keep (below_draws (Below.refl _ _) 1))
  have KD := Lib.hid (show Blk w1.drew w.heap.size 31 #[.int .i64 k.r, .string k.s] from K1.out)
  have hlk := D1.out.mp.look Try.underlying40 (C := whoC) (z := .slice none 0 0) (zeroG _) (s := k) trivial
  rw [HV.out] at hlk
  obtain ⟨L, hL⟩ : ∃ z, z = G k := ⟨_, rfl⟩
  have hne : L ≠ [] := by rw [hL]; exact H1.out.nz k v0 HV.out
  have hlen : 0 < L.length := List.length_pos_iff.2 hne
  have hrow : OwG w1.drew v0 L := by rw [hL]; exact D1.out.row k v0 HV.out
  have hcl : costs L ∧ L.length ≤ 1000 := by rw [hL]; exact HC.out
  obtain ⟨A, cc, hv, hcc, hcm, hAg⟩ := hrow.slice
  obtain ⟨g, rfl, hg0, hgl⟩ := hAg hlen
  obtain ⟨nl, hnl⟩ : ∃ z, z = L.length := ⟨_, rfl⟩
  rw [← hnl] at hv
  rw [hv] at hlk hrow
  have HR := Lib.hid (show OwG w1.drew (.slice (some ⟨g, 0, none⟩) nl cc) L ∧ nl = L.length ∧ costs L ∧ L.length ≤ 1000 ∧ 0 < L.length from ⟨hrow, hnl, hcl.1, hcl.2, hlen⟩)
  have HLG := Lib.hid hL
  have hnb : (nl : Int) ≤ 1000 := by omega
  have hn1 : 0 < nl := by omega
  clear hL hne hlen hrow hcl hv hcc hcm hAg hg0 hgl hnl
  change (Instr.lookup _ _ (.agg #[.int .i64 k.r, .string k.s]) _).run _ _ = .ok (.slice (some ⟨g, 0, none⟩) nl cc) _ at hlk
  have st : (∀ j, w1.drew.cell? ⟨b, j, none⟩ = (#[.map (some m)] : Array Value)[j]?) ∧ (∀ j, w1.drew.cell? ⟨w.heap.size, j, none⟩ = (#[.int .i64 k.r, .string k.s] : Array Value)[j]?) := ⟨D1.out.l.rd, KD.out.rd⟩
  refine wp_region_held_drew (S := fun wx => (∀ j, wx.cell? ⟨b, j, none⟩ = (#[.map (some m)] : Array Value)[j]?) ∧ ∀ j, wx.cell? ⟨w.heap.size, j, none⟩ = (#[.int .i64 k.r, .string k.s] : Array Value)[j]?) (by kernel_rfl) st (fun hHeld => ?_)
  refine wpAnyH_take (i := 0) (oi := ?_) (v := ?_) ?_ ?_ ?_ ?_ ?_ ?_ ?_ ?_
  rotate_left 2
  · simp only [List.getElem?_toArray, List.getElem?_cons_succ, List.getElem?_cons_zero]; rfl
  · kernel_rfl
  · kernel_rfl
  · kernel_rfl
  · exact fun _ _ _ h => h
  · refine Or.inl ⟨by rfl, ?_⟩
    intro w' hSw
    (try dsimp only at hSw)
    go_simp
    all_goals (with_reducible rfl)
  · assumption
  try simp only [Act.put, List.setIfInBounds_toArray, List.set_cons_zero, List.set_cons_succ]
  refine wpAnyH_take (i := 1) (oi := ?_) (v := ?_) ?_ ?_ ?_ ?_ ?_ ?_ ?_ ?_
  rotate_left 2
  · simp only [List.getElem?_toArray, List.getElem?_cons_succ, List.getElem?_cons_zero]; rfl
  · kernel_rfl
  · kernel_rfl
  · kernel_rfl
  · exact fun _ _ _ h => h
  · refine Or.inl ⟨by rfl, ?_⟩
    intro w' hSw
    (try dsimp only at hSw)
    go_simp
    all_goals (with_reducible rfl)
  · assumption
  try simp only [Act.put, List.setIfInBounds_toArray, List.set_cons_zero, List.set_cons_succ]
  refine wpAnyH_take (i := 2) (oi := ?_) (v := ?_) ?_ ?_ ?_ ?_ ?_ ?_ ?_ ?_
  rotate_left 2
  · simp only [List.getElem?_toArray, List.getElem?_cons_succ, List.getElem?_cons_zero]; rfl
  · kernel_rfl
  · kernel_rfl
  · kernel_rfl
  · exact fun _ _ _ h => h
  · refine Or.inl ⟨by rfl, ?_⟩
    intro w' hSw
    (try dsimp only at hSw)
    go_simp
    all_goals (with_reducible rfl)
  · assumption
  try simp only [Act.put, List.setIfInBounds_toArray, List.set_cons_zero, List.set_cons_succ]
  refine wpAnyH_take (i := 3) (oi := ?_) (v := ?_) ?_ ?_ ?_ ?_ ?_ ?_ ?_ ?_
  rotate_left 2
  · simp only [List.getElem?_toArray, List.getElem?_cons_succ, List.getElem?_cons_zero]; rfl
  · kernel_rfl
  · kernel_rfl
  · kernel_rfl
  · exact fun _ _ _ h => h
  · refine Or.inl ⟨by rfl, ?_⟩
    intro w' hSw
    (try dsimp only at hSw)
    go_simp
    all_goals (with_reducible rfl)
  · assumption
  try simp only [Act.put, List.setIfInBounds_toArray, List.set_cons_zero, List.set_cons_succ]
  refine wpAnyH_take (i := 4) (oi := ?_) (v := ?_) ?_ ?_ ?_ ?_ ?_ ?_ ?_ ?_
  rotate_left 2
  · simp only [List.getElem?_toArray, List.getElem?_cons_succ, List.getElem?_cons_zero]; rfl
  · kernel_rfl
  · kernel_rfl
  · kernel_rfl
  · exact fun _ _ _ h => h
  · refine Or.inl ⟨by rfl, ?_⟩
    intro w' hSw
    (try dsimp only at hSw)
    go_simp
    all_goals (with_reducible rfl)
  · assumption
  try simp only [Act.put, List.setIfInBounds_toArray, List.set_cons_zero, List.set_cons_succ]
  refine wpAnyH_ready (rs := [5]) (by kernel_rfl) (by simp) ?_
  refine AllReadyH.cons (o := ?_) ?_ ?_ ?_
  rotate_left 1
  · simp only [List.getElem?_toArray, List.getElem?_cons_succ, List.getElem?_cons_zero]; rfl
  rotate_left 1
  · exact AllReadyH.nil
  intro K hK
  go_simp
  (try rw [hlk])
  refine hK.out _ _ st (fun hHeld => ?_)
  clear hK K
  try simp only [Act.put, List.setIfInBounds_toArray, List.set_cons_zero, List.set_cons_succ]
  refine wpAnyH_ready (rs := [6]) (by kernel_rfl) (by simp) ?_
  refine AllReadyH.cons (o := ?_) ?_ ?_ ?_
  rotate_left 1
  · simp only [List.getElem?_toArray, List.getElem?_cons_succ, List.getElem?_cons_zero]; rfl
  rotate_left 1
  · exact AllReadyH.nil
  intro K hK
  go_simp
  refine (clone_some _ HR.out.1 HR.out.2.1 HR.out.2.2.2.2 HR.out.2.2.2.1).mono ?_; rintro e w5 ⟨g', c', rfl, o5, b5⟩; have O5 := Lib.hid o5; have B5 := Lib.hid b5; clear o5 b5
  refine hK.out _ _ ⟨(D1.out.l.keep B5.out).rd, (KD.out.keep B5.out).rd⟩ (fun hHeld => ?_)
  clear hK K
  try simp only [Act.put, List.setIfInBounds_toArray, List.set_cons_zero, List.set_cons_succ]
  refine wpAnyH_take (i := 7) (oi := ?_) (v := ?_) ?_ ?_ ?_ ?_ ?_ ?_ ?_ ?_
  rotate_left 2
  · simp only [List.getElem?_toArray, List.getElem?_cons_succ, List.getElem?_cons_zero]; rfl
  · kernel_rfl
  · kernel_rfl
  · kernel_rfl
  · exact fun _ _ _ h => h
  · refine Or.inl ⟨by rfl, ?_⟩
    intro w' hSw
    (try dsimp only at hSw)
    go_simp
    all_goals (with_reducible rfl)
  · assumption
  try simp only [Act.put, List.setIfInBounds_toArray, List.set_cons_zero, List.set_cons_succ]
  refine wpAnyH_done (by kernel_rfl) ?_ _
  clear hHeld hlk st
  go_upto_region 5 with (go_at_call 20; ((with_reducible refine (sortG_any _ O5.out HR.out.2.1 HR.out.2.2.2.2 (by have := HR.out.2.2.2.1; omega)).mono ?_); rintro e w6 ⟨rfl, R, hp6, hs6, o6, f6⟩; have O6 := Lib.hid o6; have P6 := Lib.hid (And.intro hp6 hs6); have F6 := Lib.hid f6; clear hp6 hs6 o6 f6))
  have HB6 := Lib.hid (show Below w.heap.size w w6 from auB HL1.out ((below_draws (Below.refl _ _) 1 : Below w1.heap.size w1 w1.drew).trans (B5.out.trans (F6.out.below B5.out.size (fun k hk => by rw [hk]; exact O5.out.base_le g' rfl)))))
  have HRR := Lib.hid (show R.length = nl ∧ costs R from ⟨by rw [P6.out.1.length_eq]; exact HR.out.2.1.symm, costs_perm P6.out.1 HR.out.2.2.1⟩)
  have HMO := Lib.hid (show IsMost len (G k) (mostS len R) from by rw [← HLG.out]; exact mostS_most P6.out.1 P6.out.2 HR.out.2.2.1)
  have hcap : nl ≤ c' := by
    obtain ⟨A, c2, hv, h1, h2, _⟩ := O6.out.slice
    injection hv with q1 q2 q3
    have := HRR.out.1
    omega
  clear D1 KD H1 K1 HV HC HLG HR O5 B5 F6 HL1
  go_wp2
  go_loopg [32, 8] nl (fun kk si sm wq => ∃ (i : Nat) (mo : Int), i ≤ nl ∧ Hid (kk = nl - i) ∧ si = .int .i64 (i : Int) ∧ sm = .int .i64 mo ∧ Hid ((0 ≤ mo ∧ mo ≤ 1023000) ∧ max mo (mostS len (R.drop i)) = mostS len R) ∧ Hid (Below w6.heap.size w6 wq))
  case atStart => exact ⟨0, 0, Nat.zero_le _, Lib.hid rfl, rfl, rfl, Lib.hid ⟨by omega, by rw [List.drop_zero]; have := mostS_nn len R; omega⟩, Lib.hid (Below.refl _ _)⟩
  case round =>
    obtain ⟨i, mo, hi, HKI, rfl, rfl, HMX, HBQ⟩ := hrel
    by_cases hin : i < nl
    · have hil : i < R.length := by rw [HRR.out.1]; exact hin
      have hgl : g' < w6.heap.size := O6.out.lt g' rfl
      have c0 : wr.cell? ⟨g', i * 2, none⟩ = some (.int .i64 (R[i]).1) := (HBQ.out.cell (p := ⟨g', i * 2, none⟩) hgl).trans (O6.out.cell encG_len (List.getElem?_eq_getElem hil) (j := 0) (by omega))
      have c1 : wr.cell? ⟨g', i * 2 + 1, none⟩ = some (.int .i64 (R[i]).2) := (HBQ.out.cell (p := ⟨g', i * 2 + 1, none⟩) hgl).trans (O6.out.cell encG_len (List.getElem?_eq_getElem hil) (j := 1) (by omega))
      have hxb := HRR.out.2 _ (List.getElem_mem hil)
      have hdrop := List.drop_eq_getElem_cons hil
      obtain ⟨xa, hxa⟩ : ∃ z, z = (R[i]).1 := ⟨_, rfl⟩
      obtain ⟨xc, hxc⟩ : ∃ z, z = (R[i]).2 := ⟨_, rfl⟩
      rw [← hxa] at c0 hxb
      rw [← hxc] at c1 hxb
      have hmS : mostS len (R.drop i) = max (sumIn xa (xa + len) (R.drop i)) (mostS len (R.drop (i + 1))) := by rw [hdrop, mostS, hxa]
      have CS := Lib.hid (fun wx => sum_any xa len (by unfold inR; omega) (by unfold inR; omega) wx)
      have hcl : clamp (xa + len) = xa + len := by unfold clamp; omega
      obtain ⟨en, hen⟩ : ∃ z, z = xa + len := ⟨_, rfl⟩
      rw [hcl, ← hen] at CS
      rw [← hen] at hmS
      have HMS := Lib.hid hmS
      have HXA := Lib.hid (show ∀ y, R[i]? = some y → xa = y.1 from fun y hy => by rw [List.getElem?_eq_getElem hil] at hy; injection hy with hy; rw [← hy]; exact hxa)
      have hie : (i : Int) < (nl : Int) := by omega
      have hib : (i : Int) ≤ 1000 := by omega
      have hicap : (i : Int) < (c' : Int) := by omega
      have HIN := Lib.hid hin
      clear hdrop hxa hxc hcl hen hmS hxb hgl hil hin
      go_upto_region 10 with (go_at_call 18; ((with_reducible refine (CS.out _).mono ?_); rintro e w' ⟨rfl, rfl⟩))
      go_wp2
      obtain ⟨ni, hni⟩ : ∃ z, z = nl - i := ⟨_, rfl⟩
      obtain ⟨D, hD⟩ : ∃ z, z = R.drop i := ⟨_, rfl⟩
      have HD := Lib.hid (show D.length = ni ∧ ni ≤ 1000 ∧ costs D ∧ D.Pairwise (fun x y => x.1 ≤ y.1) ∧ (∀ y ∈ D, xa ≤ y.1) from by
        have h1 : D.length = ni := by rw [hD, List.length_drop, HRR.out.1, hni]
        have h2 : D.Pairwise (fun x y => x.1 ≤ y.1) := by rw [hD]; exact P6.out.2.sublist (List.drop_sublist i R)
        refine ⟨h1, by omega, fun y hy => HRR.out.2 y (by rw [hD] at hy; exact List.mem_of_mem_drop hy), h2, fun y hy => ?_⟩
        have hil : i < R.length := by rw [HRR.out.1]; exact HIN.out
        rw [hD, List.drop_eq_getElem_cons hil] at h2
        rw [hD, List.drop_eq_getElem_cons hil] at hy
        rw [HXA.out _ (List.getElem?_eq_getElem hil)]
        rcases List.mem_cons.1 hy with e | e
        · rw [e]; exact Int.le_refl _
        · exact (List.pairwise_cons.1 h2).1 y e)
      have HNI := Lib.hid hni
      have HDD := Lib.hid hD
      have hnib : (ni : Int) ≤ 1000 := by have := HD.out.2.1; omega
      have HBQ2 := Lib.hid (auB HBQ.out ((Below.refl _ _).alloc (Nat.le_refl _) (.cells #[.int .i64 xa, .int .i64 xc] 45)))
      rw [← hni]
      clear hni hD c0 c1 hicap
      go_loopg [45, 12] ni (fun kk sj sm wq => ∃ j : Nat, j ≤ ni ∧ Hid (kk = ni - j) ∧ sj = .int .i64 (j : Int) ∧ sm = .int .i64 (sumIn xa en (D.take j)) ∧ Hid (Below w6.heap.size w6 wq))
      case atStart => exact ⟨0, Nat.zero_le _, Lib.hid rfl, rfl, rfl, HBQ2⟩
      case round =>
        obtain ⟨j, hj, HKJ, rfl, rfl, HBR⟩ := hrel
        have hsb := sumIn_bd xa en (D.take j) (costs_take HD.out.2.2.1 j)
        have htl : (D.take j).length ≤ j := List.length_take_le _ _
        by_cases hjl : j < ni
        · have hjl' : j < D.length := by rw [HD.out.1]; exact hjl
          have hgl : g' < w6.heap.size := O6.out.lt g' rfl
          have hij : R[i + j]? = some D[j] := by
            have : (R.drop i)[j]? = some D[j] := by rw [← HDD.out]; exact List.getElem?_eq_getElem hjl'
            rw [List.getElem?_drop] at this
            exact this
          have e2 : (i + j) * 2 = i * 2 + j * 2 := by omega
          have c0 : wr.cell? ⟨g', i * 2 + j * 2, none⟩ = some (.int .i64 (D[j]).1) := by
            rw [← e2]; exact (HBR.out.cell (p := ⟨g', (i + j) * 2, none⟩) hgl).trans (O6.out.cell encG_len hij (j := 0) (by omega))
          have c1 : wr.cell? ⟨g', i * 2 + j * 2 + 1, none⟩ = some (.int .i64 (D[j]).2) := by
            rw [← e2]; exact (HBR.out.cell (p := ⟨g', (i + j) * 2 + 1, none⟩) hgl).trans (O6.out.cell encG_len hij (j := 1) (by omega))
          have hxb := HD.out.2.2.1 _ (List.getElem_mem hjl')
          have hxlo := HD.out.2.2.2.2 _ (List.getElem_mem hjl')
          have s1 : sumIn xa en (D.take (j + 1)) = sumIn xa en (D.take j) + (if xa ≤ (D[j]).1 ∧ (D[j]).1 < en then (D[j]).2 else 0) := by
            rw [List.take_add_one, List.getElem?_eq_getElem hjl', sumIn_app]
            show _ + (_ + 0) = _
            rw [Int.add_zero]
          have s2 : en ≤ (D[j]).1 → sumIn xa en (D.take j) = sumIn xa en D := fun q => sumIn_take HD.out.2.2.2.1 (List.getElem?_eq_getElem hjl') q
          obtain ⟨ya, hya⟩ : ∃ z, z = (D[j]).1 := ⟨_, rfl⟩
          obtain ⟨yc, hyc⟩ : ∃ z, z = (D[j]).2 := ⟨_, rfl⟩
          rw [← hya] at c0 hxb hxlo s1 s2
          rw [← hyc] at c1 hxb s1
          have hjin : (j : Int) < (ni : Int) := by omega
          have hjb : (j : Int) ≤ 1000 := by omega
          by_cases hend : en ≤ ya
          · have hs2 := s2 hend
            rw [hs2] at hsb ⊢
            obtain ⟨sg, hsg⟩ : ∃ z, z = sumIn xa en D := ⟨_, rfl⟩
            rw [← hsg] at hsb ⊢
            obtain ⟨m2, hm2⟩ : ∃ z, z = max mo sg := ⟨_, rfl⟩
            have em : max mo sg = m2 := hm2.symm
            have HM2 := Lib.hid (And.intro hm2 hsg)
            have hgb : 0 ≤ sg ∧ sg ≤ 1023000 := by omega
            have HGB := Lib.hid hgb
            have hdd : decide (en ≤ ya) = true := by rw [decide_eq_true_iff]; exact hend
            clear s1 s2 hs2 hsg hm2 hsb htl hya hyc hij hgl hjl' hxb hxlo hend hgb
            go_wp2
            go_roundg (nl - (i + 1))
            case measure => have := HKI.out; have := HIN.out; omega
            case rel => exact ⟨i + 1, m2, HIN.out, Lib.hid rfl, by go_num, rfl, Lib.hid (by
                have h1 := HMX.out; have h2 := HMS.out; have h3 := HM2.out; have h4 := HGB.out
                rw [← HDD.out, ← h3.2] at h2
                exact ⟨by rw [h3.1]; omega, by rw [h3.1, ← h1.2, ← HDD.out, h2]; omega⟩), Lib.hid (auB HBR.out ((Below.refl _ _).alloc (Nat.le_refl _) _))⟩
          · have hdd : decide (en ≤ ya) = false := by rw [decide_eq_false_iff_not]; exact hend
            rw [if_pos ⟨hxlo, by omega⟩] at s1
            obtain ⟨sg, hsg⟩ : ∃ z, z = sumIn xa en (D.take j) := ⟨_, rfl⟩
            rw [← hsg] at hsb s1 ⊢
            have S12 := Lib.hid s1
            have CS2 := Lib.hid (fun wx => sum_any sg yc (by unfold inR; omega) (by unfold inR; omega) wx)
            have hcl : clamp (sg + yc) = sg + yc := by unfold clamp; omega
            obtain ⟨sn, hsn⟩ : ∃ z, z = sg + yc := ⟨_, rfl⟩
            rw [hcl, ← hsn] at CS2
            have HSN := Lib.hid hsn
            clear s1 s2 hsg hsb htl hya hyc hij hgl hjl' hxb hxlo hend hcl hsn
            go_wp2_with (go_at_call 18; ((with_reducible refine (CS2.out _).mono ?_); rintro e w' ⟨rfl, rfl⟩))
            go_roundg (ni - (j + 1))
            case measure => have := HKJ.out; omega
            case rel => exact ⟨j + 1, by omega, Lib.hid rfl, by go_num, by rw [S12.out, HSN.out], Lib.hid (auB HBR.out ((Below.refl _ _).alloc (Nat.le_refl _) _))⟩
        · have hje : j = ni := by omega
          have hfull : D.take j = D := List.take_of_length_le (by rw [HD.out.1]; omega)
          rw [hfull] at hsb ⊢
          obtain ⟨sg, hsg⟩ : ∃ z, z = sumIn xa en D := ⟨_, rfl⟩
          rw [← hsg] at hsb ⊢
          obtain ⟨m2, hm2⟩ : ∃ z, z = max mo sg := ⟨_, rfl⟩
          have em : max mo sg = m2 := hm2.symm
          have HM2 := Lib.hid (And.intro hm2 hsg)
          have HGB := Lib.hid (show 0 ≤ sg ∧ sg ≤ 1023000 by have := HD.out.1; have := HD.out.2.1; omega)
          have hjx : ¬ (j : Int) < (ni : Int) := by omega
          clear hsg hm2 hsb htl hje hfull
          go_wp2
          go_roundg (nl - (i + 1))
          case measure => have := HKI.out; have := HIN.out; omega
          case rel => exact ⟨i + 1, m2, HIN.out, Lib.hid rfl, by go_num, rfl, Lib.hid (by
              have h1 := HMX.out; have h2 := HMS.out; have h3 := HM2.out; have h4 := HGB.out
              rw [← HDD.out, ← h3.2] at h2
              exact ⟨by rw [h3.1]; omega, by rw [h3.1, ← h1.2, ← HDD.out, h2]; omega⟩), HBR⟩
    · have hie : i = nl := by omega
      have hix : ¬ (i : Int) < (nl : Int) := by omega
      have hfin : mo = mostS len R := by
        have h1 := HMX.out
        rw [List.drop_eq_nil_of_le (by rw [HRR.out.1]; omega)] at h1
        rw [← h1.2]
        show mo = max mo 0
        omega
      rw [hfin]
      clear hie hfin
      go_wp2
      go_ret
      exact ⟨_, HMO.out, rfl, HB6.out.trans (HBQ.out.mono HB6.out.size)⟩
end Go.Proofs.Yteeinckmmbdfoaa
