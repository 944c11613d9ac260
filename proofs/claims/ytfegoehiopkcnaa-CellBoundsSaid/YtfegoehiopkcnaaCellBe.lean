/- The laws of layer 9 (cell), walked: the bounds (the walk). -/
import Derived.Test.YtfegoehiopkcnaaCellBd
import Derived.Test.YtfegoehiopkcnaaGen
namespace Go.Proofs.Ytfegoehiopkcnaa
set_option linter.unusedSimpArgs false
set_option linter.unusedVariables false
open Go.ChangeShapes Go.WideShapes Go.ChangeAt Go.RowKit
open Ar (inR)
theorem below_gr {W w w' : World} {v : Value} (h : Below W.heap.size W w) (hg : w.grownBy w' v.ownBlock) (hv : ∀ g, v.ownBlock = some g → W.heap.size ≤ g) : Below W.heap.size W w' :=
  (fr_grown (F := fun _ => False) (Fr.of_below h) hg hv).below (Nat.le_refl _) (fun _ hk => hk.elim)
theorem own_cells {w : World} {base : Nat} {e : TypeId} {v : Value} {ls : List (Int × Int)} (h : w.ownsRow base e 2 v ls.length (cells2 ls)) :
    ∃ A c, v = .slice A ls.length c ∧ ∀ j (hj : j < ls.length), ∃ g, A = some ⟨g, 0, none⟩ ∧ g < w.heap.size ∧ w.cell? ⟨g, j * 2, none⟩ = some (.int .i64 (ls[j]).1) ∧ w.cell? ⟨g, j * 2 + 1, none⟩ = some (.int .i64 (ls[j]).2) := by
  have h' := h
  rcases h.2 with ⟨rfl, h0⟩ | ⟨g, cap, cur, rfl, hb, hg, _⟩
  · exact ⟨none, 0, by rw [h0], fun j hj => by omega⟩
  · refine ⟨_, _, rfl, fun j hj => ⟨g, rfl, lt_of_block hg, ?_, ?_⟩⟩
    · exact (h'.cellAt _ (by omega)).trans (cells2_at ls j hj).1
    · exact (h'.cellAt _ (by omega)).trans (cells2_at ls j hj).2
theorem row_cells {w : World} {base g N cl n : Nat} {e : TypeId} {x y : Nat → Int} {ax ay : Int} (h : w.ownsRow base e 2 (.slice (some ⟨g, 0, none⟩) N cl) N (cells2 (pairs x y n) ++ [.int .i64 ax, .int .i64 ay])) :
    ∀ i (hi : i < (pairs x y n ++ [(ax, ay)]).length), w.cell? ⟨g, i * 2, none⟩ = some (.int .i64 ((pairs x y n ++ [(ax, ay)])[i]).1) ∧ w.cell? ⟨g, i * 2 + 1, none⟩ = some (.int .i64 ((pairs x y n ++ [(ax, ay)])[i]).2) := by
  intro i hi
  rw [show cells2 (pairs x y n) ++ [.int .i64 ax, .int .i64 ay] = cells2 (pairs x y n ++ [(ax, ay)]) from by rw [cells2_app]; rfl] at h
  have hl := h.1
  rw [cells2_length] at hl
  exact ⟨(h.cellAt _ (by omega)).trans (cells2_at _ i hi).1, (h.cellAt _ (by omega)).trans (cells2_at _ i hi).2⟩
set_option maxHeartbeats 6000000 in
set_option maxRecDepth 100000 in
theorem bounds_law (w : World) (a b c ax ay : Int) (A : Option Addr) (n cap : Nat) (x y : Nat → Int) (ha : inR a) (hb : inR b) (hc : inR c) (hr : RdP w A n cap x y) :
    Calls Try.prog 5 #[.agg #[.int .i64 a, .int .i64 b, .int .i64 c], .slice A n cap, .agg #[.int .i64 ax, .int .i64 ay]] w fun e w' => e = .returned (.bool true) ∧ Below w.heap.size w w' := by
  have hmx := hr.max
  unfold maxLen at hmx
  by_cases hn : (100 : Int) < (n : Int)
  · clear hr
    go_enter Try.func5, Try.ntmps5
    go_upto_region 1 with (fail)
    obtain ⟨w0, e0, n1, n2, b0⟩ := two_blk w #[.int .i64 a, .int .i64 b, .int .i64 c] #[.int .i64 ax, .int .i64 ay] 23 40
    rw [e0]
    go_wp2_with (go_at_call 11; refine (fit_any _).mono ?_; rintro e w1 ⟨rfl, b1⟩; have B1 := Lib.hid (below_from b0 b1); clear b1)
    go_ret
    exact ⟨rfl, B1.out⟩
  have c0 := fun w => rule_any a b c ha hb hc w
  obtain ⟨f1, f2, f3, f4, f5, f6⟩ := plan_facts a b c
  obtain ⟨L, hL⟩ : ∃ z, z = planL a := ⟨_, rfl⟩
  obtain ⟨W, hW⟩ : ∃ z, z = planW b := ⟨_, rfl⟩
  obtain ⟨B, hB⟩ : ∃ z, z = planB a c := ⟨_, rfl⟩
  rw [← hL, ← hW, ← hB] at c0
  rw [← hL] at f1 f2 f6
  rw [← hW] at f3 f4
  rw [← hB] at f5 f6
  have c1 := fun w => of_any L W B 0 0 0 0 0 false (by unfold inR; omega) (by unfold inR; omega) (by unfold inR; omega) w
  obtain ⟨u1, u2, u3⟩ := plan_unit ⟨f1, f2⟩ ⟨f3, f4⟩ ⟨f5, f6⟩
  obtain ⟨U, hU⟩ : ∃ z, z = unitZ W (L + 1 - B) := ⟨_, rfl⟩
  rw [← hU] at c1 u1 u2 u3
  have hn2 : (n : Int) ≤ 100 := by omega
  have c2 := fun w => new_any 0 0 w
  have C0 := Lib.hid c0
  have C1 := Lib.hid c1
  have C2 := Lib.hid c2
  have HR := Lib.hid hr
  have HU := Lib.hid u3
  clear c0 c1 c2 hL hW hB hU ha hb hc hr hn u3
  go_enter Try.func5, Try.ntmps5
  go_upto_region 1 with (fail)
  obtain ⟨w0, e0, n1, n2, b0⟩ := two_blk w #[.int .i64 a, .int .i64 b, .int .i64 c] #[.int .i64 ax, .int .i64 ay] 23 40
  rw [e0]
  have Q0 := Lib.hid (And.intro n1 n2)
  have B0 := Lib.hid b0
  generalize hp0 : w.heap.size = plb at n1 n2 Q0 ⊢
  generalize hp1 : plb + 1 = ab at n1 n2 Q0 ⊢
  have HPB := Lib.hid (And.intro hp0 hp1)
  clear e0 n1 n2 b0 hp0 hp1
  go_upto_region 5 with (first
    | (go_at_call 11; refine (fit_any _).mono ?_; rintro e w1 ⟨rfl, b1⟩; have Q1 := Lib.hid (keep2 Q0.out b1); have q1 := Q1.out.1.rd; have q2 := Q1.out.2.rd; have B1 := Lib.hid (below_from B0.out b1); clear b1))
  go_upto_region 6 with (first
    | (go_at_call 12; ((with_reducible refine (C0.out _).mono ?_); rintro e w2 ⟨rfl, b2⟩; have Q2 := Lib.hid (keep2 Q1.out b2); have B2 := Lib.hid (below_from B1.out b2); clear b2)))
  obtain ⟨w2', e2, r2, b2, s2⟩ := box_new w2 #[.int .i64 L, .int .i64 W, .int .i64 B, .int .i64 0, .int .i64 0, .int .i64 0, .int .i64 0, .int .i64 0, .bool false] 28
  rw [e2]
  have B2' := Lib.hid (below_from B2.out b2)
  have Q2' := Lib.hid (And.intro r2 (Q2.out.2.keep b2))
  generalize hrb : w2.heap.size = rb at r2 Q2' ⊢
  have r2c := r2.rd
  clear e2 b2 s2 hrb q1 q2 B1 B2 B0 Q0 Q1 Q2 r2
  go_upto_region 7 with (first
    | (go_at_call 13; ((with_reducible refine (C1.out _).mono ?_); rintro e w3 ⟨rfl, b3⟩; have Q3 := Lib.hid (keep2 Q2'.out b3); have B3 := Lib.hid (below_from B2'.out b3); clear b3)))
  obtain ⟨w3', e3, p3, b3, s3⟩ := box_new w3 #[.int .i64 U, .int .i64 W, .int .i64 B, .int .i64 L] 31
  rw [e3]
  have B3' := Lib.hid (below_from B3.out b3)
  have Q3' := Lib.hid (And.intro p3 (keep2 Q3.out b3))
  generalize hpb : w3.heap.size = pb at p3 Q3' ⊢
  clear e3 b3 s3 hpb Q2' r2c B2' B3 Q3 p3
  go_upto_region 9 with (first
    | (go_at_call 15; ((with_reducible refine (C2.out _).mono ?_); rintro e w4 ⟨rfl, b4⟩; have Q4 := Lib.hid (keep3 Q3'.out b4); have B4 := Lib.hid (below_from B3'.out b4); clear b4)))
  obtain ⟨wy, e4, hc4, b4, s4⟩ := box_new w4 #[.int .i64 0, .int .i64 0, .int .i64 0, .int .i64 0] 36
  rw [e4]
  have QY := Lib.hid (And.intro hc4 (keep3 Q4.out b4))
  have BY := Lib.hid (below_from B4.out b4)
  have NE := Lib.hid (show pb ≠ w4.heap.size ∧ rb ≠ w4.heap.size from ⟨Nat.ne_of_lt (lt_of_block Q4.out.1), Nat.ne_of_lt (lt_of_block Q4.out.2.1)⟩)
  have HLB := Lib.hid (show w.heap.size ≤ w4.heap.size from B4.out.size)
  generalize hbc : w4.heap.size = bc at hc4 QY NE HLB ⊢
  clear e4 b4 s4 Q3' Q4 B4 B3' hc4 hbc
  go_upto_region 10 with (fail)
  -- the row of calls, and the call that asks
  have QD := Lib.hid (show Blk wy.drew ab 40 #[.int .i64 ax, .int .i64 ay] from (QY.out.2.2.2).drew)
  have BD := Lib.hid (show Below wy.heap.size wy wy.drew from below_draws (Below.refl _ _) 1)
  have RD := Lib.hid (HR.out.below (BY.out.trans (BD.out.mono BY.out.size)))
  have LA := Lib.hid (lt_of_block QY.out.2.2.2)
  have yd := QD.out.rd
  obtain ⟨i0, hi0, hz0, hz1, hz2⟩ := info_parts infoCall
  have HI := Lib.hid (And.intro hi0 (And.intro hz0 (And.intro hz1 hz2)))
  clear hi0 hz0 hz1 hz2
  refine wp_region_held_drew (S := fun w' => ∀ j, w'.cell? ⟨ab, j, none⟩ = (#[.int .i64 ax, .int .i64 ay] : Array Value)[j]?) (by kernel_rfl) yd (fun hHeld => ?_)
  clear yd
  refine wpAnyH_take (i := 0) (oi := ?_) (v := ?_) ?_ ?_ ?_ ?_ ?_ ?_ ?_ ?_
  rotate_left 2
  · simp only [List.getElem?_toArray, List.getElem?_cons_succ, List.getElem?_cons_zero]; rfl
  · kernel_rfl
  · kernel_rfl
  · kernel_rfl
  · exact fun _ _ _ h => h
  · refine Or.inl ⟨by rfl, ?_⟩
    intro w' hSw
    (try dsimp only at hSw)
    go_simp
    all_goals (with_reducible rfl)
  · assumption
  try simp only [Act.put, List.setIfInBounds_toArray, List.set_cons_zero, List.set_cons_succ]
  refine wpAnyH_take (i := 2) (oi := ?_) (v := ?_) ?_ ?_ ?_ ?_ ?_ ?_ ?_ ?_
  rotate_left 2
  · simp only [List.getElem?_toArray, List.getElem?_cons_succ, List.getElem?_cons_zero]; rfl
  · kernel_rfl
  · kernel_rfl
  · kernel_rfl
  · exact fun _ _ _ h => h
  · refine Or.inl ⟨by rfl, ?_⟩
    intro w' hSw
    (try dsimp only at hSw)
    go_simp
    all_goals (with_reducible rfl)
  · assumption
  try simp only [Act.put, List.setIfInBounds_toArray, List.set_cons_zero, List.set_cons_succ]
  refine wpAnyH_take (i := 6) (oi := ?_) (v := ?_) ?_ ?_ ?_ ?_ ?_ ?_ ?_ ?_
  rotate_left 2
  · simp only [List.getElem?_toArray, List.getElem?_cons_succ, List.getElem?_cons_zero]; rfl
  · kernel_rfl
  · kernel_rfl
  · kernel_rfl
  · exact fun _ _ _ h => h
  · refine Or.inl ⟨by rfl, ?_⟩
    intro w' hSw
    (try dsimp only at hSw)
    go_simp
    all_goals (with_reducible rfl)
  · assumption
  try simp only [Act.put, List.setIfInBounds_toArray, List.set_cons_zero, List.set_cons_succ]
  refine wpAnyH_ready (rs := [1, 3]) (by kernel_rfl) (by simp) ?_
  refine AllReadyH.cons (o := ?_) ?_ ?_ ?_
  rotate_left 1
  · simp only [List.getElem?_toArray, List.getElem?_cons_succ, List.getElem?_cons_zero]; rfl
  focus
    intro K hK
    skip
    refine step_cat0 (by rfl) _ _ (by rfl) (by rfl) (by rfl) RD.out (by omega) ?_; intro v1 w9 hown1 hg1; have O9 := Lib.hid hown1; have B9 := Lib.hid (below_gr (v := .slice none 0 0) BD.out hg1 (fun g e => by cases e)); have K9 := Lib.hid (QD.out.fr (fr_grown (F := fun _ => False) (v := .slice none 0 0) (Fr.refl _ _) hg1 (fun g e => by cases e)) (fun h => h)); clear hown1 hg1
    refine hK.out _ _ K9.out.rd (fun hHeld => ?_)
    clear hK K
    try simp only [Act.put, List.setIfInBounds_toArray, List.set_cons_zero, List.set_cons_succ]
    refine wpAnyH_ready (rs := [3]) (by kernel_rfl) (by simp) ?_
    refine AllReadyH.cons (o := ?_) ?_ ?_ ?_
    rotate_left 1
    · simp only [List.getElem?_toArray, List.getElem?_cons_succ, List.getElem?_cons_zero]; rfl
    rotate_left 1
    · exact AllReadyH.nil
    intro K hK
    go_simp
    have KA := Lib.hid (K9.out.alloc (.cells #[.int .i64 ax, .int .i64 ay] 40))
    refine hK.out _ _ KA.out.rd (fun hHeld => ?_)
    clear hK K
    try simp only [Act.put, List.setIfInBounds_toArray, List.set_cons_zero, List.set_cons_succ]
    refine wpAnyH_ready (rs := [4]) (by kernel_rfl) (by simp) ?_
    refine AllReadyH.cons (o := ?_) ?_ ?_ ?_
    rotate_left 1
    · simp only [List.getElem?_toArray, List.getElem?_cons_succ, List.getElem?_cons_zero]; rfl
    rotate_left 1
    · exact AllReadyH.nil
    intro K hK
    refine step_append_lies _ (by rfl) _ _ 25 (by rfl) wy.heap.size 40 i0 (.agg #[.int .i64 0, .int .i64 0]) 2 16 (by rfl) HI.out.1 HI.out.2.1 HI.out.2.2.1 HI.out.2.2.2 (by rfl) (by omega) v1 n (cells2 (pairs x y n)) (by rfl) (O9.out.alloc _) ⟨w9.heap.size, 0, none⟩ 1 1 [.int .i64 ax, .int .i64 ay] (by rfl) (by rfl) (World.news_of_block (heap_alloc_new w9 _)) (by simp [Value.oneCell']) (by omega) (by unfold maxLen; omega) (by omega) (by have := B9.out.size; simp; omega) _ rfl ?_; intro gl cl w11 hown11 hgr11 hat11 hlt11; have B11 := Lib.hid (below_gr (B9.out.alloc B9.out.size _) hgr11 (own_base O9.out)); have K11 := Lib.hid (QY.out.2.2.2.keep B11.out); have RW := Lib.hid (row_cells hown11); have LT := Lib.hid hlt11; have LGB := Lib.hid (show wy.heap.size ≤ gl from own_base hown11 gl rfl); clear hown11 hgr11 hat11 hlt11
    refine hK.out _ _ K11.out.rd (fun hHeld => ?_)
    clear hK K
    try simp only [Act.put, List.setIfInBounds_toArray, List.set_cons_zero, List.set_cons_succ]
    refine wpAnyH_take (i := 5) (oi := ?_) (v := ?_) ?_ ?_ ?_ ?_ ?_ ?_ ?_ ?_
    rotate_left 2
    · simp only [List.getElem?_toArray, List.getElem?_cons_succ, List.getElem?_cons_zero]; rfl
    · kernel_rfl
    · kernel_rfl
    · kernel_rfl
    · exact fun _ _ _ h => h
    · refine Or.inl ⟨by rfl, ?_⟩
      intro w' hSw
      (try dsimp only at hSw)
      go_simp
      all_goals (with_reducible rfl)
    · assumption
    try simp only [Act.put, List.setIfInBounds_toArray, List.set_cons_zero, List.set_cons_succ]
    clear hHeld
  rotate_left
  focus
    have BA := Lib.hid (show Below wy.heap.size wy (wy.alloc (.cells #[.int .i64 ax, .int .i64 ay] 40)).drew from BD.out.alloc BD.out.size _)
    have KA := Lib.hid (show Blk (wy.alloc (.cells #[.int .i64 ax, .int .i64 ay] 40)).drew ab 40 #[.int .i64 ax, .int .i64 ay] from QD.out.alloc _)
    have NA := Lib.hid (show Blk (wy.alloc (.cells #[.int .i64 ax, .int .i64 ay] 40)).drew wy.heap.size 40 #[.int .i64 ax, .int .i64 ay] from heap_alloc_new wy.drew _)
    have RA := Lib.hid (HR.out.below (BY.out.trans (BA.out.mono BY.out.size)))
    refine AllReadyH.cons (o := ?_) ?_ ?_ ?_
    rotate_left 1
    · simp only [List.getElem?_toArray, List.getElem?_cons_succ, List.getElem?_cons_zero]; rfl
    rotate_left 1
    · exact AllReadyH.nil
    intro K hK
    go_simp
    skip
    refine hK.out _ _ KA.out.rd (fun hHeld => ?_)
    clear hK K
    try simp only [Act.put, List.setIfInBounds_toArray, List.set_cons_zero, List.set_cons_succ]
    refine wpAnyH_ready (rs := [1]) (by kernel_rfl) (by simp) ?_
    refine AllReadyH.cons (o := ?_) ?_ ?_ ?_
    rotate_left 1
    · simp only [List.getElem?_toArray, List.getElem?_cons_succ, List.getElem?_cons_zero]; rfl
    rotate_left 1
    · exact AllReadyH.nil
    intro K hK
    refine step_cat0 (by rfl) _ _ (by rfl) (by rfl) (by rfl) RA.out (by omega) ?_; intro v1 w9 hown1 hg1; have O9 := Lib.hid hown1; have B9 := Lib.hid (below_gr (v := .slice none 0 0) BA.out hg1 (fun g e => by cases e)); have K9 := Lib.hid (KA.out.fr (fr_grown (F := fun _ => False) (v := .slice none 0 0) (Fr.refl _ _) hg1 (fun g e => by cases e)) (fun h => h)); have N9 := Lib.hid (NA.out.fr (fr_grown (F := fun _ => False) (v := .slice none 0 0) (Fr.refl _ _) hg1 (fun g e => by cases e)) (fun h => h)); have S9 := Lib.hid hg1.size; clear hown1 hg1
    refine hK.out _ _ K9.out.rd (fun hHeld => ?_)
    clear hK K
    try simp only [Act.put, List.setIfInBounds_toArray, List.set_cons_zero, List.set_cons_succ]
    refine wpAnyH_ready (rs := [4]) (by kernel_rfl) (by simp) ?_
    refine AllReadyH.cons (o := ?_) ?_ ?_ ?_
    rotate_left 1
    · simp only [List.getElem?_toArray, List.getElem?_cons_succ, List.getElem?_cons_zero]; rfl
    rotate_left 1
    · exact AllReadyH.nil
    intro K hK
    refine step_append_lies _ (by rfl) _ _ 25 (by rfl) _ 40 i0 (.agg #[.int .i64 0, .int .i64 0]) 2 16 (by rfl) HI.out.1 HI.out.2.1 HI.out.2.2.1 HI.out.2.2.2 (by rfl) (by omega) v1 n (cells2 (pairs x y n)) (by rfl) O9.out ⟨wy.heap.size, 0, none⟩ 1 1 [.int .i64 ax, .int .i64 ay] (by rfl) (by rfl) (World.news_of_block N9.out) (by simp [Value.oneCell']) (by omega) (by unfold maxLen; omega) (by omega) S9.out _ rfl ?_; intro gl cl w11 hown11 hgr11 hat11 hlt11; have B11 := Lib.hid (below_gr B9.out hgr11 (fun g e => by have := own_base O9.out g e; have h2 : wy.heap.size ≤ (wy.alloc (.cells #[.int .i64 ax, .int .i64 ay] 40)).drew.heap.size := BA.out.size; omega)); have K11 := Lib.hid (QY.out.2.2.2.keep B11.out); have RW := Lib.hid (row_cells hown11); have LT := Lib.hid hlt11; have LGB := Lib.hid (show wy.heap.size ≤ gl from Nat.le_trans BA.out.size (own_base hown11 gl rfl)); clear hown11 hgr11 hat11 hlt11 RA BA KA NA N9 S9
    refine hK.out _ _ K11.out.rd (fun hHeld => ?_)
    clear hK K
    try simp only [Act.put, List.setIfInBounds_toArray, List.set_cons_zero, List.set_cons_succ]
    refine wpAnyH_take (i := 5) (oi := ?_) (v := ?_) ?_ ?_ ?_ ?_ ?_ ?_ ?_ ?_
    rotate_left 2
    · simp only [List.getElem?_toArray, List.getElem?_cons_succ, List.getElem?_cons_zero]; rfl
    · kernel_rfl
    · kernel_rfl
    · kernel_rfl
    · exact fun _ _ _ h => h
    · refine Or.inl ⟨by rfl, ?_⟩
      intro w' hSw
      (try dsimp only at hSw)
      go_simp
      all_goals (with_reducible rfl)
    · assumption
    try simp only [Act.put, List.setIfInBounds_toArray, List.set_cons_zero, List.set_cons_succ]
    clear hHeld
  rotate_left
  all_goals
    have QZ := Lib.hid (And.intro (QY.out.1.keep B11.out) (keep2 (And.intro QY.out.2.1 QY.out.2.2.1) B11.out))
    have BZ := Lib.hid (below_from BY.out B11.out)
    have LBC := Lib.hid (lt_of_block QZ.out.1)
    have NGB := Lib.hid (show gl ≠ bc from fun e => by have := lt_of_block QY.out.1; have := LGB.out; omega)
    obtain ⟨ps, hps⟩ : ∃ ps, ps = pairs x y n ++ [(ax, ay)] := ⟨_, rfl⟩
    have hpl : ps.length = n + 1 := by rw [hps, List.length_append, pairs_length]; rfl
    have RP := Lib.hid (show ∀ i (hi : i < ps.length), w11.cell? ⟨gl, i * 2, none⟩ = some (.int .i64 (ps[i]).1) ∧ w11.cell? ⟨gl, i * 2 + 1, none⟩ = some (.int .i64 (ps[i]).2) from by subst hps; exact RW.out)
    have HPL := Lib.hid hpl
    have HLT := Lib.hid (show gl < w11.heap.size from LT.out)
    generalize hbase : w11.heap.size = base at LBC
    have HBS := Lib.hid hbase
    clear RW LT hps hpl hbase QD BD RD LA HI B9 K9 O9 K11 QY LGB
    refine wpAnyH_done (by kernel_rfl) ?_ _
    go_wp2
    go_loopg [9, 11, 36] (n + 1) (fun k now lv si wr => ∃ (i : Nat) (t F D : Int) (ls : List (Int × Int)), i ≤ n + 1 ∧ k = n + 1 - i ∧ si = .int .i64 (i : Int) ∧ now = .int .i64 t ∧ (0 ≤ t ∧ t ≤ 4095 * i) ∧ (0 ≤ F ∧ F ≤ t + B * U) ∧ (0 ≤ D ∧ D ≤ 32 * i) ∧ CellAt wr bc F 0 0 D ∧ Fr (fun k => k = bc) w11 wr ∧
      wr.ownsRow base 53 2 lv ls.length (cells2 ls) ∧ ls.length ≤ i ∧ Taken F t U ls ∧ (∀ T, sumGt T ls ≤ D))
    case atStart => exact ⟨0, 0, 0, 0, [], by omega, by omega, rfl, rfl, by omega, ⟨by omega, by have : 0 ≤ B * U := Int.mul_nonneg (by omega) (by omega); omega⟩, by omega, QZ.out.1, Fr.refl _ _, ⟨rfl, Or.inl ⟨rfl, rfl⟩⟩, by simp, taken_nil _ _ _, fun T => by show (0 : Int) ≤ _; omega⟩
    case round =>
      obtain ⟨i, t, F, D, ls, hi, hkk, rfl, rfl, ht, hF, hD, hcr, hfr, hown, hll, htk, hsd⟩ := hrel
      have HK := Lib.hid hkk
      have HFW := Lib.hid hfr
      have HCR := Lib.hid hcr
      have HOW := Lib.hid hown
      have HTK := Lib.hid htk
      have HSL := Lib.hid (And.intro hll hsd)
      have HQ := Lib.hid (show Blk wr rb _ _ ∧ Blk wr pb _ _ from ⟨QZ.out.2.2.fr hfr NE.out.2, QZ.out.2.1.fr hfr NE.out.1⟩)
      have HB := Lib.hid (BZ.out.trans (hfr.below BZ.out.size (fun k hk => by subst hk; exact HLB.out)))
      have hbu : 0 ≤ B * U ∧ B * U ≤ 8192 := ⟨Int.mul_nonneg (by omega) (by omega), Int.mul_le_mul (by omega : B ≤ 32) u2 (by omega) (by omega)⟩
      clear hkk hcr hfr hown htk hll hsd
      by_cases hin : i < n + 1
      · have hpi : i < ps.length := by rw [HPL.out]; exact hin
        obtain ⟨g0, g1⟩ := RP.out i hpi
        have hgb : gl ≠ bc := NGB.out
        have q0 : wr.cell? ⟨gl, i * 2, none⟩ = some (.int .i64 (ps[i]).1) := (World.cell?_of_block (HFW.out.block gl HLT.out hgb)).trans g0
        have q1 : wr.cell? ⟨gl, i * 2 + 1, none⟩ = some (.int .i64 (ps[i]).2) := (World.cell?_of_block (HFW.out.block gl HLT.out hgb)).trans g1
        obtain ⟨xi, hxi⟩ : ∃ z, z = (ps[i]).1 := ⟨_, rfl⟩
        obtain ⟨yi, hyi⟩ : ∃ z, z = (ps[i]).2 := ⟨_, rfl⟩
        rw [← hxi] at q0
        rw [← hyi] at q1
        have hji : (i : Int) < (n : Int) + 1 := by omega
        clear g0 g1 hxi hyi hpi hgb
        go_upto_region 13 with (fail)
        obtain ⟨w5, e5, k5, b5, s5⟩ := box_new wr #[.int .i64 xi, .int .i64 yi] 40
        rw [e5]
        generalize wr.heap.size = kb at k5 ⊢
        have Q5 := Lib.hid (And.intro k5 (keep2 HQ.out b5))
        have C5 := Lib.hid (HCR.out.below b5)
        have O5 := Lib.hid (own_below HOW.out b5)
        have k5r := Q5.out.1.rd
        have r5r := Q5.out.2.1.rd
        have p5r := Q5.out.2.2.rd
        have F5 := Lib.hid (HFW.out.trans (Fr.of_below b5))
        clear e5 b5 s5 q0 q1 k5
        have hg := gap_bd xi
        have cg := fun w => gap_any xi w
        obtain ⟨g, hge⟩ : ∃ g, g = gapZ xi := ⟨_, rfl⟩
        rw [← hge] at cg hg
        obtain ⟨t', ht'⟩ : ∃ z, z = t + g := ⟨_, rfl⟩
        have rng : Rng F 0 0 D U W B L t' := ⟨by omega, by omega, by omega, by omega, by omega, by omega, by omega, by omega, by omega⟩
        have rng2 : Rng t' t' 0 0 U W B L t' := ⟨by omega, by omega, by omega, by omega, by omega, by omega, by omega, by omega, by omega⟩
        obtain ⟨m, hm⟩ : ∃ z, z = yi % 32 := ⟨_, rfl⟩
        have e1 : bits .and .i64 yi 31 = m := by rw [hm]; exact i64_mask5 _
        have hmb : 0 ≤ m ∧ m ≤ 31 := by omega
        obtain ⟨r, hrm⟩ : ∃ z, z = m % B := ⟨_, rfl⟩
        have hrb : 0 ≤ r ∧ r < B := by rw [hrm]; exact ⟨Int.emod_nonneg _ (by omega), Int.emod_lt_of_pos _ (by omega)⟩
        obtain ⟨co, hco⟩ : ∃ z, z = r + 1 := ⟨_, rfl⟩
        have hcob : 1 ≤ co ∧ co ≤ B := by omega
        have hti : t' ≤ 1000000 := by omega
        have htj : 0 ≤ t' := by omega
        have et : t + g = t' := ht'.symm
        have er : m % B = r := hrm.symm
        have eco : r + 1 = co := hco.symm
        have CG := Lib.hid cg
        obtain ⟨bf1, bf2, bf3⟩ := bound_facts (co := co) rng (HTK.out.later (by omega : t ≤ t')) (by omega) HU.out HSL.out.2
        obtain ⟨nf1, nf2⟩ := new_facts (t := t') (co := co) u1 f3 ⟨f5, f6⟩ hcob
        have cb := fun w => bound_rng rng w
        have ci := fun w => idle_rng rng w
        have cr1 := fun w => room_rng rng w
        have cr2 := fun w => room_rng rng2 w
        rw [nf1] at cr2
        have cw1 := fun w => wait_rng rng hcob w
        have cw2 := fun w => wait_rng rng2 hcob w
        rw [nf2] at cw2
        obtain ⟨bo, hbo⟩ : ∃ z, z = boundP F 0 D U W L t' := ⟨_, rfl⟩
        rw [← hbo] at cb bf1 bf2 bf3
        obtain ⟨io, hio⟩ : ∃ z, z = idleP F 0 W t' := ⟨_, rfl⟩
        rw [← hio] at ci bf3
        obtain ⟨T, hT⟩ : ∃ z, z = t' - W := ⟨_, rfl⟩
        have eT : t' - W = T := hT.symm
        rw [eT] at bf1
        have c3 := fun w => new_any t' 0 w
        have CB := Lib.hid cb
        have CI := Lib.hid ci
        have CR1 := Lib.hid cr1
        have CR2 := Lib.hid cr2
        have CW1 := Lib.hid cw1
        have CW2 := Lib.hid cw2
        have C3 := Lib.hid c3
        have BF := Lib.hid (And.intro bf1 (And.intro bf2 bf3))
        have RNG := Lib.hid rng
        have HTX := Lib.hid (show (0 ≤ t' ∧ t' ≤ 4095 * ((i : Int) + 1)) ∧ t ≤ t' ∧ (F ≤ t' + B * U) from ⟨by omega, by omega, by omega⟩)
        have HD2 := Lib.hid hD
        have HF2 := Lib.hid hF
        clear cg cb ci cr1 cr2 cw1 cw2 c3 bf1 bf2 bf3 nf1 nf2 rng rng2 hbo hio hge ht' hm hrm hco hT hD hF ht hbu
        go_upto_region 14 with (first
          | (go_at_call 16; ((with_reducible refine (CG.out _).mono ?_); rintro e w' ⟨rfl, rfl⟩)))
        obtain ⟨Al, cl2, rfl, hlc⟩ := own_cells O5.out
        have HLC := Lib.hid hlc
        have hlb : (ls.length : Int) ≤ 101 := by have := HSL.out.1; omega
        have HNB := Lib.hid (show ls.length ≤ i from HSL.out.1)
        clear hlc
        go_wp2
        go_loopg [14, 48] ls.length (fun k sm sj wq => ∃ j : Nat, j ≤ ls.length ∧ k = ls.length - j ∧ sj = .int .i64 (j : Int) ∧ sm = .int .i64 (sumGt T (ls.take j)) ∧ Below w5.heap.size w5 wq)
        case atStart => exact ⟨0, by omega, by omega, rfl, rfl, Below.refl _ _⟩
        case round =>
          obtain ⟨j, hj, hkk, rfl, rfl, hbq⟩ := hrel
          have HK2 := Lib.hid hkk
          have HBQ := Lib.hid hbq
          have hsb := sumGt_bd T (ls.take j) (small_take HTK.out.sm j)
          have htl : (ls.take j).length ≤ j := List.length_take_le _ _
          have r9 := (Q5.out.2.1.keep hbq).rd
          have hlr := lt_of_block (Q5.out.2.1.keep hbq)
          clear hkk
          by_cases hjl : j < ls.length
          · obtain ⟨gg, rfl, hgg, d0, d1⟩ := HLC.out j hjl
            have hsx := HTK.out.sm _ (List.getElem_mem hjl)
            have c0 : wr.cell? ⟨gg, j * 2, none⟩ = some (.int .i64 (ls[j]).1) := (hbq.cell (p := ⟨gg, j * 2, none⟩) hgg).trans d0
            have c1 : wr.cell? ⟨gg, j * 2 + 1, none⟩ = some (.int .i64 (ls[j]).2) := (hbq.cell (p := ⟨gg, j * 2 + 1, none⟩) hgg).trans d1
            have s1 : sumGt T (ls.take (j + 1)) = sumGt T (ls.take j) + (if T < (ls[j]).1 then (ls[j]).2 else 0) := by
              rw [List.take_add_one, List.getElem?_eq_getElem hjl]; exact sumGt_snoc T _ _
            obtain ⟨xa, hxa⟩ : ∃ z, z = (ls[j]).1 := ⟨_, rfl⟩
            obtain ⟨xc, hxc⟩ : ∃ z, z = (ls[j]).2 := ⟨_, rfl⟩
            rw [← hxa] at c0 s1
            rw [← hxc] at c1 s1 hsx
            obtain ⟨sg, hsg⟩ : ∃ z, z = sumGt T (ls.take j) := ⟨_, rfl⟩
            rw [← hsg] at s1 hsb ⊢
            have hji2 : (j : Int) < (ls.length : Int) := by omega
            have hb1 : sg ≤ 100000 := by omega
            have S12 := Lib.hid s1
            have hjb2 : (j : Int) ≤ 101 := by omega
            clear hxa hxc hsg s1 hbq htl hjl d0 d1 hgg
            have d1 : decide (T < xa) = true ∨ decide (T < xa) = false := by cases decide (T < xa) <;> simp
            rcases d1 with d1 | d1
            all_goals
              go_wp2
              go_roundg (ls.length - (j + 1))
              case measure => have := HK2.out; omega
              case rel =>
                have s12 := S12.out
                simp only [decide_eq_true_eq, decide_eq_false_iff_not] at d1
                first | rw [if_pos d1] at s12 | rw [if_neg d1] at s12
                refine ⟨j + 1, by omega, by omega, by go_num, ?_, below_from HBQ.out ((Below.refl _ _).alloc (Nat.le_refl _) _)⟩
                rw [s12]; try simp
          · have hje : j = ls.length := by omega
            have hfull : ls.take j = ls := List.take_of_length_le (by omega)
            rw [hfull] at hsb ⊢
            have bf := BF.out
            obtain ⟨sg, hsg⟩ : ∃ z, z = sumGt T ls := ⟨_, rfl⟩
            rw [← hsg] at bf hsb ⊢
            have dd1 : decide (bo < sg) = false := by rw [decide_eq_false_iff_not]; omega
            have dd2 : decide (L < bo) = false := by rw [decide_eq_false_iff_not]; omega
            have C11 := Lib.hid (C5.out.below hbq)
            have F11 := Lib.hid (F5.out.trans (Fr.of_below hbq))
            have O11 := Lib.hid (own_below O5.out hbq)
            have Q11 := Lib.hid (keep3 Q5.out hbq)
            have k11 := Q11.out.1.rd
            have hjx : ¬ (j : Int) < (ls.length : Int) := by omega
            have hjb2 : (j : Int) ≤ 101 := by omega
            have BFI := Lib.hid (show io = true → bo = 0 ∧ sg = 0 ∧ roomP F 0 0 D U W B L t' = B ∧ waitP F 0 0 D U W B L t' co = 0 from fun h => ⟨(bf.2.2 h).1, by have := (bf.2.2 h).1; omega, (bf.2.2 h).2.1, (bf.2.2 h).2.2 hcob⟩)
            clear hsb htl hfull hsg hbq hje hj bf r9 hlr
            go_upto_region 21 with (fail)
            have cd := (show Blk wr.drew bc _ _ from Blk.drew C11.out).rd
            have pd := (Q11.out.2.2.drew).rd
            have rd := (Q11.out.2.1.drew).rd
            have ST := Lib.hid (show (∀ Wo, Below wr.heap.size wr Wo → (∀ i, Wo.cell? ⟨bc, i, none⟩ = (#[.int .i64 F, .int .i64 0, .int .i64 0, .int .i64 D] : Array Value)[i]?) ∧ (∀ i, Wo.cell? ⟨pb, i, none⟩ = (#[.int .i64 U, .int .i64 W, .int .i64 B, .int .i64 L] : Array Value)[i]?) ∧ (∀ i, Wo.cell? ⟨rb, i, none⟩ = (#[.int .i64 L, .int .i64 W, .int .i64 B, .int .i64 0, .int .i64 0, .int .i64 0, .int .i64 0, .int .i64 0, .bool false] : Array Value)[i]?)) from fun Wo hW => ⟨(show Blk Wo bc _ _ from C11.out.below hW).rd, (Q11.out.2.2.keep hW).rd, (Q11.out.2.1.keep hW).rd⟩)
            have BN := Lib.hid (show Below wr.heap.size wr wr.drew from below_draws (Below.refl _ _) 1)
            refine wp_region_held_drew (S := fun Wo => (∀ i, Wo.cell? ⟨bc, i, none⟩ = (#[.int .i64 F, .int .i64 0, .int .i64 0, .int .i64 D] : Array Value)[i]?) ∧ (∀ i, Wo.cell? ⟨pb, i, none⟩ = (#[.int .i64 U, .int .i64 W, .int .i64 B, .int .i64 L] : Array Value)[i]?) ∧ (∀ i, Wo.cell? ⟨rb, i, none⟩ = (#[.int .i64 L, .int .i64 W, .int .i64 B, .int .i64 0, .int .i64 0, .int .i64 0, .int .i64 0, .int .i64 0, .bool false] : Array Value)[i]?)) (by kernel_rfl) ⟨cd, pd, rd⟩ (fun hHeld => ?_)
            clear cd pd rd
            refine wpAnyH_take (i := 0) (oi := ?_) (v := ?_) ?_ ?_ ?_ ?_ ?_ ?_ ?_ ?_
            rotate_left 2
            · simp only [List.getElem?_toArray, List.getElem?_cons_succ, List.getElem?_cons_zero]; rfl
            · kernel_rfl
            · kernel_rfl
            · kernel_rfl
            · exact fun _ _ _ h => h
            · refine Or.inl ⟨by rfl, ?_⟩
              intro w' hSw
              (try dsimp only at hSw)
              go_simp
              all_goals (with_reducible rfl)
            · assumption
            try simp only [Act.put, List.setIfInBounds_toArray, List.set_cons_zero, List.set_cons_succ]
            refine wpAnyH_take (i := 1) (oi := ?_) (v := ?_) ?_ ?_ ?_ ?_ ?_ ?_ ?_ ?_
            rotate_left 2
            · simp only [List.getElem?_toArray, List.getElem?_cons_succ, List.getElem?_cons_zero]; rfl
            · kernel_rfl
            · kernel_rfl
            · kernel_rfl
            · exact fun _ _ _ h => h
            · refine Or.inl ⟨by rfl, ?_⟩
              intro w' hSw
              (try dsimp only at hSw)
              go_simp
              all_goals (with_reducible rfl)
            · assumption
            try simp only [Act.put, List.setIfInBounds_toArray, List.set_cons_zero, List.set_cons_succ]
            refine wpAnyH_take (i := 2) (oi := ?_) (v := ?_) ?_ ?_ ?_ ?_ ?_ ?_ ?_ ?_
            rotate_left 2
            · simp only [List.getElem?_toArray, List.getElem?_cons_succ, List.getElem?_cons_zero]; rfl
            · kernel_rfl
            · kernel_rfl
            · kernel_rfl
            · exact fun _ _ _ h => h
            · refine Or.inl ⟨by rfl, ?_⟩
              intro w' hSw
              (try dsimp only at hSw)
              go_simp
              all_goals (with_reducible rfl)
            · assumption
            try simp only [Act.put, List.setIfInBounds_toArray, List.set_cons_zero, List.set_cons_succ]
            refine wpAnyH_take (i := 3) (oi := ?_) (v := ?_) ?_ ?_ ?_ ?_ ?_ ?_ ?_ ?_
            rotate_left 2
            · simp only [List.getElem?_toArray, List.getElem?_cons_succ, List.getElem?_cons_zero]; rfl
            · kernel_rfl
            · kernel_rfl
            · kernel_rfl
            · exact fun _ _ _ h => h
            · refine Or.inl ⟨by rfl, ?_⟩
              intro w' hSw
              (try dsimp only at hSw)
              go_simp
              all_goals (with_reducible rfl)
            · assumption
            try simp only [Act.put, List.setIfInBounds_toArray, List.set_cons_zero, List.set_cons_succ]
            refine wpAnyH_ready (rs := [4]) (by kernel_rfl) (by simp) ?_
            refine AllReadyH.cons (o := ?_) ?_ ?_ ?_
            rotate_left 1
            · simp only [List.getElem?_toArray, List.getElem?_cons_succ, List.getElem?_cons_zero]; rfl
            rotate_left 1
            · exact AllReadyH.nil
            intro K hK
            go_simp
            ((with_reducible refine (CB.out _).mono ?_); rintro e w12 ⟨rfl, be⟩; have N4 := Lib.hid (G.below_on BN.out be); clear be)
            refine hK.out _ _ (ST.out _ N4.out) (fun hHeld => ?_)
            clear hK K
            try simp only [Act.put, List.setIfInBounds_toArray, List.set_cons_zero, List.set_cons_succ]
            refine wpAnyH_take (i := 5) (oi := ?_) (v := ?_) ?_ ?_ ?_ ?_ ?_ ?_ ?_ ?_
            rotate_left 2
            · simp only [List.getElem?_toArray, List.getElem?_cons_succ, List.getElem?_cons_zero]; rfl
            · kernel_rfl
            · kernel_rfl
            · kernel_rfl
            · exact fun _ _ _ h => h
            · refine Or.inl ⟨by rfl, ?_⟩
              intro w' hSw
              (try dsimp only at hSw)
              go_simp
              all_goals (with_reducible rfl)
            · assumption
            try simp only [Act.put, List.setIfInBounds_toArray, List.set_cons_zero, List.set_cons_succ]
            refine wpAnyH_take (i := 6) (oi := ?_) (v := ?_) ?_ ?_ ?_ ?_ ?_ ?_ ?_ ?_
            rotate_left 2
            · simp only [List.getElem?_toArray, List.getElem?_cons_succ, List.getElem?_cons_zero]; rfl
            · kernel_rfl
            · kernel_rfl
            · kernel_rfl
            · exact fun _ _ _ h => h
            · refine Or.inl ⟨by rfl, ?_⟩
              intro w' hSw
              (try dsimp only at hSw)
              go_simp
              all_goals (with_reducible rfl)
            · assumption
            try simp only [Act.put, List.setIfInBounds_toArray, List.set_cons_zero, List.set_cons_succ]
            refine wpAnyH_take (i := 7) (oi := ?_) (v := ?_) ?_ ?_ ?_ ?_ ?_ ?_ ?_ ?_
            rotate_left 2
            · simp only [List.getElem?_toArray, List.getElem?_cons_succ, List.getElem?_cons_zero]; rfl
            · kernel_rfl
            · kernel_rfl
            · kernel_rfl
            · exact fun _ _ _ h => h
            · refine Or.inl ⟨by rfl, ?_⟩
              intro w' hSw
              (try dsimp only at hSw)
              go_simp
              all_goals (with_reducible rfl)
            · assumption
            try simp only [Act.put, List.setIfInBounds_toArray, List.set_cons_zero, List.set_cons_succ]
            refine wpAnyH_take (i := 8) (oi := ?_) (v := ?_) ?_ ?_ ?_ ?_ ?_ ?_ ?_ ?_
            rotate_left 2
            · simp only [List.getElem?_toArray, List.getElem?_cons_succ, List.getElem?_cons_zero]; rfl
            · kernel_rfl
            · kernel_rfl
            · kernel_rfl
            · exact fun _ _ _ h => h
            · refine Or.inl ⟨by rfl, ?_⟩
              intro w' hSw
              (try dsimp only at hSw)
              go_simp
              all_goals (with_reducible rfl)
            · assumption
            try simp only [Act.put, List.setIfInBounds_toArray, List.set_cons_zero, List.set_cons_succ]
            refine wpAnyH_take (i := 9) (oi := ?_) (v := ?_) ?_ ?_ ?_ ?_ ?_ ?_ ?_ ?_
            rotate_left 2
            · simp only [List.getElem?_toArray, List.getElem?_cons_succ, List.getElem?_cons_zero]; rfl
            · kernel_rfl
            · kernel_rfl
            · kernel_rfl
            · exact fun _ _ _ h => h
            · refine Or.inl ⟨by rfl, ?_⟩
              intro w' hSw
              (try dsimp only at hSw)
              go_simp
              all_goals (with_reducible rfl)
            · assumption
            try simp only [Act.put, List.setIfInBounds_toArray, List.set_cons_zero, List.set_cons_succ]
            refine wpAnyH_take (i := 11) (oi := ?_) (v := ?_) ?_ ?_ ?_ ?_ ?_ ?_ ?_ ?_
            rotate_left 2
            · simp only [List.getElem?_toArray, List.getElem?_cons_succ, List.getElem?_cons_zero]; rfl
            · kernel_rfl
            · kernel_rfl
            · kernel_rfl
            · exact fun _ _ _ h => h
            · refine Or.inl ⟨by rfl, ?_⟩
              intro w' hSw
              (try dsimp only at hSw)
              go_simp
              all_goals (with_reducible rfl)
            · assumption
            try simp only [Act.put, List.setIfInBounds_toArray, List.set_cons_zero, List.set_cons_succ]
            refine wpAnyH_take (i := 12) (oi := ?_) (v := ?_) ?_ ?_ ?_ ?_ ?_ ?_ ?_ ?_
            rotate_left 2
            · simp only [List.getElem?_toArray, List.getElem?_cons_succ, List.getElem?_cons_zero]; rfl
            · kernel_rfl
            · kernel_rfl
            · kernel_rfl
            · exact fun _ _ _ h => h
            · refine Or.inl ⟨by rfl, ?_⟩
              intro w' hSw
              (try dsimp only at hSw)
              go_simp
              all_goals (with_reducible rfl)
            · assumption
            try simp only [Act.put, List.setIfInBounds_toArray, List.set_cons_zero, List.set_cons_succ]
            refine wpAnyH_ready (rs := [10]) (by kernel_rfl) (by simp) ?_
            refine AllReadyH.cons (o := ?_) ?_ ?_ ?_
            rotate_left 1
            · simp only [List.getElem?_toArray, List.getElem?_cons_succ, List.getElem?_cons_zero]; rfl
            rotate_left 1
            · exact AllReadyH.nil
            intro K hK
            go_simp
            ((with_reducible refine (CB.out _).mono ?_); rintro e w13 ⟨rfl, be⟩; have N10 := Lib.hid (G.below_on N4.out be); clear be)
            refine hK.out _ _ (ST.out _ N10.out) (fun hHeld => ?_)
            clear hK K
            try simp only [Act.put, List.setIfInBounds_toArray, List.set_cons_zero, List.set_cons_succ]
            refine wpAnyH_take (i := 13) (oi := ?_) (v := ?_) ?_ ?_ ?_ ?_ ?_ ?_ ?_ ?_
            rotate_left 2
            · simp only [List.getElem?_toArray, List.getElem?_cons_succ, List.getElem?_cons_zero]; rfl
            · kernel_rfl
            · kernel_rfl
            · kernel_rfl
            · exact fun _ _ _ h => h
            · refine Or.inl ⟨by rfl, ?_⟩
              intro w' hSw
              (try dsimp only at hSw)
              go_simp
              all_goals (with_reducible rfl)
            · assumption
            try simp only [Act.put, List.setIfInBounds_toArray, List.set_cons_zero, List.set_cons_succ]
            refine wpAnyH_take (i := 14) (oi := ?_) (v := ?_) ?_ ?_ ?_ ?_ ?_ ?_ ?_ ?_
            rotate_left 2
            · simp only [List.getElem?_toArray, List.getElem?_cons_succ, List.getElem?_cons_zero]; rfl
            · kernel_rfl
            · kernel_rfl
            · kernel_rfl
            · exact fun _ _ _ h => h
            · refine Or.inl ⟨by rfl, ?_⟩
              intro w' hSw
              (try dsimp only at hSw)
              go_simp
              all_goals (with_reducible rfl)
            · assumption
            try simp only [Act.put, List.setIfInBounds_toArray, List.set_cons_zero, List.set_cons_succ]
            refine wpAnyH_take (i := 15) (oi := ?_) (v := ?_) ?_ ?_ ?_ ?_ ?_ ?_ ?_ ?_
            rotate_left 2
            · simp only [List.getElem?_toArray, List.getElem?_cons_succ, List.getElem?_cons_zero]; rfl
            · kernel_rfl
            · kernel_rfl
            · kernel_rfl
            · exact fun _ _ _ h => h
            · refine Or.inl ⟨by rfl, ?_⟩
              intro w' hSw
              (try dsimp only at hSw)
              go_simp
              all_goals (with_reducible rfl)
            · assumption
            try simp only [Act.put, List.setIfInBounds_toArray, List.set_cons_zero, List.set_cons_succ]
            refine wpAnyH_take (i := 16) (oi := ?_) (v := ?_) ?_ ?_ ?_ ?_ ?_ ?_ ?_ ?_
            rotate_left 2
            · simp only [List.getElem?_toArray, List.getElem?_cons_succ, List.getElem?_cons_zero]; rfl
            · kernel_rfl
            · kernel_rfl
            · kernel_rfl
            · exact fun _ _ _ h => h
            · refine Or.inl ⟨by rfl, ?_⟩
              intro w' hSw
              (try dsimp only at hSw)
              go_simp
              all_goals (with_reducible rfl)
            · assumption
            try simp only [Act.put, List.setIfInBounds_toArray, List.set_cons_zero, List.set_cons_succ]
            refine wpAnyH_take (i := 17) (oi := ?_) (v := ?_) ?_ ?_ ?_ ?_ ?_ ?_ ?_ ?_
            rotate_left 2
            · simp only [List.getElem?_toArray, List.getElem?_cons_succ, List.getElem?_cons_zero]; rfl
            · kernel_rfl
            · kernel_rfl
            · kernel_rfl
            · exact fun _ _ _ h => h
            · refine Or.inl ⟨by rfl, ?_⟩
              intro w' hSw
              (try dsimp only at hSw)
              go_simp
              all_goals (with_reducible rfl)
            · assumption
            try simp only [Act.put, List.setIfInBounds_toArray, List.set_cons_zero, List.set_cons_succ]
            refine wpAnyH_take (i := 18) (oi := ?_) (v := ?_) ?_ ?_ ?_ ?_ ?_ ?_ ?_ ?_
            rotate_left 2
            · simp only [List.getElem?_toArray, List.getElem?_cons_succ, List.getElem?_cons_zero]; rfl
            · kernel_rfl
            · kernel_rfl
            · kernel_rfl
            · exact fun _ _ _ h => h
            · refine Or.inl ⟨by rfl, ?_⟩
              intro w' hSw
              (try dsimp only at hSw)
              go_simp
              all_goals (with_reducible rfl)
            · assumption
            try simp only [Act.put, List.setIfInBounds_toArray, List.set_cons_zero, List.set_cons_succ]
            refine wpAnyH_ready (rs := [19]) (by kernel_rfl) (by simp) ?_
            refine AllReadyH.cons (o := ?_) ?_ ?_ ?_
            rotate_left 1
            · simp only [List.getElem?_toArray, List.getElem?_cons_succ, List.getElem?_cons_zero]; rfl
            rotate_left 1
            · exact AllReadyH.nil
            intro K hK
            go_simp
            ((with_reducible refine (CI.out _).mono ?_); rintro e w14 ⟨rfl, be⟩; have N19 := Lib.hid (G.below_on N10.out be); clear be)
            refine hK.out _ _ (ST.out _ N19.out) (fun hHeld => ?_)
            clear hK K
            try simp only [Act.put, List.setIfInBounds_toArray, List.set_cons_zero, List.set_cons_succ]
            have hio : io = true ∨ io = false := by cases io <;> simp
            rcases hio with rfl | rfl
            focus
              obtain ⟨rfl, rfl, b3, b4⟩ := BFI.out rfl
              refine wpAnyH_take (i := 20) (oi := ?_) (v := ?_) ?_ ?_ ?_ ?_ ?_ ?_ ?_ ?_
              rotate_left 2
              · simp only [List.getElem?_toArray, List.getElem?_cons_succ, List.getElem?_cons_zero]; rfl
              · kernel_rfl
              · kernel_rfl
              · kernel_rfl
              · exact fun _ _ _ h => h
              · refine Or.inl ⟨by rfl, ?_⟩
                intro w' hSw
                (try dsimp only at hSw)
                go_simp
                all_goals (with_reducible rfl)
              · assumption
              try simp only [Act.put, List.setIfInBounds_toArray, List.set_cons_zero, List.set_cons_succ]
              refine wpAnyH_take (i := 21) (oi := ?_) (v := ?_) ?_ ?_ ?_ ?_ ?_ ?_ ?_ ?_
              rotate_left 2
              · simp only [List.getElem?_toArray, List.getElem?_cons_succ, List.getElem?_cons_zero]; rfl
              · kernel_rfl
              · kernel_rfl
              · kernel_rfl
              · exact fun _ _ _ h => h
              · refine Or.inl ⟨by rfl, ?_⟩
                intro w' hSw
                (try dsimp only at hSw)
                go_simp
                all_goals (with_reducible rfl)
              · assumption
              try simp only [Act.put, List.setIfInBounds_toArray, List.set_cons_zero, List.set_cons_succ]
              refine wpAnyH_take (i := 22) (oi := ?_) (v := ?_) ?_ ?_ ?_ ?_ ?_ ?_ ?_ ?_
              rotate_left 2
              · simp only [List.getElem?_toArray, List.getElem?_cons_succ, List.getElem?_cons_zero]; rfl
              · kernel_rfl
              · kernel_rfl
              · kernel_rfl
              · exact fun _ _ _ h => h
              · refine Or.inl ⟨by rfl, ?_⟩
                intro w' hSw
                (try dsimp only at hSw)
                go_simp
                all_goals (with_reducible rfl)
              · assumption
              try simp only [Act.put, List.setIfInBounds_toArray, List.set_cons_zero, List.set_cons_succ]
              refine wpAnyH_take (i := 23) (oi := ?_) (v := ?_) ?_ ?_ ?_ ?_ ?_ ?_ ?_ ?_
              rotate_left 2
              · simp only [List.getElem?_toArray, List.getElem?_cons_succ, List.getElem?_cons_zero]; rfl
              · kernel_rfl
              · kernel_rfl
              · kernel_rfl
              · exact fun _ _ _ h => h
              · refine Or.inl ⟨by rfl, ?_⟩
                intro w' hSw
                (try dsimp only at hSw)
                go_simp
                all_goals (with_reducible rfl)
              · assumption
              try simp only [Act.put, List.setIfInBounds_toArray, List.set_cons_zero, List.set_cons_succ]
              refine wpAnyH_take (i := 24) (oi := ?_) (v := ?_) ?_ ?_ ?_ ?_ ?_ ?_ ?_ ?_
              rotate_left 2
              · simp only [List.getElem?_toArray, List.getElem?_cons_succ, List.getElem?_cons_zero]; rfl
              · kernel_rfl
              · kernel_rfl
              · kernel_rfl
              · exact fun _ _ _ h => h
              · refine Or.inl ⟨by rfl, ?_⟩
                intro w' hSw
                (try dsimp only at hSw)
                go_simp
                all_goals (with_reducible rfl)
              · assumption
              try simp only [Act.put, List.setIfInBounds_toArray, List.set_cons_zero, List.set_cons_succ]
              refine wpAnyH_take (i := 25) (oi := ?_) (v := ?_) ?_ ?_ ?_ ?_ ?_ ?_ ?_ ?_
              rotate_left 2
              · simp only [List.getElem?_toArray, List.getElem?_cons_succ, List.getElem?_cons_zero]; rfl
              · kernel_rfl
              · kernel_rfl
              · kernel_rfl
              · exact fun _ _ _ h => h
              · refine Or.inl ⟨by rfl, ?_⟩
                intro w' hSw
                (try dsimp only at hSw)
                go_simp
                all_goals (with_reducible rfl)
              · assumption
              try simp only [Act.put, List.setIfInBounds_toArray, List.set_cons_zero, List.set_cons_succ]
              refine wpAnyH_take (i := 26) (oi := ?_) (v := ?_) ?_ ?_ ?_ ?_ ?_ ?_ ?_ ?_
              rotate_left 2
              · simp only [List.getElem?_toArray, List.getElem?_cons_succ, List.getElem?_cons_zero]; rfl
              · kernel_rfl
              · kernel_rfl
              · kernel_rfl
              · exact fun _ _ _ h => h
              · refine Or.inl ⟨by rfl, ?_⟩
                intro w' hSw
                (try dsimp only at hSw)
                go_simp
                all_goals (with_reducible rfl)
              · assumption
              try simp only [Act.put, List.setIfInBounds_toArray, List.set_cons_zero, List.set_cons_succ]
              refine wpAnyH_ready (rs := [27]) (by kernel_rfl) (by simp) ?_
              refine AllReadyH.cons (o := ?_) ?_ ?_ ?_
              rotate_left 1
              · simp only [List.getElem?_toArray, List.getElem?_cons_succ, List.getElem?_cons_zero]; rfl
              rotate_left 1
              · exact AllReadyH.nil
              intro K hK
              go_simp
              ((with_reducible refine (CB.out _).mono ?_); rintro e w15 ⟨rfl, be⟩; have N27 := Lib.hid (G.below_on N19.out be); clear be)
              refine hK.out _ _ (ST.out _ N27.out) (fun hHeld => ?_)
              clear hK K
              try simp only [Act.put, List.setIfInBounds_toArray, List.set_cons_zero, List.set_cons_succ]
              refine wpAnyH_take (i := 28) (oi := ?_) (v := ?_) ?_ ?_ ?_ ?_ ?_ ?_ ?_ ?_
              rotate_left 2
              · simp only [List.getElem?_toArray, List.getElem?_cons_succ, List.getElem?_cons_zero]; rfl
              · kernel_rfl
              · kernel_rfl
              · kernel_rfl
              · exact fun _ _ _ h => h
              · refine Or.inl ⟨by rfl, ?_⟩
                intro w' hSw
                (try dsimp only at hSw)
                go_simp
                all_goals (with_reducible rfl)
              · assumption
              try simp only [Act.put, List.setIfInBounds_toArray, List.set_cons_zero, List.set_cons_succ]
              refine wpAnyH_take (i := 29) (oi := ?_) (v := ?_) ?_ ?_ ?_ ?_ ?_ ?_ ?_ ?_
              rotate_left 2
              · simp only [List.getElem?_toArray, List.getElem?_cons_succ, List.getElem?_cons_zero]; rfl
              · kernel_rfl
              · kernel_rfl
              · kernel_rfl
              · exact fun _ _ _ h => h
              · refine Or.inl ⟨by rfl, ?_⟩
                intro w' hSw
                (try dsimp only at hSw)
                go_simp
                all_goals (with_reducible rfl)
              · assumption
              try simp only [Act.put, List.setIfInBounds_toArray, List.set_cons_zero, List.set_cons_succ]
              refine wpAnyH_take (i := 30) (oi := ?_) (v := ?_) ?_ ?_ ?_ ?_ ?_ ?_ ?_ ?_
              rotate_left 2
              · simp only [List.getElem?_toArray, List.getElem?_cons_succ, List.getElem?_cons_zero]; rfl
              · kernel_rfl
              · kernel_rfl
              · kernel_rfl
              · exact fun _ _ _ h => h
              · refine Or.inl ⟨by rfl, ?_⟩
                intro w' hSw
                (try dsimp only at hSw)
                go_simp
                all_goals (with_reducible rfl)
              · assumption
              try simp only [Act.put, List.setIfInBounds_toArray, List.set_cons_zero, List.set_cons_succ]
              refine wpAnyH_take (i := 31) (oi := ?_) (v := ?_) ?_ ?_ ?_ ?_ ?_ ?_ ?_ ?_
              rotate_left 2
              · simp only [List.getElem?_toArray, List.getElem?_cons_succ, List.getElem?_cons_zero]; rfl
              · kernel_rfl
              · kernel_rfl
              · kernel_rfl
              · exact fun _ _ _ h => h
              · refine Or.inl ⟨by rfl, ?_⟩
                intro w' hSw
                (try dsimp only at hSw)
                go_simp
                all_goals (with_reducible rfl)
              · assumption
              try simp only [Act.put, List.setIfInBounds_toArray, List.set_cons_zero, List.set_cons_succ]
              refine wpAnyH_done (by kernel_rfl) ?_ _
              clear hHeld
              have cr1 := CR1.out
              have cw1 := CW1.out
              obtain ⟨z1, hz1⟩ : ∃ z, z = roomP F 0 0 D U W B L t' := ⟨_, rfl⟩
              obtain ⟨z2, hz2⟩ : ∃ z, z = waitP F 0 0 D U W B L t' co := ⟨_, rfl⟩
              rw [← hz1] at cr1 b3
              rw [← hz2] at cw1 b4
              have dz1 : (z1 == B) = true := by simpa using b3
              have dz2 : (z1 != B) = false := by simpa using b3
              have dz3 : (z2 == 0) = true := by simpa using b4
              have dz4 : (z2 != 0) = false := by simpa using b4
              have cr1 := Lib.hid cr1
              have cw1 := Lib.hid cw1
              clear hz1 hz2
              clear b3 b4
              have k15 := (Q11.out.1.keep N27.out).rd
              have c15 := (show Blk w15 bc _ _ from C11.out.below N27.out).rd
              have r15 := (Q11.out.2.1.keep N27.out).rd
              have p15 := (Q11.out.2.2.keep N27.out).rd
              go_upto_region 25 with (first
                | (go_at_call 24; ((with_reducible refine (CI.out _).mono ?_); rintro e w16 ⟨rfl, be⟩; have N16 := Lib.hid (G.below_on N27.out be); clear be)))
              clear k15 c15 r15 p15
              go_upto_region 26 with (first
                | (go_at_call 15; ((with_reducible refine (C3.out _).mono ?_); rintro e w17 ⟨rfl, be⟩; have N17 := Lib.hid (G.below_on N16.out be); clear be)))
              obtain ⟨w18, e18, z18, b18, s18⟩ := box_new w17 #[.int .i64 t', .int .i64 t', .int .i64 0, .int .i64 0] 36
              rw [e18]
              have N18 := Lib.hid (below_from N17.out b18)
              generalize hzb : w17.heap.size = zb at z18 ⊢
              have Z18 := Lib.hid z18
              have ZT := Lib.hid (show (∀ Wo, Below w18.heap.size w18 Wo → (∀ i, Wo.cell? ⟨bc, i, none⟩ = (#[.int .i64 F, .int .i64 0, .int .i64 0, .int .i64 D] : Array Value)[i]?) ∧ (∀ i, Wo.cell? ⟨pb, i, none⟩ = (#[.int .i64 U, .int .i64 W, .int .i64 B, .int .i64 L] : Array Value)[i]?) ∧ (∀ i, Wo.cell? ⟨zb, i, none⟩ = (#[.int .i64 t', .int .i64 t', .int .i64 0, .int .i64 0] : Array Value)[i]?)) from fun Wo hW => ⟨(show Blk Wo bc _ _ from C11.out.below (below_from N18.out hW)).rd, (Q11.out.2.2.keep (below_from N18.out hW)).rd, (Z18.out.keep hW).rd⟩)
              have BN18 := Lib.hid (show Below w18.heap.size w18 w18.drew from below_draws (Below.refl _ _) 1)
              clear e18 b18 s18 z18 hzb
              refine wp_region_held_drew (S := fun Wo => (∀ i, Wo.cell? ⟨bc, i, none⟩ = (#[.int .i64 F, .int .i64 0, .int .i64 0, .int .i64 D] : Array Value)[i]?) ∧ (∀ i, Wo.cell? ⟨pb, i, none⟩ = (#[.int .i64 U, .int .i64 W, .int .i64 B, .int .i64 L] : Array Value)[i]?) ∧ (∀ i, Wo.cell? ⟨zb, i, none⟩ = (#[.int .i64 t', .int .i64 t', .int .i64 0, .int .i64 0] : Array Value)[i]?)) (by kernel_rfl) (ZT.out _ BN18.out) (fun hHeld => ?_)
              refine wpAnyH_take (i := 0) (oi := ?_) (v := ?_) ?_ ?_ ?_ ?_ ?_ ?_ ?_ ?_
              rotate_left 2
              · simp only [List.getElem?_toArray, List.getElem?_cons_succ, List.getElem?_cons_zero]; rfl
              · kernel_rfl
              · kernel_rfl
              · kernel_rfl
              · exact fun _ _ _ h => h
              · refine Or.inl ⟨by rfl, ?_⟩
                intro w' hSw
                (try dsimp only at hSw)
                go_simp
                all_goals (with_reducible rfl)
              · assumption
              try simp only [Act.put, List.setIfInBounds_toArray, List.set_cons_zero, List.set_cons_succ]
              refine wpAnyH_take (i := 1) (oi := ?_) (v := ?_) ?_ ?_ ?_ ?_ ?_ ?_ ?_ ?_
              rotate_left 2
              · simp only [List.getElem?_toArray, List.getElem?_cons_succ, List.getElem?_cons_zero]; rfl
              · kernel_rfl
              · kernel_rfl
              · kernel_rfl
              · exact fun _ _ _ h => h
              · refine Or.inl ⟨by rfl, ?_⟩
                intro w' hSw
                (try dsimp only at hSw)
                go_simp
                all_goals (with_reducible rfl)
              · assumption
              try simp only [Act.put, List.setIfInBounds_toArray, List.set_cons_zero, List.set_cons_succ]
              refine wpAnyH_take (i := 2) (oi := ?_) (v := ?_) ?_ ?_ ?_ ?_ ?_ ?_ ?_ ?_
              rotate_left 2
              · simp only [List.getElem?_toArray, List.getElem?_cons_succ, List.getElem?_cons_zero]; rfl
              · kernel_rfl
              · kernel_rfl
              · kernel_rfl
              · exact fun _ _ _ h => h
              · refine Or.inl ⟨by rfl, ?_⟩
                intro w' hSw
                (try dsimp only at hSw)
                go_simp
                all_goals (with_reducible rfl)
              · assumption
              try simp only [Act.put, List.setIfInBounds_toArray, List.set_cons_zero, List.set_cons_succ]
              refine wpAnyH_take (i := 4) (oi := ?_) (v := ?_) ?_ ?_ ?_ ?_ ?_ ?_ ?_ ?_
              rotate_left 2
              · simp only [List.getElem?_toArray, List.getElem?_cons_succ, List.getElem?_cons_zero]; rfl
              · kernel_rfl
              · kernel_rfl
              · kernel_rfl
              · exact fun _ _ _ h => h
              · refine Or.inl ⟨by rfl, ?_⟩
                intro w' hSw
                (try dsimp only at hSw)
                go_simp
                all_goals (with_reducible rfl)
              · assumption
              try simp only [Act.put, List.setIfInBounds_toArray, List.set_cons_zero, List.set_cons_succ]
              refine wpAnyH_take (i := 5) (oi := ?_) (v := ?_) ?_ ?_ ?_ ?_ ?_ ?_ ?_ ?_
              rotate_left 2
              · simp only [List.getElem?_toArray, List.getElem?_cons_succ, List.getElem?_cons_zero]; rfl
              · kernel_rfl
              · kernel_rfl
              · kernel_rfl
              · exact fun _ _ _ h => h
              · refine Or.inl ⟨by rfl, ?_⟩
                intro w' hSw
                (try dsimp only at hSw)
                go_simp
                all_goals (with_reducible rfl)
              · assumption
              try simp only [Act.put, List.setIfInBounds_toArray, List.set_cons_zero, List.set_cons_succ]
              refine wpAnyH_take (i := 6) (oi := ?_) (v := ?_) ?_ ?_ ?_ ?_ ?_ ?_ ?_ ?_
              rotate_left 2
              · simp only [List.getElem?_toArray, List.getElem?_cons_succ, List.getElem?_cons_zero]; rfl
              · kernel_rfl
              · kernel_rfl
              · kernel_rfl
              · exact fun _ _ _ h => h
              · refine Or.inl ⟨by rfl, ?_⟩
                intro w' hSw
                (try dsimp only at hSw)
                go_simp
                all_goals (with_reducible rfl)
              · assumption
              try simp only [Act.put, List.setIfInBounds_toArray, List.set_cons_zero, List.set_cons_succ]
              refine wpAnyH_ready (rs := [3]) (by kernel_rfl) (by simp) ?_
              refine AllReadyH.cons (o := ?_) ?_ ?_ ?_
              rotate_left 1
              · simp only [List.getElem?_toArray, List.getElem?_cons_succ, List.getElem?_cons_zero]; rfl
              rotate_left 1
              · exact AllReadyH.nil
              intro K hK
              go_simp
              ((with_reducible refine (cr1.out _).mono ?_); rintro e w21 ⟨rfl, be⟩; have M3 := Lib.hid (G.below_on BN18.out be); clear be)
              refine hK.out _ _ (ZT.out _ M3.out) (fun hHeld => ?_)
              clear hK K
              try simp only [Act.put, List.setIfInBounds_toArray, List.set_cons_zero, List.set_cons_succ]
              refine wpAnyH_ready (rs := [7]) (by kernel_rfl) (by simp) ?_
              refine AllReadyH.cons (o := ?_) ?_ ?_ ?_
              rotate_left 1
              · simp only [List.getElem?_toArray, List.getElem?_cons_succ, List.getElem?_cons_zero]; rfl
              rotate_left 1
              · exact AllReadyH.nil
              intro K hK
              go_simp
              ((with_reducible refine (CR2.out _).mono ?_); rintro e w22 ⟨rfl, be⟩; have M7 := Lib.hid (G.below_on M3.out be); clear be)
              refine hK.out _ _ (ZT.out _ M7.out) (fun hHeld => ?_)
              clear hK K
              try simp only [Act.put, List.setIfInBounds_toArray, List.set_cons_zero, List.set_cons_succ]
              refine wpAnyH_take (i := 8) (oi := ?_) (v := ?_) ?_ ?_ ?_ ?_ ?_ ?_ ?_ ?_
              rotate_left 2
              · simp only [List.getElem?_toArray, List.getElem?_cons_succ, List.getElem?_cons_zero]; rfl
              · kernel_rfl
              · kernel_rfl
              · kernel_rfl
              · exact fun _ _ _ h => h
              · refine Or.inl ⟨by rfl, ?_⟩
                intro w' hSw
                (try dsimp only at hSw)
                go_simp
                all_goals (with_reducible rfl)
              · assumption
              try simp only [Act.put, List.setIfInBounds_toArray, List.set_cons_zero, List.set_cons_succ]
              refine wpAnyH_take (i := 9) (oi := ?_) (v := ?_) ?_ ?_ ?_ ?_ ?_ ?_ ?_ ?_
              rotate_left 2
              · simp only [List.getElem?_toArray, List.getElem?_cons_succ, List.getElem?_cons_zero]; rfl
              · kernel_rfl
              · kernel_rfl
              · kernel_rfl
              · exact fun _ _ _ h => h
              · refine Or.inl ⟨by rfl, ?_⟩
                intro w' hSw
                (try dsimp only at hSw)
                go_simp
                all_goals (with_reducible rfl)
              · assumption
              try simp only [Act.put, List.setIfInBounds_toArray, List.set_cons_zero, List.set_cons_succ]
              refine wpAnyH_take (i := 10) (oi := ?_) (v := ?_) ?_ ?_ ?_ ?_ ?_ ?_ ?_ ?_
              rotate_left 2
              · simp only [List.getElem?_toArray, List.getElem?_cons_succ, List.getElem?_cons_zero]; rfl
              · kernel_rfl
              · kernel_rfl
              · kernel_rfl
              · exact fun _ _ _ h => h
              · refine Or.inl ⟨by rfl, ?_⟩
                intro w' hSw
                (try dsimp only at hSw)
                go_simp
                all_goals (with_reducible rfl)
              · assumption
              try simp only [Act.put, List.setIfInBounds_toArray, List.set_cons_zero, List.set_cons_succ]
              refine wpAnyH_take (i := 11) (oi := ?_) (v := ?_) ?_ ?_ ?_ ?_ ?_ ?_ ?_ ?_
              rotate_left 2
              · simp only [List.getElem?_toArray, List.getElem?_cons_succ, List.getElem?_cons_zero]; rfl
              · kernel_rfl
              · kernel_rfl
              · kernel_rfl
              · exact fun _ _ _ h => h
              · refine Or.inl ⟨by rfl, ?_⟩
                intro w' hSw
                (try dsimp only at hSw)
                go_simp
                all_goals (with_reducible rfl)
              · assumption
              try simp only [Act.put, List.setIfInBounds_toArray, List.set_cons_zero, List.set_cons_succ]
              refine wpAnyH_take (i := 12) (oi := ?_) (v := ?_) ?_ ?_ ?_ ?_ ?_ ?_ ?_ ?_
              rotate_left 2
              · simp only [List.getElem?_toArray, List.getElem?_cons_succ, List.getElem?_cons_zero]; rfl
              · kernel_rfl
              · kernel_rfl
              · kernel_rfl
              · exact fun _ _ _ h => h
              · refine Or.inl ⟨by rfl, ?_⟩
                intro w' hSw
                (try dsimp only at hSw)
                go_simp
                all_goals (with_reducible rfl)
              · assumption
              try simp only [Act.put, List.setIfInBounds_toArray, List.set_cons_zero, List.set_cons_succ]
              refine wpAnyH_take (i := 13) (oi := ?_) (v := ?_) ?_ ?_ ?_ ?_ ?_ ?_ ?_ ?_
              rotate_left 2
              · simp only [List.getElem?_toArray, List.getElem?_cons_succ, List.getElem?_cons_zero]; rfl
              · kernel_rfl
              · kernel_rfl
              · kernel_rfl
              · exact fun _ _ _ h => h
              · refine Or.inl ⟨by rfl, ?_⟩
                intro w' hSw
                (try dsimp only at hSw)
                go_simp
                all_goals (with_reducible rfl)
              · assumption
              try simp only [Act.put, List.setIfInBounds_toArray, List.set_cons_zero, List.set_cons_succ]
              refine wpAnyH_take (i := 15) (oi := ?_) (v := ?_) ?_ ?_ ?_ ?_ ?_ ?_ ?_ ?_
              rotate_left 2
              · simp only [List.getElem?_toArray, List.getElem?_cons_succ, List.getElem?_cons_zero]; rfl
              · kernel_rfl
              · kernel_rfl
              · kernel_rfl
              · exact fun _ _ _ h => h
              · refine Or.inl ⟨by rfl, ?_⟩
                intro w' hSw
                (try dsimp only at hSw)
                go_simp
                all_goals (with_reducible rfl)
              · assumption
              try simp only [Act.put, List.setIfInBounds_toArray, List.set_cons_zero, List.set_cons_succ]
              refine wpAnyH_take (i := 16) (oi := ?_) (v := ?_) ?_ ?_ ?_ ?_ ?_ ?_ ?_ ?_
              rotate_left 2
              · simp only [List.getElem?_toArray, List.getElem?_cons_succ, List.getElem?_cons_zero]; rfl
              · kernel_rfl
              · kernel_rfl
              · kernel_rfl
              · exact fun _ _ _ h => h
              · refine Or.inl ⟨by rfl, ?_⟩
                intro w' hSw
                (try dsimp only at hSw)
                go_simp
                all_goals (with_reducible rfl)
              · assumption
              try simp only [Act.put, List.setIfInBounds_toArray, List.set_cons_zero, List.set_cons_succ]
              refine wpAnyH_take (i := 17) (oi := ?_) (v := ?_) ?_ ?_ ?_ ?_ ?_ ?_ ?_ ?_
              rotate_left 2
              · simp only [List.getElem?_toArray, List.getElem?_cons_succ, List.getElem?_cons_zero]; rfl
              · kernel_rfl
              · kernel_rfl
              · kernel_rfl
              · exact fun _ _ _ h => h
              · refine Or.inl ⟨by rfl, ?_⟩
                intro w' hSw
                (try dsimp only at hSw)
                go_simp
                all_goals (with_reducible rfl)
              · assumption
              try simp only [Act.put, List.setIfInBounds_toArray, List.set_cons_zero, List.set_cons_succ]
              refine wpAnyH_take (i := 18) (oi := ?_) (v := ?_) ?_ ?_ ?_ ?_ ?_ ?_ ?_ ?_
              rotate_left 2
              · simp only [List.getElem?_toArray, List.getElem?_cons_succ, List.getElem?_cons_zero]; rfl
              · kernel_rfl
              · kernel_rfl
              · kernel_rfl
              · exact fun _ _ _ h => h
              · refine Or.inl ⟨by rfl, ?_⟩
                intro w' hSw
                (try dsimp only at hSw)
                go_simp
                all_goals (with_reducible rfl)
              · assumption
              try simp only [Act.put, List.setIfInBounds_toArray, List.set_cons_zero, List.set_cons_succ]
              refine wpAnyH_ready (rs := [14]) (by kernel_rfl) (by simp) ?_
              refine AllReadyH.cons (o := ?_) ?_ ?_ ?_
              rotate_left 1
              · simp only [List.getElem?_toArray, List.getElem?_cons_succ, List.getElem?_cons_zero]; rfl
              rotate_left 1
              · exact AllReadyH.nil
              intro K hK
              go_simp
              ((with_reducible refine (cw1.out _).mono ?_); rintro e w23 ⟨rfl, be⟩; have M14 := Lib.hid (G.below_on M7.out be); clear be)
              refine hK.out _ _ (ZT.out _ M14.out) (fun hHeld => ?_)
              clear hK K
              try simp only [Act.put, List.setIfInBounds_toArray, List.set_cons_zero, List.set_cons_succ]
              refine wpAnyH_ready (rs := [19]) (by kernel_rfl) (by simp) ?_
              refine AllReadyH.cons (o := ?_) ?_ ?_ ?_
              rotate_left 1
              · simp only [List.getElem?_toArray, List.getElem?_cons_succ, List.getElem?_cons_zero]; rfl
              rotate_left 1
              · exact AllReadyH.nil
              intro K hK
              go_simp
              ((with_reducible refine (CW2.out _).mono ?_); rintro e w28 ⟨rfl, be⟩; have M19 := Lib.hid (G.below_on M14.out be); clear be)
              refine hK.out _ _ (ZT.out _ M19.out) (fun hHeld => ?_)
              clear hK K
              try simp only [Act.put, List.setIfInBounds_toArray, List.set_cons_zero, List.set_cons_succ]
              refine wpAnyH_take (i := 20) (oi := ?_) (v := ?_) ?_ ?_ ?_ ?_ ?_ ?_ ?_ ?_
              rotate_left 2
              · simp only [List.getElem?_toArray, List.getElem?_cons_succ, List.getElem?_cons_zero]; rfl
              · kernel_rfl
              · kernel_rfl
              · kernel_rfl
              · exact fun _ _ _ h => h
              · refine Or.inl ⟨by rfl, ?_⟩
                intro w' hSw
                (try dsimp only at hSw)
                go_simp
                all_goals (with_reducible rfl)
              · assumption
              try simp only [Act.put, List.setIfInBounds_toArray, List.set_cons_zero, List.set_cons_succ]
              refine wpAnyH_take (i := 21) (oi := ?_) (v := ?_) ?_ ?_ ?_ ?_ ?_ ?_ ?_ ?_
              rotate_left 2
              · simp only [List.getElem?_toArray, List.getElem?_cons_succ, List.getElem?_cons_zero]; rfl
              · kernel_rfl
              · kernel_rfl
              · kernel_rfl
              · exact fun _ _ _ h => h
              · refine Or.inl ⟨by rfl, ?_⟩
                intro w' hSw
                (try dsimp only at hSw)
                go_simp
                all_goals (with_reducible rfl)
              · assumption
              try simp only [Act.put, List.setIfInBounds_toArray, List.set_cons_zero, List.set_cons_succ]
              refine wpAnyH_done (by kernel_rfl) ?_ _
              clear hHeld
              have NB := Lib.hid (below_from N18.out M19.out)
              clear N27 N16 N17 N18 Z18 ZT BN18 M3 M7 M14 M19 cr1 cw1
              go_upto_region 28 with (fail)
            rotate_left
            focus
              refine wpAnyH_take (i := 20) (oi := ?_) (v := ?_) ?_ ?_ ?_ ?_ ?_ ?_ ?_ ?_
              rotate_left 2
              · simp only [List.getElem?_toArray, List.getElem?_cons_succ, List.getElem?_cons_zero]; rfl
              · kernel_rfl
              · kernel_rfl
              · kernel_rfl
              · exact fun _ _ _ h => h
              · refine Or.inl ⟨by rfl, ?_⟩
                intro w' hSw
                (try dsimp only at hSw)
                go_simp
                all_goals (with_reducible rfl)
              · assumption
              try simp only [Act.put, List.setIfInBounds_toArray, List.set_cons_zero, List.set_cons_succ]
              refine wpAnyH_take (i := 21) (oi := ?_) (v := undef) ?_ ?_ ?_ ?_ ?_ ?_ ?_ ?_
              rotate_left 1
              · simp only [List.getElem?_toArray, List.getElem?_cons_succ, List.getElem?_cons_zero]; rfl
              · kernel_rfl
              · kernel_rfl
              · kernel_rfl
              · exact fun _ _ _ h => h
              · exact Or.inr ⟨by kernel_rfl, rfl⟩
              · assumption
              try simp only [Act.put, List.setIfInBounds_toArray, List.set_cons_zero, List.set_cons_succ]
              refine wpAnyH_take (i := 22) (oi := ?_) (v := undef) ?_ ?_ ?_ ?_ ?_ ?_ ?_ ?_
              rotate_left 1
              · simp only [List.getElem?_toArray, List.getElem?_cons_succ, List.getElem?_cons_zero]; rfl
              · kernel_rfl
              · kernel_rfl
              · kernel_rfl
              · exact fun _ _ _ h => h
              · exact Or.inr ⟨by kernel_rfl, rfl⟩
              · assumption
              try simp only [Act.put, List.setIfInBounds_toArray, List.set_cons_zero, List.set_cons_succ]
              refine wpAnyH_take (i := 23) (oi := ?_) (v := undef) ?_ ?_ ?_ ?_ ?_ ?_ ?_ ?_
              rotate_left 1
              · simp only [List.getElem?_toArray, List.getElem?_cons_succ, List.getElem?_cons_zero]; rfl
              · kernel_rfl
              · kernel_rfl
              · kernel_rfl
              · exact fun _ _ _ h => h
              · exact Or.inr ⟨by kernel_rfl, rfl⟩
              · assumption
              try simp only [Act.put, List.setIfInBounds_toArray, List.set_cons_zero, List.set_cons_succ]
              refine wpAnyH_take (i := 24) (oi := ?_) (v := undef) ?_ ?_ ?_ ?_ ?_ ?_ ?_ ?_
              rotate_left 1
              · simp only [List.getElem?_toArray, List.getElem?_cons_succ, List.getElem?_cons_zero]; rfl
              · kernel_rfl
              · kernel_rfl
              · kernel_rfl
              · exact fun _ _ _ h => h
              · exact Or.inr ⟨by kernel_rfl, rfl⟩
              · assumption
              try simp only [Act.put, List.setIfInBounds_toArray, List.set_cons_zero, List.set_cons_succ]
              refine wpAnyH_take (i := 25) (oi := ?_) (v := undef) ?_ ?_ ?_ ?_ ?_ ?_ ?_ ?_
              rotate_left 1
              · simp only [List.getElem?_toArray, List.getElem?_cons_succ, List.getElem?_cons_zero]; rfl
              · kernel_rfl
              · kernel_rfl
              · kernel_rfl
              · exact fun _ _ _ h => h
              · exact Or.inr ⟨by kernel_rfl, rfl⟩
              · assumption
              try simp only [Act.put, List.setIfInBounds_toArray, List.set_cons_zero, List.set_cons_succ]
              refine wpAnyH_take (i := 26) (oi := ?_) (v := undef) ?_ ?_ ?_ ?_ ?_ ?_ ?_ ?_
              rotate_left 1
              · simp only [List.getElem?_toArray, List.getElem?_cons_succ, List.getElem?_cons_zero]; rfl
              · kernel_rfl
              · kernel_rfl
              · kernel_rfl
              · exact fun _ _ _ h => h
              · exact Or.inr ⟨by kernel_rfl, rfl⟩
              · assumption
              try simp only [Act.put, List.setIfInBounds_toArray, List.set_cons_zero, List.set_cons_succ]
              refine wpAnyH_take (i := 27) (oi := ?_) (v := undef) ?_ ?_ ?_ ?_ ?_ ?_ ?_ ?_
              rotate_left 1
              · simp only [List.getElem?_toArray, List.getElem?_cons_succ, List.getElem?_cons_zero]; rfl
              · kernel_rfl
              · kernel_rfl
              · kernel_rfl
              · exact fun _ _ _ h => h
              · exact Or.inr ⟨by kernel_rfl, rfl⟩
              · assumption
              try simp only [Act.put, List.setIfInBounds_toArray, List.set_cons_zero, List.set_cons_succ]
              refine wpAnyH_take (i := 28) (oi := ?_) (v := undef) ?_ ?_ ?_ ?_ ?_ ?_ ?_ ?_
              rotate_left 1
              · simp only [List.getElem?_toArray, List.getElem?_cons_succ, List.getElem?_cons_zero]; rfl
              · kernel_rfl
              · kernel_rfl
              · kernel_rfl
              · exact fun _ _ _ h => h
              · exact Or.inr ⟨by kernel_rfl, rfl⟩
              · assumption
              try simp only [Act.put, List.setIfInBounds_toArray, List.set_cons_zero, List.set_cons_succ]
              refine wpAnyH_take (i := 29) (oi := ?_) (v := undef) ?_ ?_ ?_ ?_ ?_ ?_ ?_ ?_
              rotate_left 1
              · simp only [List.getElem?_toArray, List.getElem?_cons_succ, List.getElem?_cons_zero]; rfl
              · kernel_rfl
              · kernel_rfl
              · kernel_rfl
              · exact fun _ _ _ h => h
              · exact Or.inr ⟨by kernel_rfl, rfl⟩
              · assumption
              try simp only [Act.put, List.setIfInBounds_toArray, List.set_cons_zero, List.set_cons_succ]
              refine wpAnyH_take (i := 30) (oi := ?_) (v := ?_) ?_ ?_ ?_ ?_ ?_ ?_ ?_ ?_
              rotate_left 2
              · simp only [List.getElem?_toArray, List.getElem?_cons_succ, List.getElem?_cons_zero]; rfl
              · kernel_rfl
              · kernel_rfl
              · kernel_rfl
              · exact fun _ _ _ h => h
              · refine Or.inl ⟨by rfl, ?_⟩
                intro w' hSw
                (try dsimp only at hSw)
                go_simp
                all_goals (with_reducible rfl)
              · assumption
              try simp only [Act.put, List.setIfInBounds_toArray, List.set_cons_zero, List.set_cons_succ]
              refine wpAnyH_take (i := 31) (oi := ?_) (v := ?_) ?_ ?_ ?_ ?_ ?_ ?_ ?_ ?_
              rotate_left 2
              · simp only [List.getElem?_toArray, List.getElem?_cons_succ, List.getElem?_cons_zero]; rfl
              · kernel_rfl
              · kernel_rfl
              · kernel_rfl
              · exact fun _ _ _ h => h
              · refine Or.inl ⟨by rfl, ?_⟩
                intro w' hSw
                (try dsimp only at hSw)
                go_simp
                all_goals (with_reducible rfl)
              · assumption
              try simp only [Act.put, List.setIfInBounds_toArray, List.set_cons_zero, List.set_cons_succ]
              refine wpAnyH_done (by kernel_rfl) ?_ _
              clear hHeld
              have k15 := (Q11.out.1.keep N19.out).rd
              have c15 := (show Blk w14 bc _ _ from C11.out.below N19.out).rd
              have r15 := (Q11.out.2.1.keep N19.out).rd
              have p15 := (Q11.out.2.2.keep N19.out).rd
              go_upto_region 28 with (first
                | (go_at_call 24; ((with_reducible refine (CI.out _).mono ?_); rintro e w28 ⟨rfl, be⟩; have NB := Lib.hid (G.below_on N19.out be); clear be)))
              clear k15 c15 r15 p15
            rotate_left
            all_goals
              have C28 := Lib.hid (C11.out.below NB.out)
              have F28 := Lib.hid (F11.out.trans (Fr.of_below NB.out))
              have O28 := Lib.hid (own_below O11.out NB.out)
              have p28 := (Q11.out.2.2.keep NB.out).rd
              have hco32 : co ≤ 32 := by omega
              clear k11 NB C11 F11 O11 ST BN BFI BF
              by_cases hia : i < n
              · have hia2 : (i : Int) < (n : Int) := by omega
                by_cases hle : co ≤ roomP F 0 0 D U W B L t'
                · have l1 := (take_leaves RNG.out ⟨hcob.1, hle⟩).1
                  have hcu : 0 ≤ co * U := Int.mul_nonneg (by omega) (by omega)
                  have ct := fun w bc h => take_rng_yes RNG.out ⟨hcob.1, hle⟩ w bc h
                  have tk' := HTK.out.take u1 (t' := t') ⟨hcob.1, hco32⟩ HTX.out.2.1
                  obtain ⟨F', hF'⟩ : ∃ z, z = max F t' + co * U := ⟨_, rfl⟩
                  rw [← hF'] at l1 ct tk'
                  obtain ⟨D', hD'⟩ : ∃ z, z = D + co := ⟨_, rfl⟩
                  rw [← hD'] at ct
                  have CT := Lib.hid ct
                  have TK := Lib.hid tk'
                  have NX := Lib.hid (show (0 ≤ F' ∧ F' ≤ t' + B * U) ∧ (0 ≤ D' ∧ D' ≤ 32 * ((i : Int) + 1)) ∧ ∀ T, sumGt T (ls ++ [(t', co)]) ≤ D' from by
                    have h2 := HD2.out
                    refine ⟨⟨by omega, l1⟩, by omega, fun T => ?_⟩
                    have h3 := HSL.out.2 T
                    rw [sumGt_snoc]
                    split
                    · show _ + co ≤ _; omega
                    · omega)
                  obtain ⟨i1, hi1, hy0, hy1, hy2⟩ := info_parts infoLet2
                  have HI1 := Lib.hid (And.intro hi1 (And.intro hy0 (And.intro hy1 hy2)))
                  clear ct tk' l1 hcu hF' hD' hi1 hy0 hy1 hy2 hle
                  go_upto_region 29 with (first
                    | (go_at_call 21; ((with_reducible refine (CT.out _ _ C28.out).mono ?_); rintro e w29 ⟨rfl, c8, f8⟩; have C29 := Lib.hid c8; have O29 := Lib.hid (own_fr O28.out f8 (fun k hk => by subst hk; exact LBC.out)); have F29 := Lib.hid (F28.out.trans f8); clear c8 f8)))
                  have hbw : base ≤ w29.heap.size := by rw [← HBS.out]; exact F29.out.size
                  have HBW := Lib.hid hbw
                  have hlb2 : ls.length ≤ 101 := by omega
                  have HLB2 := Lib.hid hlb2
                  clear hbw hlb2
                  go_wp2_with (at_builtin; go_loud (refine G.wpList_push (by rfl) _ _ (by rfl) (by rfl) (by rfl) (by rfl) HI1.out.1 HI1.out.2.1 HI1.out.2.2.1 HI1.out.2.2.2 (by rfl) (by omega) O29.out HBW.out [.int .i64 t', .int .i64 co] (by rfl) (by simp [Value.oneCell']) (by have := HLB2.out; omega) (by have := HLB2.out; unfold maxLen; omega) ?_); intro gl2 cl3 w30 hown9 hgrow9 hat9; have HO9 := Lib.hid hown9; have HG9 := Lib.hid hgrow9; have HA9 := Lib.hid hat9; clear hown9 hgrow9 hat9)
                  go_roundg (n + 1 - (i + 1))
                  case measure => have := HK.out; omega
                  case rel =>
                    have hx := NX.out
                    have hF9 : Fr (fun k => k = bc) w11 w30 := ⟨HG9.out.os.trans F29.out.os, HG9.out.tape.trans F29.out.tape, HG9.out.output.trans F29.out.output, Nat.le_trans F29.out.size HG9.out.size, fun k hk hF => (HG9.out.block k (Nat.lt_of_lt_of_le hk F29.out.size) (fun e => by have := own_base O29.out k e; have := HBS.out; omega)).trans (F29.out.block k hk hF)⟩
                    refine ⟨i + 1, t', F', D', ls ++ [(t', co)], by omega, by omega, by go_num, rfl, by have := HTX.out.1; omega, hx.1, by have := hx.2.1; omega, ?_, hF9, ?_, ?_, TK.out, hx.2.2⟩
                    · refine Blk.fr (show Blk w29 bc _ _ from C29.out) HG9.out ?_
                      intro e
                      have := own_base O29.out bc e
                      have := LBC.out
                      omega
                    · rw [cells2_app, List.length_append]; exact HO9.out
                    · rw [List.length_append]; have := HSL.out.1; show _ + 1 ≤ _; omega
                · have ct := fun w bc h => take_rng_no RNG.out (cost := co) (Or.inr (by omega)) w bc h
                  have CT := Lib.hid ct
                  clear ct hle
                  go_wp2_with (first
                    | (go_at_call 21; ((with_reducible refine (CT.out _ _ C28.out).mono ?_); rintro e w29 ⟨rfl, b8⟩; have C29 := Lib.hid (C28.out.below b8); have O29 := Lib.hid (own_below O28.out b8); have F29 := Lib.hid (F28.out.trans (Fr.of_below b8)); clear b8)))
                  go_roundg (n + 1 - (i + 1))
                  case measure => have := HK.out; omega
                  case rel => exact ⟨i + 1, t', F, D, ls, by omega, by omega, by go_num, rfl, by have := HTX.out.1; omega, ⟨HF2.out.1, HTX.out.2.2⟩, by have := HD2.out; omega, C29.out, F29.out, O29.out, by have := HSL.out.1; omega, HTK.out.later HTX.out.2.1, HSL.out.2⟩
              · have hia2 : ¬ (i : Int) < (n : Int) := by omega
                go_wp2
                go_roundg (n + 1 - (i + 1))
                case measure => have := HK.out; omega
                case rel => exact ⟨i + 1, t', F, D, ls, by omega, by omega, by go_num, rfl, by have := HTX.out.1; omega, ⟨HF2.out.1, HTX.out.2.2⟩, by have := HD2.out; omega, C28.out, F28.out, O28.out, by have := HSL.out.1; omega, HTK.out.later HTX.out.2.1, HSL.out.2⟩
      · have hie : i = n + 1 := by omega
        have hji : ¬ (i : Int) < (n : Int) + 1 := by omega
        go_wp2
        go_ret
        exact ⟨rfl, HB.out⟩
end Go.Proofs.Ytfegoehiopkcnaa
