/- The law PoolAlike of layer 10 (pool), walked. -/
import Derived.Test.YtojbhmchpglmgaaPlS
import Derived.Test.YtojbhmchpglmgaaIxL
import Derived.Test.YtojbhmchpglmgaaRdL
import Derived.Test.YtojbhmchpglmgaaGen
namespace Go.Proofs.Ytojbhmchpglmgaa
set_option linter.unusedSimpArgs false
set_option linter.unusedVariables false
open Go.ChangeShapes Go.WideShapes Go.ChangeAt Go.RowKit Go.Shelf
open Ar (inR)
attribute [local go_sem] Oper.semAt_some
theorem info_str : (Try.prog.info? 9).map (fun i => (i.zero, i.size, i.bytes)) = some (some (.string ⟨#[]⟩), 1, 16) := by kernel_rfl
theorem plL_len (K : Nat → Option ByteArray) (C : List Cel) (k : Nat) : (plL K C k).length ≤ k := by
  unfold plL
  have := List.length_filterMap_le (fun i => (K i).map fun s => (s, C.getD i (0, 0, 0, 0))) (List.range k)
  simpa using this
/-- what comes next of a list. -/
theorem next_at {β : Type} {l pre : List β} {x : β} (h : pre ++ [x] <+: l) : pre.length < l.length ∧ l[pre.length]? = some x := by
  have h1 := h.length_le
  simp at h1
  obtain ⟨t, ht⟩ := h
  exact ⟨by omega, by rw [← ht]; simp⟩
/-- three draws in a box, and the function that comes of them. -/
theorem row0_any {w : World} {db o : Nat} {t : TypeId} {C : Array Value} (a b c : Nat) (ha : a < 18446744073709551616) (hb : b < 18446744073709551616) (hc : c < 18446744073709551616) (hk : Blk w db t C) (h0 : C[o]? = some (.int .u64 (a : Int))) (h1 : C[o + 1]? = some (.int .u64 (b : Int))) (h2 : C[o + 2]? = some (.int .u64 (c : Int))) :
    Calls Try.prog 9 #[.slice (some ⟨db, o, none⟩) 3 3, .int .i64 1] w fun e w' => ∃ g, e = .returned (.slice (some ⟨g, 0, none⟩) 1 1) ∧ (w'.cell? ⟨g, 0, none⟩ = some (.int .u64 (dX a b c : Nat)) ∧ w'.cell? ⟨g, 1, none⟩ = some (.int .u64 (dA a b c : Nat)) ∧ w'.cell? ⟨g, 2, none⟩ = some (.int .u64 (dB a b c : Nat))) ∧ Below w.heap.size w w' := by
  have hr : RdI w .u64 (some ⟨db, o, none⟩) 3 3 [(a : Int), (b : Int), (c : Int)] := ⟨rfl, Nat.le_refl _, by unfold maxLen; omega, fun _ => ⟨db, o, rfl, lt_of_block hk, fun i hi => by
    rw [blk_cell hk]
    match i, hi with
    | 0, _ => exact h0
    | 1, _ => exact h1
    | 2, _ => exact h2
    | i + 3, hi => omega⟩, fun z hz => by
    simp only [List.mem_cons, List.not_mem_nil, or_false] at hz
    rcases hz with rfl | rfl | rfl <;> (simp [Lit.wf, IntKind.min, IntKind.max, IntKind.signed, IntKind.bits]; omega)⟩
  have HD := d_row a b c
  refine (show Calls Try.prog 9 #[.slice (some ⟨db, o, none⟩) 3 3, .int .i64 1] w _ from rows_any w _ 3 3 _ hr 1 (by omega)).mono ?_
  rintro e w' ⟨rfl, hw, hbl⟩
  obtain ⟨C', hC, hsz, hcell⟩ := hw.blk
  have hc0 := hcell 0 (by omega)
  rw [HD.1, HD.2.1, HD.2.2] at hc0
  exact ⟨w.heap.size, rfl, ⟨by rw [blk_cell hC]; exact hc0.1, by rw [blk_cell hC]; exact hc0.2.1, by rw [blk_cell hC]; exact hc0.2.2⟩, hbl⟩
theorem three_kept {W w : World} {g : Nat} {x y z : Value} (h : W.cell? ⟨g, 0, none⟩ = some x ∧ W.cell? ⟨g, 1, none⟩ = some y ∧ W.cell? ⟨g, 2, none⟩ = some z) (hb : Below W.heap.size W w) : w.cell? ⟨g, 0, none⟩ = some x ∧ w.cell? ⟨g, 1, none⟩ = some y ∧ w.cell? ⟨g, 2, none⟩ = some z := ⟨cell_kept hb h.1, cell_kept hb h.2.1, cell_kept hb h.2.2⟩
/-- two pools, each in blocks of its own, that have the same keys and cells; the answer's box. -/
structure TwoP (W w : World) (Q1 Q2 : PlN) (σ : KSt) (C : List Cel) (rb : Nat) : Prop where
  p1 : PlAt w Q1 σ C
  p2 : PlAt w Q2 σ C
  rb : Blk w rb 4 #[.bool false]
  bl : Below W.heap.size W w
theorem TwoP.keep {W w w' : World} {Q1 Q2 : PlN} {σ : KSt} {C : List Cel} {rb : Nat} (h : TwoP W w Q1 Q2 σ C rb) (hb : Below w.heap.size w w') : TwoP W w' Q1 Q2 σ C rb := ⟨h.p1.keep hb, h.p2.keep hb, h.rb.keep hb, below_in h.bl hb⟩
theorem TwoP.turn {W w w' : World} {Q1 Q2 : PlN} {σ : KSt} {C : List Cel} {rb B : Nat} (h : TwoP W w Q1 Q2 σ C rb) (ht : Turn B w w') (hB : W.heap.size ≤ B) : TwoP W w' Q1 Q2 σ C rb := ⟨KeepB.pl (KeepB.turn ht) h.p1, KeepB.pl (KeepB.turn ht) h.p2, h.rb.turn ht, ht.below h.bl hB⟩
theorem TwoP.fr {W w w' : World} {Q1 Q2 : PlN} {σ : KSt} {C : List Cel} {rb : Nat} {F : Nat → Prop} (h : TwoP W w Q1 Q2 σ C rb) (hf : Fr F w w') (h1 : ∀ k, Q1.all k → ¬ F k) (h2 : ∀ k, Q2.all k → ¬ F k) (h3 : ¬ F rb) (h4 : ∀ k, F k → W.heap.size ≤ k) : TwoP W w' Q1 Q2 σ C rb := ⟨h.p1.fr hf h1, h.p2.fr hf h2, h.rb.fr hf h3, h.bl.trans (hf.below h.bl.size h4)⟩
/-- where they lie. -/
structure ApartP (W : World) (Q1 Q2 : PlN) (B rb : Nat) : Prop where
  a : ∀ k, Q1.all k → rb < k ∧ k < B
  b : ∀ k, Q2.all k → B ≤ k
  r : W.heap.size ≤ rb
theorem TwoP.left {W w w' : World} {Q1 Q2 : PlN} {σ σ' : KSt} {C C' : List Cel} {rb B : Nat} (h : TwoP W w Q1 Q2 σ C rb) (d : ApartP W Q1 Q2 B rb) (hi : PlAt w' Q1 σ' C') (hf : Fr Q1.F w w') : PlAt w' Q1 σ' C' ∧ PlAt w' Q2 σ C ∧ Blk w' rb 4 #[.bool false] ∧ Below W.heap.size W w' :=
  ⟨hi, h.p2.fr hf (fun k hk hF => by have := d.b k hk; have := (d.a k (Or.inl hF)).2; omega), h.rb.fr hf (fun hF => by have := (d.a rb (Or.inl hF)).1; omega), h.bl.trans (hf.below h.bl.size (fun k hk => by have := (d.a k (Or.inl hk)).1; have := d.r; omega))⟩
theorem TwoP.right {W w w' : World} {Q1 Q2 : PlN} {σ σ' : KSt} {C C' : List Cel} {rb B : Nat} (h : PlAt w Q1 σ' C' ∧ PlAt w Q2 σ C ∧ Blk w rb 4 #[.bool false] ∧ Below W.heap.size W w) (d : ApartP W Q1 Q2 B rb) (hB : rb < B) (hi : PlAt w' Q2 σ' C') (hf : Fr Q2.F w w') : TwoP W w' Q1 Q2 σ' C' rb :=
  ⟨h.1.fr hf (fun k hk hF => by have := d.b k (Or.inl hF); have := (d.a k hk).2; omega), hi, h.2.2.1.fr hf (fun hF => by have := d.b rb (Or.inl hF); omega), h.2.2.2.trans (hf.below h.2.2.2.size (fun k hk => by have := d.b k (Or.inl hk); have := d.r; omega))⟩
theorem mid_keep {W w w' : World} {Q1 Q2 : PlN} {σ σ' : KSt} {C C' : List Cel} {rb : Nat} (h : PlAt w Q1 σ' C' ∧ PlAt w Q2 σ C ∧ Blk w rb 4 #[.bool false] ∧ Below W.heap.size W w) (hb : Below w.heap.size w w') : PlAt w' Q1 σ' C' ∧ PlAt w' Q2 σ C ∧ Blk w' rb 4 #[.bool false] ∧ Below W.heap.size W w' := ⟨h.1.keep hb, h.2.1.keep hb, h.2.2.1.keep hb, below_in h.2.2.2 hb⟩
/-- a loop's own thing of three cells, in a box of its own. -/
theorem box3 (X : World) (t : TypeId) (z0 z1 z2 a b c : Value) : ∃ w1 w2, X.alloc (.cells #[z0, z1, z2] t) = w1 ∧
    (∀ j, w1.cell? ⟨X.heap.size, j, none⟩ = (#[z0, z1, z2] : Array Value)[j]?) ∧ (∀ j, w1.frozen? ⟨X.heap.size, j, none⟩ = false) ∧
    ((w1.setCell ⟨X.heap.size, 0, none⟩ a).setCell ⟨X.heap.size, 1, none⟩ b).setCell ⟨X.heap.size, 2, none⟩ c = w2 ∧
    Below X.heap.size X w2 ∧ Blk w2 X.heap.size t #[a, b, c] := by
  obtain ⟨w1, hw1, kc1, l1, s1⟩ := box_new X #[z0, z1, z2] t
  have hl := lt_of_block kc1
  have hset : ((w1.setCell ⟨X.heap.size, 0, none⟩ a).setCell ⟨X.heap.size, 1, none⟩ b).setCell ⟨X.heap.size, 2, none⟩ c = setObj w1 X.heap.size (.cells #[a, b, c] t (0, 0)) := by
    rw [setCell_obj kc1]
    simp only [setCell_in hl, List.setIfInBounds_toArray, List.set_cons_zero, List.set_cons_succ]
  exact ⟨w1, _, hw1, kc1.rd, kc1.wr, hset, l1.trans ((fr_one _ _ _).below l1.size (fun k hk => by omega)), setObj_at hl _⟩
set_option maxRecDepth 100000 in
set_option maxHeartbeats 8000000 in
theorem plalike_law (w : World) (a1 b1 c1 a2 b2 c2 : Nat) (A : Option Addr) (n c : Nat) (L : List (Int × ByteArray × Int)) (h1 : a1 < 18446744073709551616 ∧ b1 < 18446744073709551616 ∧ c1 < 18446744073709551616) (h2 : a2 < 18446744073709551616 ∧ b2 < 18446744073709551616 ∧ c2 < 18446744073709551616) (hr : RdL w A n c 3 encISI L) (hok : ∀ a ∈ L, okISI a) :
    Calls Try.prog 5 #[.agg #[.int .u64 a1, .int .u64 b1, .int .u64 c1, .int .u64 a2, .int .u64 b2, .int .u64 c2], .slice A n c] w fun e w' => e = .returned (.bool true) ∧ Below w.heap.size w w' := by
  have hmx := hr.max
  unfold maxLen at hmx
  have hcp := hr.cap
  refine callsM Try.func5 rfl ?_
  simp only [Try.ntmps5, List.size_toArray, List.length_cons, List.length_nil, Nat.reduceAdd, Nat.reduceSub, Array.replicate_succ, Array.replicate_zero, List.push_toArray, List.append_toArray, List.nil_append, List.cons_append]
  go_wp2_with (fail)
  obtain ⟨w1, hw1, k0, l1, s1⟩ := box_new w #[.int .u64 (a1 : Int), .int .u64 (b1 : Int), .int .u64 (c1 : Int), .int .u64 (a2 : Int), .int .u64 (b2 : Int), .int .u64 (c2 : Int)] 60
  obtain ⟨w2, hw2, k1, l2, s2⟩ := box_new w1 #[.bool false] 4
  rw [hw1, hw2]
  obtain ⟨rb, hrb⟩ : ∃ x, x = w.heap.size + 1 := ⟨_, rfl⟩
  obtain ⟨db, hdb⟩ : ∃ x, x = w.heap.size := ⟨_, rfl⟩
  rw [s1, ← hrb] at k1
  rw [← hdb] at k0
  rw [← hrb, ← hdb]
  have HB := Lib.hid (And.intro hdb hrb)
  refine (plfit_any w2).mono ?_
  rintro e w3 ⟨rfl, b3⟩
  have KK := Lib.hid (And.intro ((k0.keep l2).keep b3) (And.intro (k1.keep b3) (And.intro (below_in (below_in l1 l2) b3) (show rb < w3.heap.size by have := b3.size; omega))))
  have r1 := KK.out.2.1.rd
  have r1w := KK.out.2.1.wr
  clear hw1 hw2 k0 k1 l1 l2 s1 s2 hdb hrb b3
  by_cases hn : (100 : Int) < (n : Int)
  · clear hr hok h1 h2
    go_wp2
    exact bodyM_early rfl Try.underlying4 rfl rfl rfl KK.out.2.1 KK.out.2.2.1 (by have := HB.out; omega)
  have hn2 : (n : Int) ≤ 100 := by omega
  have HR := Lib.hid hr
  have HO := Lib.hid hok
  have H1 := Lib.hid h1
  have H2 := Lib.hid h2
  have D1 := Lib.hid (d_lt a1 b1 c1)
  have D2 := Lib.hid (d_lt a2 b2 c2)
  clear hr hok h1 h2 hn
  go_upto_region 5 with (fail)
  have C1 := Lib.hid (fun (wx : World) (hb : Below w3.heap.size w3 wx) => row0_any (w := wx) (o := 0) a1 b1 c1 H1.out.1 H1.out.2.1 H1.out.2.2 (KK.out.1.keep hb) rfl rfl rfl)
  have C2 := Lib.hid (fun (wx : World) (hb : Below w3.heap.size w3 wx) => row0_any (w := wx) (o := 3) a2 b2 c2 H2.out.1 H2.out.2.1 H2.out.2.2 (KK.out.1.keep hb) rfl rfl rfl)
  have Y0 := Lib.hid (show Below w3.heap.size w3 w3.drew from below_draws (Below.refl _ _) 1)
  obtain ⟨X1, hX1⟩ : ∃ X, X = dX a1 b1 c1 := ⟨_, rfl⟩
  obtain ⟨A1, hA1⟩ : ∃ X, X = dA a1 b1 c1 := ⟨_, rfl⟩
  obtain ⟨B1, hB1⟩ : ∃ X, X = dB a1 b1 c1 := ⟨_, rfl⟩
  obtain ⟨X2, hX2⟩ : ∃ X, X = dX a2 b2 c2 := ⟨_, rfl⟩
  obtain ⟨A2, hA2⟩ : ∃ X, X = dA a2 b2 c2 := ⟨_, rfl⟩
  obtain ⟨B2, hB2⟩ : ∃ X, X = dB a2 b2 c2 := ⟨_, rfl⟩
  rw [← hX1, ← hA1, ← hB1] at C1 D1
  rw [← hX2, ← hA2, ← hB2] at C2 D2
  clear hX1 hA1 hB1 hX2 hA2 hB2
  refine wp_region_held_drew (S := fun _ => True) (by kernel_rfl) trivial (fun hHeld => ?_)
  refine wpAnyH_take (i := 0) (oi := ?_) (v := ?_) ?_ ?_ ?_ ?_ ?_ ?_ ?_ ?_
  rotate_left 2
  · simp only [List.getElem?_toArray, List.getElem?_cons_succ, List.getElem?_cons_zero]; rfl
  · kernel_rfl
  · kernel_rfl
  · kernel_rfl
  · exact fun _ _ _ h => h
  · refine Or.inl ⟨by rfl, ?_⟩
    intro w' hSw
    (try dsimp only at hSw)
    go_simp
    all_goals (with_reducible rfl)
  · assumption
  try simp only [Act.put, List.setIfInBounds_toArray, List.set_cons_zero, List.set_cons_succ]
  refine wpAnyH_take (i := 1) (oi := ?_) (v := ?_) ?_ ?_ ?_ ?_ ?_ ?_ ?_ ?_
  rotate_left 2
  · simp only [List.getElem?_toArray, List.getElem?_cons_succ, List.getElem?_cons_zero]; rfl
  · kernel_rfl
  · kernel_rfl
  · kernel_rfl
  · exact fun _ _ _ h => h
  · refine Or.inl ⟨by rfl, ?_⟩
    intro w' hSw
    (try dsimp only at hSw)
    go_simp
    all_goals (with_reducible rfl)
  · assumption
  try simp only [Act.put, List.setIfInBounds_toArray, List.set_cons_zero, List.set_cons_succ]
  refine wpAnyH_take (i := 6) (oi := ?_) (v := ?_) ?_ ?_ ?_ ?_ ?_ ?_ ?_ ?_
  rotate_left 2
  · simp only [List.getElem?_toArray, List.getElem?_cons_succ, List.getElem?_cons_zero]; rfl
  · kernel_rfl
  · kernel_rfl
  · kernel_rfl
  · exact fun _ _ _ h => h
  · refine Or.inl ⟨by rfl, ?_⟩
    intro w' hSw
    (try dsimp only at hSw)
    go_simp
    all_goals (with_reducible rfl)
  · assumption
  try simp only [Act.put, List.setIfInBounds_toArray, List.set_cons_zero, List.set_cons_succ]
  refine wpAnyH_take (i := 7) (oi := ?_) (v := ?_) ?_ ?_ ?_ ?_ ?_ ?_ ?_ ?_
  rotate_left 2
  · simp only [List.getElem?_toArray, List.getElem?_cons_succ, List.getElem?_cons_zero]; rfl
  · kernel_rfl
  · kernel_rfl
  · kernel_rfl
  · exact fun _ _ _ h => h
  · refine Or.inl ⟨by rfl, ?_⟩
    intro w' hSw
    (try dsimp only at hSw)
    go_simp
    all_goals (with_reducible rfl)
  · assumption
  try simp only [Act.put, List.setIfInBounds_toArray, List.set_cons_zero, List.set_cons_succ]
  refine wpAnyH_ready (rs := [2]) (by kernel_rfl) (by simp) ?_
  refine AllReadyH.cons (o := ?_) ?_ ?_ ?_
  rotate_left 1
  · simp only [List.getElem?_toArray, List.getElem?_cons_succ, List.getElem?_cons_zero]; rfl
  rotate_left 1
  · exact AllReadyH.nil
  intro K hK
  go_simp
  ((with_reducible refine (C1.out _ Y0.out).mono ?_); rintro e wa ⟨g1, rfl, q1, ba⟩; have G1 := Lib.hid q1; have Y1 := Lib.hid (below_in Y0.out ba); clear q1 ba)
  refine hK.out _ _ trivial (fun hHeld => ?_)
  clear hK K
  try simp only [Act.put, List.setIfInBounds_toArray, List.set_cons_zero, List.set_cons_succ]
  refine wpAnyH_strong (S' := fun wx => wx.cell? ⟨g1, 0, none⟩ = some (.int .u64 (X1 : Int)) ∧ wx.cell? ⟨g1, 1, none⟩ = some (.int .u64 (A1 : Int)) ∧ wx.cell? ⟨g1, 2, none⟩ = some (.int .u64 (B1 : Int))) (fun _ _ => trivial) _ _ _ _ ?_
  clear hHeld
  have hHeld := G1.out
  refine wpAnyH_take (i := 3) (oi := ?_) (v := ?_) ?_ ?_ ?_ ?_ ?_ ?_ ?_ ?_
  rotate_left 2
  · simp only [List.getElem?_toArray, List.getElem?_cons_succ, List.getElem?_cons_zero]; rfl
  · kernel_rfl
  · kernel_rfl
  · kernel_rfl
  · exact fun _ _ _ h => h
  · refine Or.inl ⟨by rfl, ?_⟩
    intro w' hSw
    (try dsimp only at hSw)
    go_simp
    all_goals (with_reducible rfl)
  · assumption
  try simp only [Act.put, List.setIfInBounds_toArray, List.set_cons_zero, List.set_cons_succ]
  refine wpAnyH_take (i := 4) (oi := ?_) (v := ?_) ?_ ?_ ?_ ?_ ?_ ?_ ?_ ?_
  rotate_left 2
  · simp only [List.getElem?_toArray, List.getElem?_cons_succ, List.getElem?_cons_zero]; rfl
  · kernel_rfl
  · kernel_rfl
  · kernel_rfl
  · exact fun _ _ _ h => h
  · refine Or.inl ⟨by rfl, ?_⟩
    intro w' hSw
    (try dsimp only at hSw)
    go_simp
    all_goals (with_reducible rfl)
  · assumption
  try simp only [Act.put, List.setIfInBounds_toArray, List.set_cons_zero, List.set_cons_succ]
  refine wpAnyH_ready (rs := [5]) (by kernel_rfl) (by simp) ?_
  refine AllReadyH.cons (o := ?_) ?_ ?_ ?_
  rotate_left 1
  · simp only [List.getElem?_toArray, List.getElem?_cons_succ, List.getElem?_cons_zero]; rfl
  rotate_left 1
  · exact AllReadyH.nil
  intro K hK
  go_simp
  (refine (show Calls Try.prog 8 #[.int .i64 4, .agg #[.int .u64 X1, .int .u64 A1, .int .u64 B1]] wa _ from plnew_any X1 A1 B1 D1.out.1 D1.out.2.1 D1.out.2.2 4 (by omega) (by omega) wa).mono ?_); rintro e wb ⟨Q1, rfl, p1, n1, u1, bb⟩; have P1 := Lib.hid (And.intro p1 (And.intro n1 u1)); have G2 := Lib.hid (three_kept G1.out bb); have Z2 := Lib.hid bb.size; have Y2 := Lib.hid (below_in Y1.out bb); clear p1 n1 u1 bb
  refine hK.out _ _ G2.out (fun hHeld => ?_)
  clear hK K
  try simp only [Act.put, List.setIfInBounds_toArray, List.set_cons_zero, List.set_cons_succ]
  refine wpAnyH_ready (rs := [8]) (by kernel_rfl) (by simp) ?_
  refine AllReadyH.cons (o := ?_) ?_ ?_ ?_
  rotate_left 1
  · simp only [List.getElem?_toArray, List.getElem?_cons_succ, List.getElem?_cons_zero]; rfl
  rotate_left 1
  · exact AllReadyH.nil
  intro K hK
  go_simp
  ((with_reducible refine (C2.out _ Y2.out).mono ?_); rintro e wc ⟨g2, rfl, q2, bc⟩; have G3 := Lib.hid (three_kept G2.out bc); have GG := Lib.hid q2; have P2 := Lib.hid (P1.out.1.keep bc); have Z3 := Lib.hid bc.size; have Y3 := Lib.hid (below_in Y2.out bc); clear q2 bc)
  refine hK.out _ _ G3.out (fun hHeld => ?_)
  clear hK K
  try simp only [Act.put, List.setIfInBounds_toArray, List.set_cons_zero, List.set_cons_succ]
  refine wpAnyH_strong (S' := fun wx => (wx.cell? ⟨g1, 0, none⟩ = some (.int .u64 (X1 : Int)) ∧ wx.cell? ⟨g1, 1, none⟩ = some (.int .u64 (A1 : Int)) ∧ wx.cell? ⟨g1, 2, none⟩ = some (.int .u64 (B1 : Int))) ∧ wx.cell? ⟨g2, 0, none⟩ = some (.int .u64 (X2 : Int)) ∧ wx.cell? ⟨g2, 1, none⟩ = some (.int .u64 (A2 : Int)) ∧ wx.cell? ⟨g2, 2, none⟩ = some (.int .u64 (B2 : Int))) (fun _ h => h.1) _ _ _ _ ?_
  clear hHeld
  have hHeld := And.intro G3.out GG.out
  refine wpAnyH_take (i := 9) (oi := ?_) (v := ?_) ?_ ?_ ?_ ?_ ?_ ?_ ?_ ?_
  rotate_left 2
  · simp only [List.getElem?_toArray, List.getElem?_cons_succ, List.getElem?_cons_zero]; rfl
  · kernel_rfl
  · kernel_rfl
  · kernel_rfl
  · exact fun _ _ _ h => h
  · refine Or.inl ⟨by rfl, ?_⟩
    intro w' hSw
    (try dsimp only at hSw)
    go_simp
    all_goals (with_reducible rfl)
  · assumption
  try simp only [Act.put, List.setIfInBounds_toArray, List.set_cons_zero, List.set_cons_succ]
  refine wpAnyH_take (i := 10) (oi := ?_) (v := ?_) ?_ ?_ ?_ ?_ ?_ ?_ ?_ ?_
  rotate_left 2
  · simp only [List.getElem?_toArray, List.getElem?_cons_succ, List.getElem?_cons_zero]; rfl
  · kernel_rfl
  · kernel_rfl
  · kernel_rfl
  · exact fun _ _ _ h => h
  · refine Or.inl ⟨by rfl, ?_⟩
    intro w' hSw
    (try dsimp only at hSw)
    go_simp
    all_goals (with_reducible rfl)
  · assumption
  try simp only [Act.put, List.setIfInBounds_toArray, List.set_cons_zero, List.set_cons_succ]
  refine wpAnyH_ready (rs := [11]) (by kernel_rfl) (by simp) ?_
  refine AllReadyH.cons (o := ?_) ?_ ?_ ?_
  rotate_left 1
  · simp only [List.getElem?_toArray, List.getElem?_cons_succ, List.getElem?_cons_zero]; rfl
  rotate_left 1
  · exact AllReadyH.nil
  intro K hK
  go_simp
  (refine (show Calls Try.prog 8 #[.int .i64 4, .agg #[.int .u64 X2, .int .u64 A2, .int .u64 B2]] wc _ from plnew_any X2 A2 B2 D2.out.1 D2.out.2.1 D2.out.2.2 4 (by omega) (by omega) wc).mono ?_); rintro e wd ⟨Q2, rfl, p2, n2, u2, bd⟩; have P3 := Lib.hid (And.intro p2 (And.intro n2 u2)); have P4 := Lib.hid (P2.out.keep bd); have G4 := Lib.hid (And.intro (three_kept G3.out bd) (three_kept GG.out bd)); have Y4 := Lib.hid (below_in Y3.out bd); clear p2 n2 u2 bd
  refine hK.out _ _ G4.out (fun hHeld => ?_)
  clear hK K
  try simp only [Act.put, List.setIfInBounds_toArray, List.set_cons_zero, List.set_cons_succ]
  refine wpAnyH_take (i := 12) (oi := ?_) (v := ?_) ?_ ?_ ?_ ?_ ?_ ?_ ?_ ?_
  rotate_left 2
  · simp only [List.getElem?_toArray, List.getElem?_cons_succ, List.getElem?_cons_zero]; rfl
  · kernel_rfl
  · kernel_rfl
  · kernel_rfl
  · exact fun _ _ _ h => h
  · refine Or.inl ⟨by rfl, ?_⟩
    intro w' hSw
    (try dsimp only at hSw)
    go_simp
    all_goals (with_reducible rfl)
  · assumption
  try simp only [Act.put, List.setIfInBounds_toArray, List.set_cons_zero, List.set_cons_succ]
  refine wpAnyH_take (i := 13) (oi := ?_) (v := ?_) ?_ ?_ ?_ ?_ ?_ ?_ ?_ ?_
  rotate_left 2
  · simp only [List.getElem?_toArray, List.getElem?_cons_succ, List.getElem?_cons_zero]; rfl
  · kernel_rfl
  · kernel_rfl
  · kernel_rfl
  · exact fun _ _ _ h => h
  · refine Or.inl ⟨by rfl, ?_⟩
    intro w' hSw
    (try dsimp only at hSw)
    go_simp
    all_goals (with_reducible rfl)
  · assumption
  try simp only [Act.put, List.setIfInBounds_toArray, List.set_cons_zero, List.set_cons_succ]
  refine wpAnyH_done (by kernel_rfl) ?_ _
  clear hHeld
  have AP := Lib.hid (show ApartP w Q1 Q2 wb.heap.size rb from by
    have hb := HB.out
    have h1 := P1.out.1.lt
    exact ⟨fun k hk => ⟨by have := P1.out.2.2 k hk; have := Y1.out.size; have := KK.out.2.2.2; omega, h1 k hk⟩, fun k hk => by have := P3.out.2.2 k hk; have := Z3.out; omega, by omega⟩)
  have TT := Lib.hid (show TwoP w wd Q1 Q2 (kNew 4) (List.replicate 4 (0, 0, 0, 0)) rb from ⟨P4.out, P3.out.1, KK.out.2.1.keep Y4.out, below_in KK.out.2.2.1 Y4.out⟩)
  have NN := Lib.hid (And.intro P1.out.2.1 P3.out.2.1)
  clear r1 r1w C1 C2 D1 D2 G1 G2 G3 G4 GG P1 P2 P3 P4 Y0 Y1 Y2 Y3 Y4 Z2 Z3 KK H1 H2
  go_wp2
  go_loopg [36] n (fun k si wr => ∃ (i : Nat) (σ : KSt) (C : List Cel), si = .int .i64 (i : Int) ∧ i ≤ n ∧ Hid (k = n - i) ∧ Hid (TwoP w wr Q1 Q2 σ C rb) ∧ Hid (wd.heap.size ≤ wr.heap.size))
  case atStart => exact ⟨0, kNew 4, List.replicate 4 (0, 0, 0, 0), rfl, by omega, Lib.hid rfl, TT, Lib.hid (Nat.le_refl _)⟩
  case round =>
    obtain ⟨i, σ, C, rfl, hi, HK, RT, RZ⟩ := hrel
    by_cases hin : i < n
    · obtain ⟨b, off, rfl, hbl, hc⟩ := (HR.out.below RT.out.bl).at_ (by omega)
      have hil : i < L.length := by rw [HR.out.len]; exact hin
      obtain ⟨⟨kd, ky, at'⟩, ha⟩ : ∃ a, L[i]? = some a := ⟨_, List.getElem?_eq_getElem hil⟩
      have hoka := HO.out _ (List.mem_of_getElem? ha)
      have kr0 : wr.cell? ⟨b, off + i * 3, none⟩ = some (.int .i64 kd) := hc i _ ha 0 (by omega)
      have kr1 : wr.cell? ⟨b, off + i * 3 + 1, none⟩ = some (.string ky) := hc i _ ha 1 (by omega)
      have kr2 : wr.cell? ⟨b, off + i * 3 + 2, none⟩ = some (.int .i64 at') := hc i _ ha 2 (by omega)
      unfold okISI at hoka
      simp only at hoka
      obtain ⟨hkd, hky, hat⟩ := hoka
      obtain ⟨x1, x2, ex1, kr, kw, ex2, bl2, kc2⟩ := box3 wr 36 (.int .i64 0) (.string ⟨#[]⟩) (.int .i64 0) (.int .i64 kd) (.string ky) (.int .i64 at')
      obtain ⟨cb, hcb⟩ : ∃ cb, cb = wr.heap.size := ⟨_, rfl⟩
      have T2 := Lib.hid (And.intro (RT.out.keep bl2) (show wd.heap.size ≤ x2.heap.size from Nat.le_trans RZ.out bl2.size))
      have KC := Lib.hid kc2
      have HCB := Lib.hid hcb
      have t1 : (i : Int) < (n : Int) := by omega
      have HIN := Lib.hid hin
      have hky' : (ky.size : Int) ≤ 9223372036854775807 := by have : ky.size ≤ 2 ^ 63 - 1 := hky; omega
      have HKY := Lib.hid hky
      have kc3 := kc2.rd
      have eb1 := G.i64_mask1 kd
      clear hc hbl hil ha hin hky bl2 kc2
      go_upto_region 9 with (fail)
      clear kr kw ex1 kr0 kr1 kr2 ex2
      have hr1 := T2.out.1.rb.rd
      have hr1w := T2.out.1.rb.wr
      by_cases h100 : (100 : Int) < (ky.size : Int)
      · go_wp2
        exact bodyM_early rfl Try.underlying4 rfl rfl rfl T2.out.1.rb T2.out.1.bl AP.out.r
      · rcases (show kd % 2 = 0 ∨ kd % 2 = 1 by omega) with hk | hk
        · rw [hk] at eb1
          have hBr : rb < wb.heap.size := by have := AP.out.a Q1.p (Or.inr (Or.inr rfl)); omega
          have HQ := Lib.hid (show (∀ k, Q1.all k → k < wr.heap.size) ∧ (∀ k, Q2.all k → k < wr.heap.size) from ⟨RT.out.p1.lt, RT.out.p2.lt⟩)
          have N1 := Lib.hid (And.intro NN.out hBr)
          obtain ⟨r, hr⟩ : ∃ r, r = σ.put 4 ky := ⟨_, rfl⟩
          have CN := Lib.hid (fun wx => new_any at' 2 wx)
          have CP1 := Lib.hid (fun wx (hx : TwoP w wx Q1 Q2 σ C rb) (hk : Blk wx wr.heap.size 36 #[.int .i64 kd, .string ky, .int .i64 at']) => show Calls Try.prog 10 #[.pointer (some ⟨Q1.p, 0, none⟩), .string ky, celV (at', at', 2, 0)] wx (fun e w' => e = .returned (plP Q1 r.2) ∧ (PlAt w' Q1 r.1 (plSet C (at', at', 2, 0) r.2) ∧ PlAt w' Q2 σ C ∧ Blk w' rb 4 #[.bool false] ∧ Below w.heap.size w w') ∧ Blk w' wr.heap.size 36 #[.int .i64 kd, .string ky, .int .i64 at']) from by
            have := plput_any ky HKY.out (at', at', 2, 0) wx hx.p1
            rw [N1.out.1.1, ← hr] at this
            exact this.mono (fun e w' hh => ⟨hh.1, hx.left AP.out hh.2.1 hh.2.2, hk.fr hh.2.2 (fun hF => by have := HQ.out.1 _ (Or.inl hF); omega)⟩))
          have CP2 := Lib.hid (fun wx (hx : PlAt wx Q1 r.1 (plSet C (at', at', 2, 0) r.2) ∧ PlAt wx Q2 σ C ∧ Blk wx rb 4 #[.bool false] ∧ Below w.heap.size w wx) (hk : Blk wx wr.heap.size 36 #[.int .i64 kd, .string ky, .int .i64 at']) => show Calls Try.prog 10 #[.pointer (some ⟨Q2.p, 0, none⟩), .string ky, celV (at', at', 2, 0)] wx (fun e w' => e = .returned (plP Q2 r.2) ∧ TwoP w w' Q1 Q2 r.1 (plSet C (at', at', 2, 0) r.2) rb ∧ Blk w' wr.heap.size 36 #[.int .i64 kd, .string ky, .int .i64 at'] ∧ wx.heap.size ≤ w'.heap.size) from by
            have := plput_any ky HKY.out (at', at', 2, 0) wx hx.2.1
            rw [N1.out.1.2, ← hr] at this
            exact this.mono (fun e w' hh => ⟨hh.1, TwoP.right hx AP.out N1.out.2 hh.2.1 hh.2.2, hk.fr hh.2.2 (fun hF => by have := HQ.out.2 _ (Or.inl hF); omega), hh.2.2.size⟩))
          clear hr
          obtain ⟨σ', o⟩ := r
          cases o
          all_goals
            simp only [plP] at CP1 CP2
            go_upto_region 12 with (fail)
            have T3 := Lib.hid (show TwoP w x2.drew Q1 Q2 σ C rb ∧ Blk x2.drew wr.heap.size 36 #[.int .i64 kd, .string ky, .int .i64 at'] from ⟨T2.out.1.keep (below_draws (Below.refl _ _) 1), KC.out.keep (below_draws (Below.refl _ _) 1)⟩)
            have k8 : ∀ j, x2.drew.cell? ⟨wr.heap.size, j, none⟩ = (#[.int .i64 kd, .string ky, .int .i64 at'] : Array Value)[j]? := T3.out.2.rd
            go_region_held3 (fun w' => ∀ j, w'.cell? ⟨wr.heap.size, j, none⟩ = (#[.int .i64 kd, .string ky, .int .i64 at'] : Array Value)[j]?) (assumption)
              (first
                | (go_at_call 11; first
                  | ((with_reducible refine (CN.out _).mono ?_); rintro e wa ⟨rfl, ba⟩; have M6 := Lib.hid (And.intro (mid_keep M5.out.1 ba) (M5.out.2.keep ba)); have z3 := M6.out.2.rd; clear ba)
                  | ((with_reducible refine (CN.out _).mono ?_); rintro e wa ⟨rfl, ba⟩; have T4 := Lib.hid (And.intro (T3.out.1.keep ba) (T3.out.2.keep ba)); have z1 := T4.out.2.rd; clear ba))
                | (go_at_call 10; first
                  | ((with_reducible refine (CP1.out _ T4.out.1 T4.out.2).mono ?_); rintro e wa ⟨rfl, ta, tb⟩; have M5 := Lib.hid (And.intro ta tb); have z2 := tb.rd; clear ta tb)
                  | ((with_reducible refine (CP2.out _ M6.out.1 M6.out.2).mono ?_); rintro e wa ⟨rfl, ta, tb, tc⟩; have T7 := Lib.hid (And.intro ta tb); have z4 := tb.rd; clear ta tb tc)))
            clear k8 CN CP1 CP2
            go_wp2
            go_roundg (n - (i + 1))
            case measure => have := HK.out; have := HIN.out; omega
            case rel => exact ⟨i + 1, σ', _, by go_num, HIN.out, Lib.hid rfl, Lib.hid T7.out.1, Lib.hid (by have := lt_of_block T7.out.2; have := RZ.out; omega)⟩
        · rw [hk] at eb1
          have hBr : rb < wb.heap.size := by have := AP.out.a Q1.p (Or.inr (Or.inr rfl)); omega
          have HQ := Lib.hid (show (∀ k, Q1.all k → k < wr.heap.size) ∧ (∀ k, Q2.all k → k < wr.heap.size) from ⟨RT.out.p1.lt, RT.out.p2.lt⟩)
          have N1 := Lib.hid (And.intro NN.out hBr)
          obtain ⟨r, hr⟩ : ∃ r, r = σ.del 4 ky := ⟨_, rfl⟩
          have CP1 := Lib.hid (show Calls Try.prog 12 #[.pointer (some ⟨Q1.p, 0, none⟩), .string ky] x2 (fun e w' => e = .returned (remV C r.2) ∧ (PlAt w' Q1 r.1 C ∧ PlAt w' Q2 σ C ∧ Blk w' rb 4 #[.bool false] ∧ Below w.heap.size w w') ∧ Blk w' wr.heap.size 36 #[.int .i64 kd, .string ky, .int .i64 at']) from by
            have := plremove_any ky HKY.out x2 T2.out.1.p1
            rw [N1.out.1.1, ← hr] at this
            exact this.mono (fun e w' hh => ⟨hh.1, T2.out.1.left AP.out hh.2.1 hh.2.2, KC.out.fr hh.2.2 (fun hF => by have := HQ.out.1 _ (Or.inl hF); omega)⟩))
          have CP2 := Lib.hid (fun wx (hx : PlAt wx Q1 r.1 C ∧ PlAt wx Q2 σ C ∧ Blk wx rb 4 #[.bool false] ∧ Below w.heap.size w wx) (hk : Blk wx wr.heap.size 36 #[.int .i64 kd, .string ky, .int .i64 at']) => show Calls Try.prog 12 #[.pointer (some ⟨Q2.p, 0, none⟩), .string ky] wx (fun e w' => e = .returned (remV C r.2) ∧ TwoP w w' Q1 Q2 r.1 C rb ∧ Blk w' wr.heap.size 36 #[.int .i64 kd, .string ky, .int .i64 at'] ∧ Fr Q2.F wx w') from by
            have := plremove_any ky HKY.out wx hx.2.1
            rw [N1.out.1.2, ← hr] at this
            exact this.mono (fun e w' hh => ⟨hh.1, TwoP.right hx AP.out N1.out.2 hh.2.1 hh.2.2, hk.fr hh.2.2 (fun hF => by have := HQ.out.2 _ (Or.inl hF); omega), hh.2.2⟩))
          clear hr
          obtain ⟨σ', o⟩ := r
          have hcv : ∃ cv ok, remV C o = .tuple #[celV cv, .bool ok] := by
            cases o with
            | none => exact ⟨_, _, rfl⟩
            | some k => exact ⟨_, _, rfl⟩
          obtain ⟨cv, ok, hcv⟩ := hcv
          simp only [hcv] at CP1 CP2
          clear hcv
          obtain ⟨q0, q1, q2, q3⟩ := cv
          go_upto_region 15 with (go_at_call 12; refine CP1.out.mono ?_; rintro e wa ⟨rfl, ma, ka⟩; obtain ⟨y1, y2, ey1, ky1, kw1, ey2, by2, ky2⟩ := cbox wa (q0, q1, q2, q3); have M5 := Lib.hid (And.intro (mid_keep ma by2) (ka.keep by2)); have Y5 := Lib.hid ky2; have kc5 := (ka.keep by2).rd; have LA := Lib.hid (show wr.heap.size < wa.heap.size from lt_of_block ka); clear ma ka by2 ky2)
          clear kc3 ey1 ky1 kw1 ey2
          go_upto_region 16 with (go_at_call 12; refine (CP2.out _ M5.out.1 M5.out.2).mono ?_; rintro e wc ⟨rfl, tc, kc, fc⟩; obtain ⟨v1, v2, ev1, kv1, kw1, ev2, bv2, kv2⟩ := cbox wc (q0, q1, q2, q3); have T7 := Lib.hid (And.intro (tc.keep bv2) (show wd.heap.size ≤ v2.heap.size by have := lt_of_block kc; have := bv2.size; have := RZ.out; omega)); have y5 := ((Y5.out.fr fc (fun hF => by have := HQ.out.2 _ (Or.inl hF); have := LA.out; omega)).keep bv2).rd; have y6 := kv2.rd; clear tc kc fc bv2 kv2)
          clear ev1 kv1 kw1 ev2
          cases ok
          all_goals
            go_wp2
            go_roundg (n - (i + 1))
            case measure => have := HK.out; have := HIN.out; omega
            case rel => exact ⟨i + 1, σ', C, by go_num, HIN.out, Lib.hid rfl, Lib.hid T7.out.1, Lib.hid T7.out.2⟩
    · have hie : i = n := by omega
      subst hie
      go_upto_region 19 with (fail)
      obtain ⟨w7, hw7, k7, l7, s7⟩ := box_new wr #[.slice none 0 0] 61
      obtain ⟨lb, hlb⟩ : ∃ x, x = wr.heap.size := ⟨_, rfl⟩
      rw [← hlb] at k7
      have T7 := Lib.hid (RT.out.keep l7)
      have K7 := Lib.hid k7
      have HLB := Lib.hid (show rb < lb ∧ (∀ k, Q1.all k → k < lb) ∧ (∀ k, Q2.all k → k < lb) ∧ w7.heap.size = lb + 1 from ⟨by have := lt_of_block RT.out.rb; omega, fun k hk => by have := RT.out.p1.lt k hk; omega, fun k hk => by have := RT.out.p2.lt k hk; omega, by omega⟩)
      clear k7 l7 s7
      go_wp2
      rw [← hlb]
      clear hlb hw7
      obtain ⟨LL, hLL⟩ : ∃ LL, LL = plL σ.K C 4 := ⟨_, rfl⟩
      have hit1 := plall_any Q1 σ C w7 T7.out.p1
      rw [NN.out.1, ← hLL] at hit1
      have hLn : LL.length ≤ 4 := by rw [hLL]; exact plL_len _ _ _
      have HLL := Lib.hid (And.intro hLL hLn)
      obtain ⟨is0, hi0, hz0, hz1, hz2⟩ := info_parts info_str
      have HI0 := Lib.hid (And.intro hi0 (And.intro hz0 (And.intro hz1 hz2)))
      refine (wpIn_wide (n := 0)).1 (rf_law (gf := 16) (fb := #[.pointer (some ⟨Q1.p, 0, none⟩)]) rfl (enters_of Try.func16 (by kernel_rfl) rfl) hit1 (Below.refl _ _) (fun _ => rfl) KeepB.trans (fun _ _ h => KeepB.turn h)
        (fun pre W' => TwoP w W' Q1 Q2 σ C rb ∧ (∃ v, Blk W' lb 61 #[v] ∧ W'.ownsRow w7.heap.size 9 1 v pre.length (pre.map fun x => Value.string x.1)) ∧ w7.heap.size ≤ W'.heap.size)
        (fun _ _ _ => False) ?hI ?hIx ?h0 ?round ?done ?stop)
      case hI =>
        rintro s X Y ⟨h1, ⟨v, h2, h3⟩, h4⟩ hT
        exact ⟨h1.turn hT T7.out.bl.size, ⟨v, h2.turn hT, own_turn h3 hT⟩, Nat.le_trans h4 hT.size⟩
      case hIx => exact fun _ _ _ _ h _ => h
      case h0 => exact ⟨T7.out, ⟨_, K7.out, World.ownsRow_nil _ _ _ _⟩, Nat.le_refl _⟩
      case round =>
        rintro l pre ⟨s, c4⟩ X K hl hpx ⟨h1, ⟨v, h2, h3⟩, h4⟩ hK
        obtain ⟨hpl, hpa⟩ := next_at hpx
        have HX := Lib.hid (And.intro h1 (And.intro h2 (And.intro h3 h4)))
        have HK2 := Lib.hid hK
        have HPL := Lib.hid hpl
        clear h1 h2 h3 h4 hK hpl hpa hpx hl hit1 hLL hLn
        gi_wp2
        refine HK2.out _ _ (KeepsFrom.refl _ _) (KeepB.refl _ _) ?_
        intro W2 hT
        have X2 := Lib.hid (And.intro (HX.out.1.turn hT T7.out.bl.size) (And.intro (HX.out.2.1.turn hT) (And.intro (own_turn HX.out.2.2.1 hT) (Nat.le_trans HX.out.2.2.2 hT.size))))
        clear hT HK2
        have z1 := X2.out.2.1.rd
        have hob := G.own_base X2.out.2.2.1
        have hol := G.own_lt X2.out.2.2.1
        have n1 : lb ≠ W2.heap.size := fun e => by have := lt_of_block X2.out.2.1; omega
        have hlen : pre.length < 4 := by have := HPL.out; have := HLL.out.2; omega
        gi_wp2_with (gi_at_builtin; refine round_push (w0 := W2) (v := v) rfl _ _ rfl rfl rfl Try.underlying61 HI0.out.1 HI0.out.2.1 HI0.out.2.2.1 HI0.out.2.2.2 (by rfl) (by omega) X2.out.2.2.1 X2.out.2.2.2 [.string s] rfl (by intro u hu; simp at hu; rw [hu]; rfl) (by omega) (by unfold maxLen; omega) ?_; intro gl cl w9 hown9 hf9 hgl9; replace hf9 : Fr (fun k => v.ownBlock = some k) W2 w9 := hf9; have O9 := Lib.hid hown9; have F9 := Lib.hid hf9; have B9 := Lib.hid (X2.out.2.1.fr hf9 (fun e => by have := hob _ e; have := HLB.out.2.2.2; omega)); have z9 := B9.out.rd; have z9w := B9.out.wr; clear hown9 hf9 hgl9)
        rw [setCell_obj B9.out]
        have f10 := fr_one w9 lb (.cells ((#[v] : Array Value).setIfInBounds 0 (.slice (some ⟨gl, 0, none⟩) (pre.length + 1) cl)) 61 (0, 0))
        have hb := HLB.out
        have hap := AP.out
        have h7 := T7.out.bl.size
        refine ⟨(keepsFrom_fr F9.out (fun k o hk _ ho => by obtain ⟨o', h1, h2⟩ := own_cells X2.out.2.2.1 k hk; rw [ho] at h1; cases h1; exact h2)).trans (keepsFrom_fr f10 (fun k o hk hB => by omega)), (KeepB.fr F9.out (fun k hk e => by have := hob k e; have := hb.2.1 k hk; omega)).trans (KeepB.fr f10 (fun k hk e => by have := hb.2.1 k hk; omega)), ?_, ⟨_, setObj_at (lt_of_block B9.out) _, ?_⟩, Nat.le_trans X2.out.2.2.2 (Nat.le_trans F9.out.size f10.size)⟩
        · exact (X2.out.1.fr F9.out (fun k hk e => by have := hob k e; have := hb.2.1 k hk; omega) (fun k hk e => by have := hob k e; have := hb.2.2.1 k hk; omega) (fun e => by have := hob _ e; omega) (fun k hk => by have := hob k hk; omega)).fr f10 (fun k hk e => by have := hb.2.1 k hk; omega) (fun k hk e => by have := hb.2.2.1 k hk; omega) (by omega) (fun k hk => by have := hap.r; omega)
        · rw [List.length_append, List.map_append]
          exact G.own_fr O9.out f10 (fun g hg e => by have := G.own_base O9.out g hg; omega)
      case done =>
        rintro D X hD ⟨h1, ⟨v, h2, h3⟩, h4⟩ hd
        have HX := Lib.hid (And.intro h1 (And.intro h2 (And.intro h3 h4)))
        have HD := Lib.hid (And.intro hD hd)
        clear h1 h2 h3 h4 hD hd hit1 hLL hLn
        go_upto_region 23 with (fail)
        obtain ⟨x8, hx8, k8, l8, s8⟩ := box_new X #[.int .i64 0] 3
        have k8r := k8.rd
        have k8w := k8.wr
        go_upto_region 24 with (fail)
        have e8 : (#[Value.int .i64 0] : Array Value).setIfInBounds 0 (.int .i64 0) = #[.int .i64 0] := rfl
        rw [setCell_obj k8, e8]
        have k9 : Blk (setObj x8 X.heap.size (.cells #[.int .i64 0] 3 (0, 0))) X.heap.size 3 #[.int .i64 0] := setObj_at (lt_of_block k8) _
        have b9 := l8.trans ((fr_one x8 X.heap.size (.cells #[.int .i64 0] 3 (0, 0))).below l8.size (fun k hk => by omega))
        obtain ⟨ib, hib⟩ : ∃ x, x = X.heap.size := ⟨_, rfl⟩
        have HIB := Lib.hid hib
        rw [← hib] at k9 b9 ⊢
        generalize (setObj x8 ib (.cells #[.int .i64 0] 3 (0, 0))) = w9 at k9 b9 ⊢
        rw [hib] at b9
        have HY := Lib.hid (And.intro (HX.out.1.keep b9) (And.intro (HX.out.2.1.keep b9) (And.intro (G.own_below HX.out.2.2.1 b9) (And.intro k9 ((b9.block D (Array.getElem?_eq_some_iff.1 HD.out.2).1).trans HD.out.2)))))
        have HS9 := Lib.hid (show X.heap.size < w9.heap.size from by rw [← hib]; exact lt_of_block k9)
        obtain ⟨Av, cv, rfl, hcv, hcm, hget⟩ := G.own_at HX.out.2.2.1
        have HV := Lib.hid hget
        clear k8 k8r k8w e8 k9 b9 l8 s8 hx8 hib hget
        go_wp2
        have hit2 := plall_any Q2 σ C w9 HY.out.1.p2
        rw [NN.out.2, ← HLL.out.1] at hit2
        refine (wpIn_wide (n := 0)).1 (rf_law (gf := 16) (fb := #[.pointer (some ⟨Q2.p, 0, none⟩)]) rfl (enters_of Try.func16 (by kernel_rfl) rfl) hit2 (Below.refl _ _) (fun _ => rfl) KeepB.trans (fun _ _ h => KeepB.turn h)
          (fun pre W' => TwoP w W' Q1 Q2 σ C rb ∧ Blk W' lb 61 #[.slice Av LL.length cv] ∧ W'.ownsRow w7.heap.size 9 1 (.slice Av LL.length cv) LL.length (LL.map fun x => Value.string x.1) ∧ Blk W' ib 3 #[.int .i64 (pre.length : Int)] ∧ W'.heap[D]? = some (.deferred (some [])))
          (fun _ _ _ => False) ?hI2 ?hIx2 ?h02 ?round2 ?done2 ?stop2)
        case hI2 =>
          rintro s Y Z ⟨h1, h2, h3, h4, h5⟩ hT
          exact ⟨h1.turn hT HY.out.1.bl.size, h2.turn hT, own_turn h3 hT, h4.turn hT, hT.block D _ h5 (.inl (by have := HS9.out; have := (Array.getElem?_eq_some_iff.1 HD.out.2).1; omega))⟩
        case hIx2 => exact fun _ _ _ _ h _ => h
        case h02 => exact HY.out
        case round2 =>
          rintro l pre ⟨s, c4⟩ W K hl hpx ⟨h1, h2, h3, h4, h5⟩ hK
          obtain ⟨hpl, hpa⟩ := next_at hpx
          have HW := Lib.hid (And.intro h1 (And.intro h2 (And.intro h3 (And.intro h4 h5))))
          have HK2 := Lib.hid hK
          have HPL := Lib.hid (And.intro hpl hpa)
          clear h1 h2 h3 h4 h5 hK hpl hpa hpx hl hit2
          gi_wp2
          refine HK2.out _ _ (KeepsFrom.refl _ _) (KeepB.refl _ _) ?_
          intro W2 hT
          have X2 := Lib.hid (And.intro (HW.out.1.turn hT HY.out.1.bl.size) (And.intro (HW.out.2.1.turn hT) (And.intro (own_turn HW.out.2.2.1 hT) (And.intro (HW.out.2.2.2.1.turn hT) (hT.block D _ HW.out.2.2.2.2 (.inl (by have := HS9.out; have := (Array.getElem?_eq_some_iff.1 HD.out.2).1; omega)))))))
          clear hT HK2
          obtain ⟨p, hp⟩ : ∃ p, p = pre.length := ⟨_, rfl⟩
          have z4 := X2.out.2.2.2.1.rd
          rw [← hp] at z4
          have HP := Lib.hid hp
          have hpl : p < LL.length := by rw [hp]; exact HPL.out.1
          obtain ⟨g, rfl, hog, hbg, hlg, hcg⟩ := HV.out (by omega)
          have zg : W2.cell? ⟨g, p, none⟩ = some (.string s) := by
            rw [World.ownsRow.cellAt X2.out.2.2.1 p (by omega), List.getElem?_map, hp, HPL.out.2]; rfl
          have z2 := X2.out.2.1.rd
          have z4w := X2.out.2.2.2.1.wr
          have t1 : (p : Int) < (LL.length : Int) := by omega
          have t2 : (LL.length : Int) ≤ 4 := by have := HLL.out.2; omega
          have t3 : ((p : Int) == (LL.length : Int)) = false := by simp; omega
          have t4 : IntKind.i64.wrap ((p : Int) + 1) = (p : Int) + 1 := by rw [IntKind.wrap_i64]; omega
          clear hp hlg hcg hbg hog
          gi_wp2
          rw [setCell_obj X2.out.2.2.2.1]
          have f10 := fr_one W2 ib (.cells ((#[.int .i64 (pre.length : Int)] : Array Value).setIfInBounds 0 (.int .i64 ((p : Int) + 1))) 3 (0, 0))
          have hb := HLB.out
          have hap := AP.out
          have hib := HIB.out
          have hs9 := HS9.out
          have h74 := HX.out.2.2.2
          refine ⟨keepsFrom_fr f10 (fun k o hk hB => by omega), KeepB.fr f10 (fun k hk e => by have := hb.2.2.1 k hk; omega), ?_, X2.out.2.1.fr f10 (by omega), G.own_fr X2.out.2.2.1 f10 (fun g' hg' e => by have := G.own_lt HX.out.2.2.1 g' hg'; omega), ?_, (f10.block D (Array.getElem?_eq_some_iff.1 X2.out.2.2.2.2).1 (fun e => by have := (Array.getElem?_eq_some_iff.1 HD.out.2).1; omega)).trans X2.out.2.2.2.2⟩
          · exact X2.out.1.fr f10 (fun k hk e => by have := hb.2.1 k hk; omega) (fun k hk e => by have := hb.2.2.1 k hk; omega) (by omega) (fun k hk => by have := hap.r; omega)
          · have : (((pre ++ [(s, c4)]).length : Nat) : Int) = (p : Int) + 1 := by rw [List.length_append, ← HP.out]; simp
            rw [this]
            exact setObj_at (lt_of_block X2.out.2.2.2.1) _
        case done2 =>
          rintro D' W hD' ⟨h1, h2, h3, h4, h5⟩ hd'
          have HW := Lib.hid (And.intro h1 (And.intro h2 (And.intro h4 (And.intro h5 (And.intro hD' hd')))))
          have z2 := h2.rd
          have z4 := h4.rd
          have zr := h1.rb.rd
          have zrw := h1.rb.wr
          have CB := Lib.hid (fun w => plbytes_any 3 (by omega) w)
          have t2 : (LL.length : Int) ≤ 4 := by have := HLL.out.2; omega
          clear h1 h2 h3 h4 h5 hD' hd' hit2 hcv hcm
          go_wp2_with (go_at_call 19; refine (show Calls Try.prog 19 #[.int .i64 3] _ (fun e w' => e = .returned (.int .i64 331) ∧ _ = w') from CB.out _).mono ?_; rintro e wz ⟨rfl, rfl⟩)
          have hs9 := HS9.out
          have h0 := HY.out.1.bl.size
          have h7 := T7.out.bl.size
          have hlt := (Array.getElem?_eq_some_iff.1 HD.out.2).1
          exact bodyM_law2 rfl Try.underlying4 rfl rfl rfl HW.out.1.rb HW.out.2.2.2.1 HW.out.2.2.2.2.2 (by have := HW.out.2.2.2.2.1; omega) HW.out.1.bl AP.out.r (by have := HD.out.1; omega) (by have := HW.out.2.2.2.2.1; omega)
        case stop2 => exact fun _ _ _ _ _ _ h _ => h.elim
      case stop => exact fun _ _ _ _ _ _ h _ => h.elim
end Go.Proofs.Ytojbhmchpglmgaa
