/- The law IndexAlike of layer 5 (index), walked. -/
import Derived.Test.YtebcgiblgkiceaaIxL
import Derived.Test.YtebcgiblgkiceaaRdL
namespace Go.Proofs.Ytebcgiblgkiceaa
set_option linter.unusedSimpArgs false
set_option linter.unusedVariables false
open Go.ChangeShapes Go.WideShapes Go.ChangeAt Go.RowKit
theorem plZ_bd {n : Nat} {o : Option Nat} (h : ∀ i, o = some i → i < n) : -1 ≤ plZ o ∧ plZ o ≤ (n : Int) - 1 := by
  cases o with
  | none => show -1 ≤ (-1 : Int) ∧ (-1 : Int) ≤ (n : Int) - 1; omega
  | some i => have := h i rfl; show -1 ≤ (i : Int) ∧ (i : Int) ≤ (n : Int) - 1; omega
/-- two indexes, each in blocks of its own, that have the same keys; a call's own variable. -/
structure TwoI (W w : World) (N1 N2 : IxN) (σ1 σ2 : KSt) (cb : Nat) (t : TypeId) (C : Array Value) : Prop where
  i1 : IdxAt w N1 σ1
  i2 : IdxAt w N2 σ2
  cb : Blk w cb t C
  bl : Below W.heap.size W w
/-- where they lie. -/
structure ApartI (W : World) (N1 N2 : IxN) (B : Nat) : Prop where
  a : ∀ k, (N1.F k ∨ k = N1.x) → W.heap.size ≤ k ∧ k < B
  b : ∀ k, (N2.F k ∨ k = N2.x) → B ≤ k
theorem TwoI.left {W w w' : World} {N1 N2 : IxN} {σ1 σ2 σ' : KSt} {cb B : Nat} {t : TypeId} {C : Array Value} (h : TwoI W w N1 N2 σ1 σ2 cb t C) (d : ApartI W N1 N2 B) (hc : ∀ k, N2.F k ∨ k = N2.x → k < cb) (hi : IdxAt w' N1 σ') (hf : Fr N1.F w w') (hcB : B ≤ cb) : TwoI W w' N1 N2 σ' σ2 cb t C :=
  ⟨hi, h.i2.fr hf (fun k hk hF => by have := d.b k hk; have := (d.a k (Or.inl hF)).2; omega), h.cb.fr hf (fun hF => by have := (d.a cb (Or.inl hF)).2; omega), h.bl.trans (hf.below h.bl.size (fun k hk => (d.a k (Or.inl hk)).1))⟩
theorem TwoI.right {W w w' : World} {N1 N2 : IxN} {σ1 σ2 σ' : KSt} {cb B : Nat} {t : TypeId} {C : Array Value} (h : TwoI W w N1 N2 σ1 σ2 cb t C) (d : ApartI W N1 N2 B) (hc : ∀ k, N2.F k ∨ k = N2.x → k < cb) (hB : W.heap.size ≤ B) (hi : IdxAt w' N2 σ') (hf : Fr N2.F w w') : TwoI W w' N1 N2 σ1 σ' cb t C :=
  ⟨h.i1.fr hf (fun k hk hF => by have := d.b k (Or.inl hF); have := (d.a k hk).2; omega), hi, h.cb.fr hf (fun hF => by have := hc cb (Or.inl hF); omega), h.bl.trans (hf.below h.bl.size (fun k hk => by have := d.b k (Or.inl hk); omega))⟩
theorem TwoI.keep {W w w' : World} {N1 N2 : IxN} {σ1 σ2 : KSt} {cb : Nat} {t : TypeId} {C : Array Value} (h : TwoI W w N1 N2 σ1 σ2 cb t C) (hb : Below w.heap.size w w') : TwoI W w' N1 N2 σ1 σ2 cb t C :=
  ⟨h.i1.keep hb, h.i2.keep hb, h.cb.keep hb, below_in h.bl hb⟩
/-- what one of the three calls does. -/
def stepI (n k : Nat) (σ : KSt) (s : ByteArray) : KSt × Option Nat := match k with
  | 0 => σ.put n s
  | 1 => σ.del n s
  | _ => (σ, posN n σ.K s)
theorem stepI_bd {w : World} {N : IxN} {σ : KSt} (h : IdxAt w N σ) (k : Nat) (s : ByteArray) : -1 ≤ plZ (stepI N.n k σ s).2 ∧ plZ (stepI N.n k σ s).2 ≤ (N.n : Int) - 1 := by
  apply plZ_bd
  intro i hi
  match k, hi with
  | 0, hi => exact KSt.put_lt w h s hi
  | 1, hi => exact KSt.del_lt N.n s hi
  | _ + 2, hi => exact (posN_some hi).1
theorem ixop0 {N : IxN} {σ : KSt} (s : ByteArray) (hs : s.size ≤ maxLen) (w : World) (h : IdxAt w N σ) :
    Calls Try.prog 11 #[.pointer (some ⟨N.x, 0, none⟩), .string s] w fun e w' => e = .returned (.int .i64 (plZ (stepI N.n 0 σ s).2)) ∧ IdxAt w' N (stepI N.n 0 σ s).1 ∧ Fr N.F w w' := ixput_any s hs w h
theorem ixop1 {N : IxN} {σ : KSt} (s : ByteArray) (hs : s.size ≤ maxLen) (w : World) (h : IdxAt w N σ) :
    Calls Try.prog 13 #[.pointer (some ⟨N.x, 0, none⟩), .string s] w fun e w' => e = .returned (.int .i64 (plZ (stepI N.n 1 σ s).2)) ∧ IdxAt w' N (stepI N.n 1 σ s).1 ∧ Fr N.F w w' := ixremove_any s hs w h
theorem ixop2 {N : IxN} {σ : KSt} (s : ByteArray) (hs : s.size ≤ maxLen) (w : World) (h : IdxAt w N σ) :
    Calls Try.prog 14 #[.pointer (some ⟨N.x, 0, none⟩), .string s] w fun e w' => e = .returned (.int .i64 (plZ (stepI N.n 2 σ s).2)) ∧ IdxAt w' N (stepI N.n 2 σ s).1 ∧ Fr N.F w w' :=
  (ixfind_any s hs w h).mono (fun e w' hh => ⟨hh.1, h.keep hh.2, Fr.of_below hh.2⟩)
theorem mod3 (x : Int) : ∃ r : Int, x.tmod 3 = r ∧ (-2 ≤ r ∧ r ≤ 2) := by
  refine ⟨_, rfl, ?_⟩
  rcases Int.le_total 0 x with h | h
  · rw [Int.tmod_eq_emod_of_nonneg h]; omega
  · have : x = -(-x) := by omega
    rw [this, Int.neg_tmod, Int.tmod_eq_emod_of_nonneg (by omega)]; omega
set_option maxHeartbeats 8000000 in
set_option maxRecDepth 100000 in
theorem alike_law (w : World) (a1 b1 c1 a2 b2 c2 : Nat) (A : Option Addr) (n c : Nat) (L : List (Int × ByteArray)) (h1 : a1 < 18446744073709551616 ∧ b1 < 18446744073709551616 ∧ c1 < 18446744073709551616) (h2 : a2 < 18446744073709551616 ∧ b2 < 18446744073709551616 ∧ c2 < 18446744073709551616) (hr : RdL w A n c 2 encIS L) (hok : ∀ a ∈ L, okIS a) :
    Calls Try.prog 5 #[.agg #[.int .u64 a1, .int .u64 b1, .int .u64 c1, .int .u64 a2, .int .u64 b2, .int .u64 c2], .slice A n c] w fun e w' => e = .returned (.bool true) ∧ Below w.heap.size w w' := by
  have hmx := hr.max
  unfold maxLen at hmx
  have hcp := hr.cap
  by_cases hn : (150 : Int) < (n : Int)
  · clear hr hok h1 h2
    go_enter Try.func5, Try.ntmps5
    go_wp2_with (go_at_call 7; refine (ixfit_any _).mono ?_; rintro e w1 ⟨rfl, bb⟩; have B1 := Lib.hid (below_in ((Below.refl _ _).alloc (Nat.le_refl _) _) bb); clear bb)
    go_ret
    exact ⟨rfl, B1.out⟩
  have hn2 : (n : Int) ≤ 150 := by omega
  have C1 := Lib.hid (fun w => row_any a1 b1 c1 h1.1 h1.2.1 h1.2.2 w)
  have C2 := Lib.hid (fun w => row_any a2 b2 c2 h2.1 h2.2.1 h2.2.2 w)
  have D1 := Lib.hid (d_lt a1 b1 c1)
  have D2 := Lib.hid (d_lt a2 b2 c2)
  obtain ⟨X1, hX1⟩ : ∃ X, X = dX a1 b1 c1 := ⟨_, rfl⟩
  obtain ⟨A1, hA1⟩ : ∃ X, X = dA a1 b1 c1 := ⟨_, rfl⟩
  obtain ⟨B1, hB1⟩ : ∃ X, X = dB a1 b1 c1 := ⟨_, rfl⟩
  obtain ⟨X2, hX2⟩ : ∃ X, X = dX a2 b2 c2 := ⟨_, rfl⟩
  obtain ⟨A2, hA2⟩ : ∃ X, X = dA a2 b2 c2 := ⟨_, rfl⟩
  obtain ⟨B2, hB2⟩ : ∃ X, X = dB a2 b2 c2 := ⟨_, rfl⟩
  rw [← hX1, ← hA1, ← hB1] at C1 D1
  rw [← hX2, ← hA2, ← hB2] at C2 D2
  have HR := Lib.hid hr
  have HO := Lib.hid hok
  clear hr hok h1 h2 hn hX1 hA1 hB1 hX2 hA2 hB2
  go_enter Try.func5, Try.ntmps5
  go_upto_region 1 with (fail)
  obtain ⟨w0, hw0, k0, l0, s0⟩ := box_new w #[.int .u64 (a1 : Int), .int .u64 (b1 : Int), .int .u64 (c1 : Int), .int .u64 (a2 : Int), .int .u64 (b2 : Int), .int .u64 (c2 : Int)] 47
  rw [hw0]
  obtain ⟨db, hdb⟩ : ∃ db, db = w.heap.size := ⟨_, rfl⟩
  rw [← hdb] at k0 ⊢
  have K0 := Lib.hid k0
  have L0 := Lib.hid l0
  clear hw0 k0 l0 s0 hdb
  go_upto_region 5 with (go_at_call 7; refine (ixfit_any _).mono ?_; rintro e w1 ⟨rfl, bb⟩; have K1 := Lib.hid (K0.out.keep bb); have L1 := Lib.hid (below_in L0.out bb); clear bb)
  have S0 := Lib.hid (fun (wx : World) (hx : Below w1.heap.size w1 wx) => (K1.out.keep hx).rd)
  have y0 : Below w1.heap.size w1 w1.drew := below_draws (Below.refl _ _) 1
  have Y0 := Lib.hid y0
  refine wp_region_held_drew (S := fun w' => ∀ j, w'.cell? ⟨db, j, none⟩ = (#[.int .u64 (a1 : Int), .int .u64 (b1 : Int), .int .u64 (c1 : Int), .int .u64 (a2 : Int), .int .u64 (b2 : Int), .int .u64 (c2 : Int)] : Array Value)[j]?) (by kernel_rfl) (S0.out _ y0) (fun hHeld => ?_)
  clear y0
  refine wpAnyH_take (i := 1) (oi := ?_) (v := ?_) ?_ ?_ ?_ ?_ ?_ ?_ ?_ ?_
  rotate_left 2
  · simp only [List.getElem?_toArray, List.getElem?_cons_succ, List.getElem?_cons_zero]; rfl
  · kernel_rfl
  · kernel_rfl
  · kernel_rfl
  · exact fun _ _ _ h => h
  · refine Or.inl ⟨by rfl, ?_⟩
    intro w' hSw
    (try dsimp only at hSw)
    go_simp
    all_goals (with_reducible rfl)
  · assumption
  try simp only [Act.put, List.setIfInBounds_toArray, List.set_cons_zero, List.set_cons_succ]
  refine wpAnyH_take (i := 2) (oi := ?_) (v := ?_) ?_ ?_ ?_ ?_ ?_ ?_ ?_ ?_
  rotate_left 2
  · simp only [List.getElem?_toArray, List.getElem?_cons_succ, List.getElem?_cons_zero]; rfl
  · kernel_rfl
  · kernel_rfl
  · kernel_rfl
  · exact fun _ _ _ h => h
  · refine Or.inl ⟨by rfl, ?_⟩
    intro w' hSw
    (try dsimp only at hSw)
    go_simp
    all_goals (with_reducible rfl)
  · assumption
  try simp only [Act.put, List.setIfInBounds_toArray, List.set_cons_zero, List.set_cons_succ]
  refine wpAnyH_take (i := 6) (oi := ?_) (v := ?_) ?_ ?_ ?_ ?_ ?_ ?_ ?_ ?_
  rotate_left 2
  · simp only [List.getElem?_toArray, List.getElem?_cons_succ, List.getElem?_cons_zero]; rfl
  · kernel_rfl
  · kernel_rfl
  · kernel_rfl
  · exact fun _ _ _ h => h
  · refine Or.inl ⟨by rfl, ?_⟩
    intro w' hSw
    (try dsimp only at hSw)
    go_simp
    all_goals (with_reducible rfl)
  · assumption
  try simp only [Act.put, List.setIfInBounds_toArray, List.set_cons_zero, List.set_cons_succ]
  refine wpAnyH_take (i := 7) (oi := ?_) (v := ?_) ?_ ?_ ?_ ?_ ?_ ?_ ?_ ?_
  rotate_left 2
  · simp only [List.getElem?_toArray, List.getElem?_cons_succ, List.getElem?_cons_zero]; rfl
  · kernel_rfl
  · kernel_rfl
  · kernel_rfl
  · exact fun _ _ _ h => h
  · refine Or.inl ⟨by rfl, ?_⟩
    intro w' hSw
    (try dsimp only at hSw)
    go_simp
    all_goals (with_reducible rfl)
  · assumption
  try simp only [Act.put, List.setIfInBounds_toArray, List.set_cons_zero, List.set_cons_succ]
  refine wpAnyH_ready (rs := [0]) (by kernel_rfl) (by simp) ?_
  refine AllReadyH.cons (o := ?_) ?_ ?_ ?_
  rotate_left 1
  · simp only [List.getElem?_toArray, List.getElem?_cons_succ, List.getElem?_cons_zero]; rfl
  rotate_left 1
  · exact AllReadyH.nil
  intro K hK
  go_simp
  (refine (show Calls Try.prog 8 #[.int .i64 6] _ _ from new_yes 6 (by omega) _).mono ?_); rintro e w2 ⟨sb1, sgb1, sgs1, sgf1, rfl, hk, bk, hb⟩; have KK1 := Lib.hid hk; have Z2 := Lib.hid bk.size; have Y1 := Lib.hid (below_in Y0.out bk); have HB1 := Lib.hid hb; clear hk bk hb
  refine hK.out _ _ (S0.out _ Y1.out) (fun hHeld => ?_)
  clear hK K
  try simp only [Act.put, List.setIfInBounds_toArray, List.set_cons_zero, List.set_cons_succ]
  refine wpAnyH_ready (rs := [3]) (by kernel_rfl) (by simp) ?_
  refine AllReadyH.cons (o := ?_) ?_ ?_ ?_
  rotate_left 1
  · simp only [List.getElem?_toArray, List.getElem?_cons_succ, List.getElem?_cons_zero]; rfl
  rotate_left 1
  · exact AllReadyH.nil
  intro K hK
  go_simp
  ((with_reducible refine (C1.out _).mono ?_); rintro e w3 ⟨rfl, bk⟩; have Z3 := Lib.hid bk.size; have Y2 := Lib.hid (below_in Y1.out bk); have KK2 := Lib.hid (KK1.out.keep bk); clear bk)
  refine hK.out _ _ (S0.out _ Y2.out) (fun hHeld => ?_)
  clear hK K
  try simp only [Act.put, List.setIfInBounds_toArray, List.set_cons_zero, List.set_cons_succ]
  refine wpAnyH_ready (rs := [4]) (by kernel_rfl) (by simp) ?_
  refine AllReadyH.cons (o := ?_) ?_ ?_ ?_
  rotate_left 1
  · simp only [List.getElem?_toArray, List.getElem?_cons_succ, List.getElem?_cons_zero]; rfl
  rotate_left 1
  · exact AllReadyH.nil
  intro K hK
  go_simp
  ((with_reducible refine (ixnew_st X1 A1 B1 D1.out.1 D1.out.2.1 D1.out.2.2 sb1 sgb1 sgs1 sgf1 6 _ KK2.out).mono ?_); rintro e w4 ⟨x1, g1, rfl, hi, bk, hb⟩; have I1 := Lib.hid hi; have HX1 := Lib.hid hb; have Z4 := Lib.hid bk.size; have Y3 := Lib.hid (below_in Y2.out bk); clear hi bk hb)
  refine hK.out _ _ (S0.out _ Y3.out) (fun hHeld => ?_)
  clear hK K
  try simp only [Act.put, List.setIfInBounds_toArray, List.set_cons_zero, List.set_cons_succ]
  refine wpAnyH_ready (rs := [5]) (by kernel_rfl) (by simp) ?_
  refine AllReadyH.cons (o := ?_) ?_ ?_ ?_
  rotate_left 1
  · simp only [List.getElem?_toArray, List.getElem?_cons_succ, List.getElem?_cons_zero]; rfl
  rotate_left 1
  · exact AllReadyH.nil
  intro K hK
  go_simp
  (refine (show Calls Try.prog 8 #[.int .i64 6] _ _ from new_yes 6 (by omega) _).mono ?_); rintro e w5 ⟨sb2, sgb2, sgs2, sgf2, rfl, hk, bk, hb⟩; have KK3 := Lib.hid hk; have Z5 := Lib.hid bk.size; have Y4 := Lib.hid (below_in Y3.out bk); have HB2 := Lib.hid hb; have I2 := Lib.hid (I1.out.keep bk); clear hk bk hb
  refine hK.out _ _ (S0.out _ Y4.out) (fun hHeld => ?_)
  clear hK K
  try simp only [Act.put, List.setIfInBounds_toArray, List.set_cons_zero, List.set_cons_succ]
  refine wpAnyH_ready (rs := [8]) (by kernel_rfl) (by simp) ?_
  refine AllReadyH.cons (o := ?_) ?_ ?_ ?_
  rotate_left 1
  · simp only [List.getElem?_toArray, List.getElem?_cons_succ, List.getElem?_cons_zero]; rfl
  rotate_left 1
  · exact AllReadyH.nil
  intro K hK
  go_simp
  ((with_reducible refine (C2.out _).mono ?_); rintro e w6 ⟨rfl, bk⟩; have Z6 := Lib.hid bk.size; have Y5 := Lib.hid (below_in Y4.out bk); have KK4 := Lib.hid (KK3.out.keep bk); have I3 := Lib.hid (I2.out.keep bk); clear bk)
  refine hK.out _ _ (S0.out _ Y5.out) (fun hHeld => ?_)
  clear hK K
  try simp only [Act.put, List.setIfInBounds_toArray, List.set_cons_zero, List.set_cons_succ]
  refine wpAnyH_ready (rs := [9]) (by kernel_rfl) (by simp) ?_
  refine AllReadyH.cons (o := ?_) ?_ ?_ ?_
  rotate_left 1
  · simp only [List.getElem?_toArray, List.getElem?_cons_succ, List.getElem?_cons_zero]; rfl
  rotate_left 1
  · exact AllReadyH.nil
  intro K hK
  go_simp
  ((with_reducible refine (ixnew_st X2 A2 B2 D2.out.1 D2.out.2.1 D2.out.2.2 sb2 sgb2 sgs2 sgf2 6 _ KK4.out).mono ?_); rintro e w7 ⟨x2, g2, rfl, hi, bk, hb⟩; have J1 := Lib.hid hi; have HX2 := Lib.hid hb; have Y6 := Lib.hid (below_in Y5.out bk); have I4 := Lib.hid (I3.out.keep bk); clear hi bk hb)
  refine hK.out _ _ (S0.out _ Y6.out) (fun hHeld => ?_)
  clear hK K
  try simp only [Act.put, List.setIfInBounds_toArray, List.set_cons_zero, List.set_cons_succ]
  refine wpAnyH_take (i := 10) (oi := ?_) (v := ?_) ?_ ?_ ?_ ?_ ?_ ?_ ?_ ?_
  rotate_left 2
  · simp only [List.getElem?_toArray, List.getElem?_cons_succ, List.getElem?_cons_zero]; rfl
  · kernel_rfl
  · kernel_rfl
  · kernel_rfl
  · exact fun _ _ _ h => h
  · refine Or.inl ⟨by rfl, ?_⟩
    intro w' hSw
    (try dsimp only at hSw)
    go_simp
    all_goals (with_reducible rfl)
  · assumption
  try simp only [Act.put, List.setIfInBounds_toArray, List.set_cons_zero, List.set_cons_succ]
  refine wpAnyH_take (i := 11) (oi := ?_) (v := ?_) ?_ ?_ ?_ ?_ ?_ ?_ ?_ ?_
  rotate_left 2
  · simp only [List.getElem?_toArray, List.getElem?_cons_succ, List.getElem?_cons_zero]; rfl
  · kernel_rfl
  · kernel_rfl
  · kernel_rfl
  · exact fun _ _ _ h => h
  · refine Or.inl ⟨by rfl, ?_⟩
    intro w' hSw
    (try dsimp only at hSw)
    go_simp
    all_goals (with_reducible rfl)
  · assumption
  try simp only [Act.put, List.setIfInBounds_toArray, List.set_cons_zero, List.set_cons_succ]
  refine wpAnyH_done (by kernel_rfl) ?_ _
  clear hHeld
  obtain ⟨N1, hN1⟩ : ∃ N : IxN, N = ⟨x1, sb1, X1, A1, B1, g1, sgb1, sgs1, sgf1, 6⟩ := ⟨_, rfl⟩
  obtain ⟨N2, hN2⟩ : ∃ N : IxN, N = ⟨x2, sb2, X2, A2, B2, g2, sgb2, sgs2, sgf2, 6⟩ := ⟨_, rfl⟩
  have I0 := I1.out
  have I5 := I4.out
  have J5 := J1.out
  rw [← hN1] at I0 I5
  rw [← hN2] at J5
  have hl1 := I0.lt
  have hl2 := J5.lt
  have y1 := HB1.out
  have y2 := HX1.out
  have y3 := HB2.out
  have y4 := HX2.out
  have z1 := L1.out.size
  have z2 := Z2.out
  have z3 := Z3.out
  have z4 := Z4.out
  have z5 := Z5.out
  have z6 := Z6.out
  have AP := Lib.hid (show ApartI w N1 N2 w4.heap.size from ⟨fun k hk => ⟨by
    rw [hN1] at hk
    have zd : w1.drew.heap.size = w1.heap.size := rfl
    rcases hk with (hk | hk | hk | hk | hk) | hk <;> simp only at hk <;> omega, hl1 k hk⟩, fun k hk => by
    rw [hN2] at hk
    rcases hk with (hk | hk | hk | hk | hk) | hk <;> simp only at hk <;> omega⟩)
  have W0 := Lib.hid (show Below w.heap.size w w7 from L1.out.trans (Y6.out.mono z1))
  have JL := Lib.hid hl2
  have T7 := Lib.hid (And.intro I5 (And.intro J5 (show w.heap.size ≤ w4.heap.size by have zd : w1.drew.heap.size = w1.heap.size := rfl; omega)))
  have T8 := Lib.hid (show w4.heap.size ≤ w7.heap.size from by have := y4.1; have := hl2 x2 (Or.inr (by rw [hN2])); omega)
  have e1 : x1 = N1.x := by rw [hN1]
  have e2 : x2 = N2.x := by rw [hN2]
  have n1 : N1.n = 6 := by rw [hN1]
  have n2 : N2.n = 6 := by rw [hN2]
  have NN := Lib.hid (And.intro n1 n2)
  have RD7 := Lib.hid (HR.out.below W0.out)
  have HLEN := Lib.hid HR.out.len
  clear hN1 hN2 I0 I5 J5 hl1 hl2 y1 y2 y3 y4 z1 z2 z3 z4 z5 z6 n1 n2
  clear S0 K0 K1 L0 L1 KK1 KK2 KK3 KK4 I1 I2 I3 I4 J1 HX1 HX2 HB1 HB2 Z2 Z3 Z4 Z5 Z6 Y0 Y1 Y2 Y3 Y4 Y5 Y6 C1 C2 D1 D2
  subst e1 e2
  go_wp2
  go_loopg [28] n (fun k si wr => ∃ (i : Nat) (σ : KSt), si = .int .i64 (i : Int) ∧ i ≤ n ∧ Hid (k = n - i) ∧ Hid (IdxAt wr N1 σ) ∧ Hid (IdxAt wr N2 σ) ∧ Hid (Below w.heap.size w wr) ∧ Hid (w7.heap.size ≤ wr.heap.size))
  case atStart => exact ⟨0, kNew 6, rfl, by omega, Lib.hid rfl, Lib.hid T7.out.1, Lib.hid T7.out.2.1, W0, Lib.hid (Nat.le_refl _)⟩
  case round =>
    obtain ⟨i, σ, rfl, hi, HK, R1, R2, RB, RZ⟩ := hrel
    by_cases hin : i < n
    · obtain ⟨rb, off, rfl, hlt, hc⟩ := HR.out.at_ (by omega)
      have hil : i < L.length := by rw [HLEN.out]; exact hin
      obtain ⟨⟨kd, ky⟩, ha⟩ : ∃ a, L[i]? = some a := ⟨_, List.getElem?_eq_getElem hil⟩
      have hoa := HO.out _ (List.mem_of_getElem? ha)
      have kr0 : wr.cell? ⟨rb, off + i * 2, none⟩ = some (.int .i64 kd) := by rw [RB.out.cell (p := ⟨rb, off + i * 2, none⟩) hlt]; exact hc i _ ha 0 (by omega)
      have kr1 : wr.cell? ⟨rb, off + i * 2 + 1, none⟩ = some (.string ky) := by rw [RB.out.cell (p := ⟨rb, off + i * 2 + 1, none⟩) hlt]; exact hc i _ ha 1 (by omega)
      have hky := hoa.2
      have hkd := hoa.1
      unfold maxLen at hky
      clear hc ha hoa hil
      have t1 : (i : Int) < (n : Int) := by omega
      have HIN := Lib.hid hin
      go_upto_region 9 with (fail)
      obtain ⟨w8, hw8, k8, l8, s8⟩ := box_new wr #[.int .i64 kd, .string ky] 35
      rw [hw8]
      obtain ⟨cb, hcb⟩ : ∃ cb, cb = wr.heap.size := ⟨_, rfl⟩
      rw [← hcb] at k8 ⊢
      have TT := Lib.hid (show TwoI w w8 N1 N2 σ σ cb 35 #[.int .i64 kd, .string ky] from ⟨R1.out.keep l8, R2.out.keep l8, k8, below_in RB.out l8⟩)
      have HCB := Lib.hid (show ∀ k, N2.F k ∨ k = N2.x → k < cb from fun k hk => by have := JL.out k hk; have := RZ.out; omega)
      have HCB2 := Lib.hid (show w4.heap.size ≤ cb from by have := T8.out; have := RZ.out; omega)
      have HCB3 := Lib.hid (show w7.heap.size ≤ cb from by have := RZ.out; omega)
      have KY := Lib.hid (show ky.size ≤ maxLen from hky)
      have k8 := k8.rd
      obtain ⟨r3, hr3, hb3⟩ := mod3 kd
      have hky' : (ky.size : Int) ≤ 9223372036854775807 := by have : ky.size ≤ 2 ^ 63 - 1 := hky; omega
      have t2 : (off : Int) + 0 = off := by omega
      clear hw8 l8 s8 hcb kr0 kr1 hky hkd t1 hin t2
      by_cases h200 : (200 : Int) < (ky.size : Int)
      · go_wp2
        go_ret
        exact ⟨rfl, TT.out.bl⟩
      · have hz : ∃ z : Int, (r3 + 3) % 3 = z ∧ (z = 0 ∨ z = 1 ∨ z = 2) := ⟨_, rfl, by omega⟩
        obtain ⟨z, hz, hz3⟩ := hz
        rcases hz3 with rfl | rfl | rfl
        · as_aux_lemma =>
          have BD := Lib.hid (stepI_bd TT.out.i1 0 ky)
          have CX := Lib.hid (fun (wx : World) (h : TwoI w wx N1 N2 σ σ cb 35 #[.int .i64 kd, .string ky]) => show Calls Try.prog 11 #[.pointer (some ⟨N1.x, 0, none⟩), .string ky] wx (fun e w' => e = .returned (.int .i64 (plZ (stepI 6 0 σ ky).2)) ∧ TwoI w w' N1 N2 (stepI 6 0 σ ky).1 σ cb 35 #[.int .i64 kd, .string ky]) from by
            have := ixop0 ky KY.out wx h.i1
            rw [NN.out.1] at this
            exact this.mono (fun e w' hh => ⟨hh.1, h.left AP.out HCB.out hh.2.1 hh.2.2 HCB2.out⟩))
          have CY := Lib.hid (fun (wx : World) (h : TwoI w wx N1 N2 (stepI 6 0 σ ky).1 σ cb 35 #[.int .i64 kd, .string ky]) => show Calls Try.prog 11 #[.pointer (some ⟨N2.x, 0, none⟩), .string ky] wx (fun e w' => e = .returned (.int .i64 (plZ (stepI 6 0 σ ky).2)) ∧ TwoI w w' N1 N2 (stepI 6 0 σ ky).1 (stepI 6 0 σ ky).1 cb 35 #[.int .i64 kd, .string ky]) from by
            have := ixop0 ky KY.out wx h.i2
            rw [NN.out.2] at this
            exact this.mono (fun e w' hh => ⟨hh.1, h.right AP.out HCB.out T7.out.2.2 hh.2.1 hh.2.2⟩))
          rw [NN.out.1] at BD
          obtain ⟨v, hv⟩ : ∃ v, v = plZ (stepI 6 0 σ ky).2 := ⟨_, rfl⟩
          rw [← hv] at CX CY BD
          have bd := BD.out
          have u1 : decide (v < -1) = false := by rw [decide_eq_false_iff_not]; omega
          have u2 : decide (5 < v) = false := by rw [decide_eq_false_iff_not]; omega
          have u3 : (v != v) = false := by simp
          clear hv bd
          go_upto_region 15 with (fail)
          clear hz k8
          have T0 := Lib.hid (TT.out.keep (show Below w8.heap.size w8 w8.drew from below_draws (Below.refl _ _) 1))
          have k8 : ∀ j, w8.drew.cell? ⟨cb, j, none⟩ = (#[.int .i64 kd, .string ky] : Array Value)[j]? := T0.out.cb.rd
          go_region_held3 (fun w' => ∀ j, w'.cell? ⟨cb, j, none⟩ = (#[.int .i64 kd, .string ky] : Array Value)[j]?) (assumption)
            ((go_at_call 11; first | ((with_reducible refine (CX.out _ T0.out).mono ?_); rintro e wa ⟨rfl, ta⟩; have T1 := Lib.hid ta; have z1 := ta.cb.rd; clear ta) | ((with_reducible refine (CY.out _ T1.out).mono ?_); rintro e wb ⟨rfl, ta⟩; have T2 := Lib.hid ta; have z2 := ta.cb.rd; clear ta)))
          clear k8 z1 z2 CX CY
          go_wp2
          go_roundg (n - (i + 1))
          case measure => have := HK.out; have := HIN.out; omega
          case rel => exact ⟨i + 1, (stepI 6 0 σ ky).1, by go_num, HIN.out, Lib.hid rfl, Lib.hid T2.out.i1, Lib.hid T2.out.i2, Lib.hid T2.out.bl, Lib.hid (by have := lt_of_block T2.out.cb; have := HCB3.out; omega)⟩
        · as_aux_lemma =>
          have BD := Lib.hid (stepI_bd TT.out.i1 1 ky)
          have CX := Lib.hid (fun (wx : World) (h : TwoI w wx N1 N2 σ σ cb 35 #[.int .i64 kd, .string ky]) => show Calls Try.prog 13 #[.pointer (some ⟨N1.x, 0, none⟩), .string ky] wx (fun e w' => e = .returned (.int .i64 (plZ (stepI 6 1 σ ky).2)) ∧ TwoI w w' N1 N2 (stepI 6 1 σ ky).1 σ cb 35 #[.int .i64 kd, .string ky]) from by
            have := ixop1 ky KY.out wx h.i1
            rw [NN.out.1] at this
            exact this.mono (fun e w' hh => ⟨hh.1, h.left AP.out HCB.out hh.2.1 hh.2.2 HCB2.out⟩))
          have CY := Lib.hid (fun (wx : World) (h : TwoI w wx N1 N2 (stepI 6 1 σ ky).1 σ cb 35 #[.int .i64 kd, .string ky]) => show Calls Try.prog 13 #[.pointer (some ⟨N2.x, 0, none⟩), .string ky] wx (fun e w' => e = .returned (.int .i64 (plZ (stepI 6 1 σ ky).2)) ∧ TwoI w w' N1 N2 (stepI 6 1 σ ky).1 (stepI 6 1 σ ky).1 cb 35 #[.int .i64 kd, .string ky]) from by
            have := ixop1 ky KY.out wx h.i2
            rw [NN.out.2] at this
            exact this.mono (fun e w' hh => ⟨hh.1, h.right AP.out HCB.out T7.out.2.2 hh.2.1 hh.2.2⟩))
          rw [NN.out.1] at BD
          obtain ⟨v, hv⟩ : ∃ v, v = plZ (stepI 6 1 σ ky).2 := ⟨_, rfl⟩
          rw [← hv] at CX CY BD
          have bd := BD.out
          have u1 : decide (v < -1) = false := by rw [decide_eq_false_iff_not]; omega
          have u2 : decide (5 < v) = false := by rw [decide_eq_false_iff_not]; omega
          have u3 : (v != v) = false := by simp
          clear hv bd
          go_upto_region 17 with (fail)
          clear hz k8
          have T0 := Lib.hid (TT.out.keep (show Below w8.heap.size w8 w8.drew from below_draws (Below.refl _ _) 1))
          have k8 : ∀ j, w8.drew.cell? ⟨cb, j, none⟩ = (#[.int .i64 kd, .string ky] : Array Value)[j]? := T0.out.cb.rd
          go_region_held3 (fun w' => ∀ j, w'.cell? ⟨cb, j, none⟩ = (#[.int .i64 kd, .string ky] : Array Value)[j]?) (assumption)
            ((go_at_call 13; first | ((with_reducible refine (CX.out _ T0.out).mono ?_); rintro e wa ⟨rfl, ta⟩; have T1 := Lib.hid ta; have z1 := ta.cb.rd; clear ta) | ((with_reducible refine (CY.out _ T1.out).mono ?_); rintro e wb ⟨rfl, ta⟩; have T2 := Lib.hid ta; have z2 := ta.cb.rd; clear ta)))
          clear k8 z1 z2 CX CY
          go_wp2
          go_roundg (n - (i + 1))
          case measure => have := HK.out; have := HIN.out; omega
          case rel => exact ⟨i + 1, (stepI 6 1 σ ky).1, by go_num, HIN.out, Lib.hid rfl, Lib.hid T2.out.i1, Lib.hid T2.out.i2, Lib.hid T2.out.bl, Lib.hid (by have := lt_of_block T2.out.cb; have := HCB3.out; omega)⟩
        · as_aux_lemma =>
          have BD := Lib.hid (stepI_bd TT.out.i1 2 ky)
          have CX := Lib.hid (fun (wx : World) (h : TwoI w wx N1 N2 σ σ cb 35 #[.int .i64 kd, .string ky]) => show Calls Try.prog 14 #[.pointer (some ⟨N1.x, 0, none⟩), .string ky] wx (fun e w' => e = .returned (.int .i64 (plZ (stepI 6 2 σ ky).2)) ∧ TwoI w w' N1 N2 (stepI 6 2 σ ky).1 σ cb 35 #[.int .i64 kd, .string ky]) from by
            have := ixop2 ky KY.out wx h.i1
            rw [NN.out.1] at this
            exact this.mono (fun e w' hh => ⟨hh.1, h.left AP.out HCB.out hh.2.1 hh.2.2 HCB2.out⟩))
          have CY := Lib.hid (fun (wx : World) (h : TwoI w wx N1 N2 (stepI 6 2 σ ky).1 σ cb 35 #[.int .i64 kd, .string ky]) => show Calls Try.prog 14 #[.pointer (some ⟨N2.x, 0, none⟩), .string ky] wx (fun e w' => e = .returned (.int .i64 (plZ (stepI 6 2 σ ky).2)) ∧ TwoI w w' N1 N2 (stepI 6 2 σ ky).1 (stepI 6 2 σ ky).1 cb 35 #[.int .i64 kd, .string ky]) from by
            have := ixop2 ky KY.out wx h.i2
            rw [NN.out.2] at this
            exact this.mono (fun e w' hh => ⟨hh.1, h.right AP.out HCB.out T7.out.2.2 hh.2.1 hh.2.2⟩))
          rw [NN.out.1] at BD
          obtain ⟨v, hv⟩ : ∃ v, v = plZ (stepI 6 2 σ ky).2 := ⟨_, rfl⟩
          rw [← hv] at CX CY BD
          have bd := BD.out
          have u1 : decide (v < -1) = false := by rw [decide_eq_false_iff_not]; omega
          have u2 : decide (5 < v) = false := by rw [decide_eq_false_iff_not]; omega
          have u3 : (v != v) = false := by simp
          clear hv bd
          go_upto_region 13 with (fail)
          clear hz k8
          have T0 := Lib.hid (TT.out.keep (show Below w8.heap.size w8 w8.drew from below_draws (Below.refl _ _) 1))
          have k8 : ∀ j, w8.drew.cell? ⟨cb, j, none⟩ = (#[.int .i64 kd, .string ky] : Array Value)[j]? := T0.out.cb.rd
          go_region_held3 (fun w' => ∀ j, w'.cell? ⟨cb, j, none⟩ = (#[.int .i64 kd, .string ky] : Array Value)[j]?) (assumption)
            ((go_at_call 14; first | ((with_reducible refine (CX.out _ T0.out).mono ?_); rintro e wa ⟨rfl, ta⟩; have T1 := Lib.hid ta; have z1 := ta.cb.rd; clear ta) | ((with_reducible refine (CY.out _ T1.out).mono ?_); rintro e wb ⟨rfl, ta⟩; have T2 := Lib.hid ta; have z2 := ta.cb.rd; clear ta)))
          clear k8 z1 z2 CX CY
          go_wp2
          go_roundg (n - (i + 1))
          case measure => have := HK.out; have := HIN.out; omega
          case rel => exact ⟨i + 1, (stepI 6 2 σ ky).1, by go_num, HIN.out, Lib.hid rfl, Lib.hid T2.out.i1, Lib.hid T2.out.i2, Lib.hid T2.out.bl, Lib.hid (by have := lt_of_block T2.out.cb; have := HCB3.out; omega)⟩
    · have hie : i = n := by omega
      subst hie
      go_wp2
      go_ret
      exact ⟨rfl, RB.out⟩
end Go.Proofs.Ytebcgiblgkiceaa
