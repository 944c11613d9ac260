import Derived.Test.YtbgcpljekcagiaaGreatZLm
import Derived.Test.YtbgcpljekcagiaaGreatZSlL
import Derived.Test.YtbgcpljekcagiaaGreatZSlN
import Derived.Test.YtbgcpljekcagiaaGreatZLiftS
import Derived.Laws.StructEq
import Derived.WalkKit
import Derived.Test.YtbgcpljekcagiaaGreatMap
/- The contracts of layer 12 (limiter): New. -/
namespace Go.Proofs.YtbgcpljekcagiaaGreat
set_option linter.unusedSimpArgs false
set_option linter.unusedVariables false
set_option maxRecDepth 100000
open Go.ChangeShapes Go.WideShapes Go.ChangeAt Go.RowKit
open Ar (inR)
/-- a limiter as it is made. -/
def lmZ (Ce : Nat) : LmS := ⟨kNew Ce, List.replicate Ce (0, 0, 0, 0), ⟨0, fun _ => 0, fun _ _ _ => 0⟩, [], 0, 0, 0, 0⟩
/-- what a limiter has of its rule. -/
structure LmP (N : LmN) (L Wd Bu : Int) (Sl s k W Ce Tr : Nat) (sm : Bool) (X A B : Nat → Nat) : Prop where
  pU : N.U = unitZ Wd (L + 1 - Bu)
  pW : N.W = Wd
  pB : N.B = Bu
  pL : N.L = L
  pC : N.Q.N.n = Ce
  pT : N.S.N.n = Tr
  pn : N.R.n = Sl + 1
  ps : N.R.s = s
  pRL : N.R.L = L
  psm : N.R.sm = sm
  pk : N.R.k = k
  pRW : N.R.W = W
  pX : N.R.X = X
  pA : N.R.A = A
  pRB : N.R.B = B
set_option maxHeartbeats 4000000 in
theorem lmnew_any (L Wd Bu : Int) (Sl s k W Ce Tr : Nat) (sm : Bool) (hL : 1 ≤ L ∧ L ≤ 9223372036854775000) (hBu : 1 ≤ Bu ∧ Bu ≤ L) (hWd : 0 ≤ Wd ∧ Wd ≤ 9223372036854775807) (hSl : 1 ≤ Sl ∧ Sl ≤ 64) (hs : Wd / (Sl : Int) = (s : Int) ∧ 1 ≤ s) (hk : 1 ≤ k ∧ k ≤ 8) (hW : 1 ≤ W ∧ (Sl + 1) * (8 * (k * W)) ≤ 2147483647)
    (hCe : 1 ≤ Ce ∧ Ce ≤ 1024) (hTr : 1 ≤ Tr ∧ Tr ≤ 64) (A0 : Option Addr) (n0 c0 : Nat) (zs : List Int) (w : World) (hr : RdI w .u64 A0 n0 c0 zs) :
    Calls Tryz.prog 18 #[rlV L Wd Bu Sl Ce k W Tr sm, .slice A0 n0 c0] w fun e w' => ∃ N : LmN, e = .returned (.pointer (some ⟨N.l, 0, none⟩)) ∧ LmAt w' N (lmZ Ce) ∧ LmP N L Wd Bu Sl s k W Ce Tr sm (rX zs) (rA zs) (rB zs) ∧ (∀ b, N.all b → w.heap.size ≤ b) ∧ Below w.heap.size w w' := by
  obtain ⟨w1, hw1, k1, l1, s1⟩ := box_new w (rlC L Wd Bu Sl Ce k W Tr sm) 29
  obtain ⟨rb, hrb⟩ : ∃ rb, rb = w.heap.size := ⟨_, rfl⟩
  rw [← hrb] at k1
  have kr := k1.rd
  have K1 := Lib.hid (And.intro k1 l1)
  have HRB := Lib.hid hrb
  obtain ⟨m, hm⟩ : ∃ m, m = k + 1 := ⟨_, rfl⟩
  have CH := Lib.hid (fun wx (hb : Below w.heap.size w wx) => rows_any wx A0 n0 c0 zs (hr.below hb) m (by omega))
  have CO := Lib.hid (fun wx => of_any L Wd Bu (Sl : Int) (Ce : Int) (k : Int) (W : Int) (Tr : Int) sm (by unfold inR; omega) (by unfold inR; omega) (by unfold inR; omega) wx)
  have e1 : min (k : Int) 8 = (k : Int) := by omega
  have e2 : max 0 (k : Int) = (k : Int) := by omega
  have e3 : IntKind.i64.wrap ((k : Int) + 1) = (m : Int) := by rw [IntKind.wrap_i64]; omega
  have e4 : (k : Int) < (m : Int) := by omega
  have e5 : (k : Int) ≤ (m : Int) := by omega
  have e6 : (0 : Int) ≤ (k : Int) := by omega
  have HM := Lib.hid hm
  obtain ⟨u, hu⟩ : ∃ u, u = unitZ Wd (L + 1 - Bu) := ⟨_, rfl⟩
  rw [← hu] at CO
  have HU := Lib.hid hu
  obtain ⟨Xk, hXk⟩ : ∃ x, x = rX zs k := ⟨_, rfl⟩
  obtain ⟨Ak, hAk⟩ : ∃ x, x = rA zs k := ⟨_, rfl⟩
  obtain ⟨Bk, hBk⟩ : ∃ x, x = rB zs k := ⟨_, rfl⟩
  have hlt := rows_lt zs m
  have hltk := hlt k (by omega)
  rw [← hXk, ← hAk, ← hBk] at hltk
  have HX := Lib.hid (And.intro hXk (And.intro hAk hBk))
  have CP := Lib.hid (fun wx => plnew_any Xk Ak Bk hltk.1 hltk.2.1 hltk.2.2 Ce hCe.1 hCe.2 wx)
  have CS := Lib.hid (fun wx => smnew_any Xk Ak Bk hltk.1 hltk.2.1 hltk.2.2 Tr hTr.1 hTr.2 wx)
  have CR := Lib.hid (fun b0 wx (hx : RowsGe wx b0 k (rX zs) (rA zs) (rB zs)) => show Calls Tryz.prog 39 #[rlV L Wd Bu Sl Ce k W Tr sm, .slice (some ⟨b0, 0, none⟩) k m] wx _ from by rw [hm]; exact rnew_cap L Wd Bu Ce k Tr Sl s k W sm (by unfold inR; omega) hWd hSl hs hk hW b0 (rX zs) (rA zs) (rB zs) wx hx (fun j hj => hlt j (by omega)))
  clear k1 l1 s1 hr hrb hm hu hXk hAk hBk hlt hltk hs hW hL hBu hWd hSl hk hCe hTr
  go_enter Tryz.func18, Tryz.ntmps18
  go_upto_region 1 with (fail)
  rw [← HRB.out]
  clear hw1
  go_upto_region 3 with (go_at_call 36; ((with_reducible refine (CH.out _ K1.out.2).mono ?_); rintro e w2 ⟨rfl, r2, b2⟩; have R2 := Lib.hid r2; have K2 := Lib.hid (K1.out.1.keep b2); have B2 := Lib.hid (below_in K1.out.2 b2); have G2 := Lib.hid (show rb < w1.heap.size from lt_of_block K1.out.1); clear r2 b2))
  clear kr CH
  obtain ⟨rwb, hrw⟩ : ∃ x, x = w1.heap.size := ⟨_, rfl⟩
  rw [← hrw] at R2 G2 ⊢
  have SB := Lib.hid (fun wx (hb : Below w2.heap.size w2 wx) => show (∀ i, wx.cell? ⟨rb, i, none⟩ = (rlC L Wd Bu Sl Ce k W Tr sm)[i]?) ∧ wx.cell? ⟨rwb, k * 3, none⟩ = some (.int .u64 (Xk : Int)) ∧ wx.cell? ⟨rwb, k * 3 + 1, none⟩ = some (.int .u64 (Ak : Int)) ∧ wx.cell? ⟨rwb, k * 3 + 2, none⟩ = some (.int .u64 (Bk : Int)) from by
    obtain ⟨C, hC, _, hj⟩ := (rows_keep R2.out hb).blk
    have h3 := hj k (by have := HM.out; omega)
    rw [Nat.mul_comm 3 k, ← HX.out.1, ← HX.out.2.1, ← HX.out.2.2] at h3
    exact ⟨(K2.out.keep hb).rd, (blk_cell hC).trans h3.1, (blk_cell hC).trans h3.2.1, (blk_cell hC).trans h3.2.2⟩)
  have BN := Lib.hid (show Below w2.heap.size w2 w2.drew from below_draws (Below.refl _ _) 1)
  have st := SB.out _ BN.out
  clear hrw
  refine wp_region_held_drew (S := fun wx => (∀ i, wx.cell? ⟨rb, i, none⟩ = (rlC L Wd Bu Sl Ce k W Tr sm)[i]?) ∧ wx.cell? ⟨rwb, k * 3, none⟩ = some (.int .u64 (Xk : Int)) ∧ wx.cell? ⟨rwb, k * 3 + 1, none⟩ = some (.int .u64 (Ak : Int)) ∧ wx.cell? ⟨rwb, k * 3 + 2, none⟩ = some (.int .u64 (Bk : Int))) (by kernel_rfl) st (fun hHeld => ?_)
  clear st
  refine wpAnyH_take (i := 0) (oi := ?_) (v := ?_) ?_ ?_ ?_ ?_ ?_ ?_ ?_ ?_
  rotate_left 2
  · simp only [List.getElem?_toArray, List.getElem?_cons_succ, List.getElem?_cons_zero]; rfl
  · kernel_rfl
  · kernel_rfl
  · kernel_rfl
  · exact fun _ _ _ h => h
  · refine Or.inl ⟨by rfl, ?_⟩
    intro w' hSw
    (try dsimp only at hSw)
    go_simp
    all_goals (with_reducible rfl)
  · assumption
  try simp only [Act.put, List.setIfInBounds_toArray, List.set_cons_zero, List.set_cons_succ]
  refine wpAnyH_take (i := 2) (oi := ?_) (v := ?_) ?_ ?_ ?_ ?_ ?_ ?_ ?_ ?_
  rotate_left 2
  · simp only [List.getElem?_toArray, List.getElem?_cons_succ, List.getElem?_cons_zero]; rfl
  · kernel_rfl
  · kernel_rfl
  · kernel_rfl
  · exact fun _ _ _ h => h
  · refine Or.inl ⟨by rfl, ?_⟩
    intro w' hSw
    (try dsimp only at hSw)
    go_simp
    all_goals (with_reducible rfl)
  · assumption
  try simp only [Act.put, List.setIfInBounds_toArray, List.set_cons_zero, List.set_cons_succ]
  refine wpAnyH_take (i := 3) (oi := ?_) (v := ?_) ?_ ?_ ?_ ?_ ?_ ?_ ?_ ?_
  rotate_left 2
  · simp only [List.getElem?_toArray, List.getElem?_cons_succ, List.getElem?_cons_zero]; rfl
  · kernel_rfl
  · kernel_rfl
  · kernel_rfl
  · exact fun _ _ _ h => h
  · refine Or.inl ⟨by rfl, ?_⟩
    intro w' hSw
    (try dsimp only at hSw)
    go_simp
    all_goals (with_reducible rfl)
  · assumption
  try simp only [Act.put, List.setIfInBounds_toArray, List.set_cons_zero, List.set_cons_succ]
  refine wpAnyH_take (i := 4) (oi := ?_) (v := ?_) ?_ ?_ ?_ ?_ ?_ ?_ ?_ ?_
  rotate_left 2
  · simp only [List.getElem?_toArray, List.getElem?_cons_succ, List.getElem?_cons_zero]; rfl
  · kernel_rfl
  · kernel_rfl
  · kernel_rfl
  · exact fun _ _ _ h => h
  · refine Or.inl ⟨by rfl, ?_⟩
    intro w' hSw
    (try dsimp only at hSw)
    go_simp
    all_goals (with_reducible rfl)
  · assumption
  try simp only [Act.put, List.setIfInBounds_toArray, List.set_cons_zero, List.set_cons_succ]
  refine wpAnyH_take (i := 5) (oi := ?_) (v := ?_) ?_ ?_ ?_ ?_ ?_ ?_ ?_ ?_
  rotate_left 2
  · simp only [List.getElem?_toArray, List.getElem?_cons_succ, List.getElem?_cons_zero]; rfl
  · kernel_rfl
  · kernel_rfl
  · kernel_rfl
  · exact fun _ _ _ h => h
  · refine Or.inl ⟨by rfl, ?_⟩
    intro w' hSw
    (try dsimp only at hSw)
    go_simp
    all_goals (with_reducible rfl)
  · assumption
  try simp only [Act.put, List.setIfInBounds_toArray, List.set_cons_zero, List.set_cons_succ]
  refine wpAnyH_take (i := 6) (oi := ?_) (v := ?_) ?_ ?_ ?_ ?_ ?_ ?_ ?_ ?_
  rotate_left 2
  · simp only [List.getElem?_toArray, List.getElem?_cons_succ, List.getElem?_cons_zero]; rfl
  · kernel_rfl
  · kernel_rfl
  · kernel_rfl
  · exact fun _ _ _ h => h
  · refine Or.inl ⟨by rfl, ?_⟩
    intro w' hSw
    (try dsimp only at hSw)
    go_simp
    all_goals (with_reducible rfl)
  · assumption
  try simp only [Act.put, List.setIfInBounds_toArray, List.set_cons_zero, List.set_cons_succ]
  refine wpAnyH_take (i := 7) (oi := ?_) (v := ?_) ?_ ?_ ?_ ?_ ?_ ?_ ?_ ?_
  rotate_left 2
  · simp only [List.getElem?_toArray, List.getElem?_cons_succ, List.getElem?_cons_zero]; rfl
  · kernel_rfl
  · kernel_rfl
  · kernel_rfl
  · exact fun _ _ _ h => h
  · refine Or.inl ⟨by rfl, ?_⟩
    intro w' hSw
    (try dsimp only at hSw)
    go_simp
    all_goals (with_reducible rfl)
  · assumption
  try simp only [Act.put, List.setIfInBounds_toArray, List.set_cons_zero, List.set_cons_succ]
  refine wpAnyH_take (i := 8) (oi := ?_) (v := ?_) ?_ ?_ ?_ ?_ ?_ ?_ ?_ ?_
  rotate_left 2
  · simp only [List.getElem?_toArray, List.getElem?_cons_succ, List.getElem?_cons_zero]; rfl
  · kernel_rfl
  · kernel_rfl
  · kernel_rfl
  · exact fun _ _ _ h => h
  · refine Or.inl ⟨by rfl, ?_⟩
    intro w' hSw
    (try dsimp only at hSw)
    go_simp
    all_goals (with_reducible rfl)
  · assumption
  try simp only [Act.put, List.setIfInBounds_toArray, List.set_cons_zero, List.set_cons_succ]
  refine wpAnyH_take (i := 10) (oi := ?_) (v := ?_) ?_ ?_ ?_ ?_ ?_ ?_ ?_ ?_
  rotate_left 2
  · simp only [List.getElem?_toArray, List.getElem?_cons_succ, List.getElem?_cons_zero]; rfl
  · kernel_rfl
  · kernel_rfl
  · kernel_rfl
  · exact fun _ _ _ h => h
  · refine Or.inl ⟨by rfl, ?_⟩
    intro w' hSw
    (try dsimp only at hSw)
    go_simp
    all_goals (with_reducible rfl)
  · assumption
  try simp only [Act.put, List.setIfInBounds_toArray, List.set_cons_zero, List.set_cons_succ]
  refine wpAnyH_take (i := 11) (oi := ?_) (v := ?_) ?_ ?_ ?_ ?_ ?_ ?_ ?_ ?_
  rotate_left 2
  · simp only [List.getElem?_toArray, List.getElem?_cons_succ, List.getElem?_cons_zero]; rfl
  · kernel_rfl
  · kernel_rfl
  · kernel_rfl
  · exact fun _ _ _ h => h
  · refine Or.inl ⟨by rfl, ?_⟩
    intro w' hSw
    (try dsimp only at hSw)
    go_simp
    all_goals (with_reducible rfl)
  · assumption
  try simp only [Act.put, List.setIfInBounds_toArray, List.set_cons_zero, List.set_cons_succ]
  refine wpAnyH_take (i := 12) (oi := ?_) (v := ?_) ?_ ?_ ?_ ?_ ?_ ?_ ?_ ?_
  rotate_left 2
  · simp only [List.getElem?_toArray, List.getElem?_cons_succ, List.getElem?_cons_zero]; rfl
  · kernel_rfl
  · kernel_rfl
  · kernel_rfl
  · exact fun _ _ _ h => h
  · refine Or.inl ⟨by rfl, ?_⟩
    intro w' hSw
    (try dsimp only at hSw)
    go_simp
    all_goals (with_reducible rfl)
  · assumption
  try simp only [Act.put, List.setIfInBounds_toArray, List.set_cons_zero, List.set_cons_succ]
  refine wpAnyH_take (i := 13) (oi := ?_) (v := ?_) ?_ ?_ ?_ ?_ ?_ ?_ ?_ ?_
  rotate_left 2
  · simp only [List.getElem?_toArray, List.getElem?_cons_succ, List.getElem?_cons_zero]; rfl
  · kernel_rfl
  · kernel_rfl
  · kernel_rfl
  · exact fun _ _ _ h => h
  · refine Or.inl ⟨by rfl, ?_⟩
    intro w' hSw
    (try dsimp only at hSw)
    go_simp
    all_goals (with_reducible rfl)
  · assumption
  try simp only [Act.put, List.setIfInBounds_toArray, List.set_cons_zero, List.set_cons_succ]
  refine wpAnyH_take (i := 15) (oi := ?_) (v := ?_) ?_ ?_ ?_ ?_ ?_ ?_ ?_ ?_
  rotate_left 2
  · simp only [List.getElem?_toArray, List.getElem?_cons_succ, List.getElem?_cons_zero]; rfl
  · kernel_rfl
  · kernel_rfl
  · kernel_rfl
  · exact fun _ _ _ h => h
  · refine Or.inl ⟨by rfl, ?_⟩
    intro w' hSw
    (try dsimp only at hSw)
    go_simp
    all_goals (with_reducible rfl)
  · assumption
  try simp only [Act.put, List.setIfInBounds_toArray, List.set_cons_zero, List.set_cons_succ]
  refine wpAnyH_take (i := 16) (oi := ?_) (v := ?_) ?_ ?_ ?_ ?_ ?_ ?_ ?_ ?_
  rotate_left 2
  · simp only [List.getElem?_toArray, List.getElem?_cons_succ, List.getElem?_cons_zero]; rfl
  · kernel_rfl
  · kernel_rfl
  · kernel_rfl
  · exact fun _ _ _ h => h
  · refine Or.inl ⟨by rfl, ?_⟩
    intro w' hSw
    (try dsimp only at hSw)
    go_simp
    all_goals (with_reducible rfl)
  · assumption
  try simp only [Act.put, List.setIfInBounds_toArray, List.set_cons_zero, List.set_cons_succ]
  refine wpAnyH_take (i := 17) (oi := ?_) (v := ?_) ?_ ?_ ?_ ?_ ?_ ?_ ?_ ?_
  rotate_left 2
  · simp only [List.getElem?_toArray, List.getElem?_cons_succ, List.getElem?_cons_zero]; rfl
  · kernel_rfl
  · kernel_rfl
  · kernel_rfl
  · exact fun _ _ _ h => h
  · refine Or.inl ⟨by rfl, ?_⟩
    intro w' hSw
    (try dsimp only at hSw)
    go_simp
    all_goals (with_reducible rfl)
  · assumption
  try simp only [Act.put, List.setIfInBounds_toArray, List.set_cons_zero, List.set_cons_succ]
  refine wpAnyH_take (i := 18) (oi := ?_) (v := ?_) ?_ ?_ ?_ ?_ ?_ ?_ ?_ ?_
  rotate_left 2
  · simp only [List.getElem?_toArray, List.getElem?_cons_succ, List.getElem?_cons_zero]; rfl
  · kernel_rfl
  · kernel_rfl
  · kernel_rfl
  · exact fun _ _ _ h => h
  · refine Or.inl ⟨by rfl, ?_⟩
    intro w' hSw
    (try dsimp only at hSw)
    go_simp
    all_goals (with_reducible rfl)
  · assumption
  try simp only [Act.put, List.setIfInBounds_toArray, List.set_cons_zero, List.set_cons_succ]
  refine wpAnyH_take (i := 19) (oi := ?_) (v := ?_) ?_ ?_ ?_ ?_ ?_ ?_ ?_ ?_
  rotate_left 2
  · simp only [List.getElem?_toArray, List.getElem?_cons_succ, List.getElem?_cons_zero]; rfl
  · kernel_rfl
  · kernel_rfl
  · kernel_rfl
  · exact fun _ _ _ h => h
  · refine Or.inl ⟨by rfl, ?_⟩
    intro w' hSw
    (try dsimp only at hSw)
    go_simp
    all_goals (with_reducible rfl)
  · assumption
  try simp only [Act.put, List.setIfInBounds_toArray, List.set_cons_zero, List.set_cons_succ]
  refine wpAnyH_take (i := 20) (oi := ?_) (v := ?_) ?_ ?_ ?_ ?_ ?_ ?_ ?_ ?_
  rotate_left 2
  · simp only [List.getElem?_toArray, List.getElem?_cons_succ, List.getElem?_cons_zero]; rfl
  · kernel_rfl
  · kernel_rfl
  · kernel_rfl
  · exact fun _ _ _ h => h
  · refine Or.inl ⟨by rfl, ?_⟩
    intro w' hSw
    (try dsimp only at hSw)
    go_simp
    all_goals (with_reducible rfl)
  · assumption
  try simp only [Act.put, List.setIfInBounds_toArray, List.set_cons_zero, List.set_cons_succ]
  refine wpAnyH_ready (rs := [1]) (by kernel_rfl) (by simp) ?_
  refine AllReadyH.cons (o := ?_) ?_ ?_ ?_
  rotate_left 1
  · simp only [List.getElem?_toArray, List.getElem?_cons_succ, List.getElem?_cons_zero]; rfl
  rotate_left 1
  · exact AllReadyH.nil
  intro K hK
  go_simp
  ((with_reducible refine (CO.out _).mono ?_); rintro e w3 ⟨rfl, be⟩; have N1 := Lib.hid (G.below_on BN.out be); clear be)
  refine hK.out _ _ (SB.out _ N1.out) (fun hHeld => ?_)
  clear hK K
  try simp only [Act.put, List.setIfInBounds_toArray, List.set_cons_zero, List.set_cons_succ]
  refine wpAnyH_ready (rs := [9]) (by kernel_rfl) (by simp) ?_
  refine AllReadyH.cons (o := ?_) ?_ ?_ ?_
  rotate_left 1
  · simp only [List.getElem?_toArray, List.getElem?_cons_succ, List.getElem?_cons_zero]; rfl
  rotate_left 1
  · exact AllReadyH.nil
  intro K hK
  go_simp
  ((with_reducible refine (CP.out _).mono ?_); rintro e w4 ⟨Q, rfl, p4, n4, a4, be⟩; have N2 := Lib.hid (G.below_on N1.out be); have Q4 := Lib.hid (And.intro p4 (And.intro n4 (fun k hk => Nat.le_trans N1.out.size (a4 k hk)))); clear p4 n4 a4 be)
  refine hK.out _ _ (SB.out _ N2.out) (fun hHeld => ?_)
  clear hK K
  try simp only [Act.put, List.setIfInBounds_toArray, List.set_cons_zero, List.set_cons_succ]
  refine wpAnyH_ready (rs := [14]) (by kernel_rfl) (by simp) ?_
  refine AllReadyH.cons (o := ?_) ?_ ?_ ?_
  rotate_left 1
  · simp only [List.getElem?_toArray, List.getElem?_cons_succ, List.getElem?_cons_zero]; rfl
  rotate_left 1
  · exact AllReadyH.nil
  intro K hK
  go_simp
  ((with_reducible refine (CR.out _ _ ((rows_keep R2.out N2.out).ge (by have := HM.out; omega))).mono ?_); rintro e w5 ⟨R, rfl, p5, n5, a5, be⟩; have N3 := Lib.hid (G.below_on N2.out be); have Q5 := Lib.hid (Q4.out.1.keep be); have R5 := Lib.hid (And.intro p5 (And.intro n5 (And.intro a5 (show w4.heap.size ≤ w5.heap.size from be.size)))); clear p5 n5 a5 be)
  refine hK.out _ _ (SB.out _ N3.out) (fun hHeld => ?_)
  clear hK K
  try simp only [Act.put, List.setIfInBounds_toArray, List.set_cons_zero, List.set_cons_succ]
  refine wpAnyH_ready (rs := [21]) (by kernel_rfl) (by simp) ?_
  refine AllReadyH.cons (o := ?_) ?_ ?_ ?_
  rotate_left 1
  · simp only [List.getElem?_toArray, List.getElem?_cons_succ, List.getElem?_cons_zero]; rfl
  rotate_left 1
  · exact AllReadyH.nil
  intro K hK
  go_simp
  ((with_reducible refine (CS.out _).mono ?_); rintro e w6 ⟨T, rfl, p6, n6, a6, be⟩; have N4 := Lib.hid (G.below_on N3.out be); have Q6 := Lib.hid (Q5.out.keep be); have R6 := Lib.hid (R5.out.1.keep be); have S6 := Lib.hid (And.intro p6 (And.intro n6 (And.intro a6 be.size))); clear p6 n6 a6 be)
  refine hK.out _ _ (SB.out _ N4.out) (fun hHeld => ?_)
  clear hK K
  try simp only [Act.put, List.setIfInBounds_toArray, List.set_cons_zero, List.set_cons_succ]
  refine wpAnyH_take (i := 22) (oi := ?_) (v := ?_) ?_ ?_ ?_ ?_ ?_ ?_ ?_ ?_
  rotate_left 2
  · simp only [List.getElem?_toArray, List.getElem?_cons_succ, List.getElem?_cons_zero]; rfl
  · kernel_rfl
  · kernel_rfl
  · kernel_rfl
  · exact fun _ _ _ h => h
  · refine Or.inl ⟨by rfl, ?_⟩
    intro w' hSw
    (try dsimp only at hSw)
    go_simp
    all_goals (with_reducible rfl)
  · assumption
  try simp only [Act.put, List.setIfInBounds_toArray, List.set_cons_zero, List.set_cons_succ]
  refine wpAnyH_ready (rs := [23]) (by kernel_rfl) (by simp) ?_
  refine AllReadyH.cons (o := ?_) ?_ ?_ ?_
  rotate_left 1
  · simp only [List.getElem?_toArray, List.getElem?_cons_succ, List.getElem?_cons_zero]; rfl
  rotate_left 1
  · exact AllReadyH.nil
  intro K hK
  go_simp
  (obtain ⟨w7, hw7, k7, l7, s7⟩ := box_new w6 #[.int .i64 u, .int .i64 Wd, .int .i64 Bu, .int .i64 L, .slice (some ⟨rwb, 0, none⟩) m m, .pointer (some ⟨Q.p, 0, none⟩), .pointer (some ⟨R.x, 0, none⟩), .pointer (some ⟨T.s, 0, none⟩), .int .i64 0, .int .i64 0, .int .i64 0, .int .i64 0, .int .i64 0] 92; rw [hw7]; have N5 := Lib.hid (G.below_on N4.out l7); have K7 := Lib.hid (And.intro k7 l7); clear hw7 k7 l7 s7)
  refine hK.out _ _ (SB.out _ N5.out) (fun hHeld => ?_)
  clear hK K
  try simp only [Act.put, List.setIfInBounds_toArray, List.set_cons_zero, List.set_cons_succ]
  refine wpAnyH_take (i := 24) (oi := ?_) (v := ?_) ?_ ?_ ?_ ?_ ?_ ?_ ?_ ?_
  rotate_left 2
  · simp only [List.getElem?_toArray, List.getElem?_cons_succ, List.getElem?_cons_zero]; rfl
  · kernel_rfl
  · kernel_rfl
  · kernel_rfl
  · exact fun _ _ _ h => h
  · refine Or.inl ⟨by rfl, ?_⟩
    intro w' hSw
    (try dsimp only at hSw)
    go_simp
    all_goals (with_reducible rfl)
  · assumption
  try simp only [Act.put, List.setIfInBounds_toArray, List.set_cons_zero, List.set_cons_succ]
  refine wpAnyH_done (by kernel_rfl) ?_ _
  clear hHeld
  go_wp2
  go_ret
  have q4 := Q4.out.1.lt
  have r5 := R5.out.1.lt
  have s6 := S6.out.1.lt
  have z1 := R5.out.2.2.2
  have z2 := S6.out.2.2.2
  have z3 := N4.out.size
  have z4 := B2.out.size
  have a4 := Q4.out.2.2
  have a5 := R5.out.2.2.1
  have a6 := S6.out.2.2.1
  have z5 := N2.out.size
  have hn := R5.out.2.1
  refine ⟨⟨w6.heap.size, .slice (some ⟨rwb, 0, none⟩) m m, u, Wd, Bu, L, Q, R, T⟩, rfl, ⟨K7.out.1, Q6.out.keep K7.out.2, R6.out.keep K7.out.2, ⟨[], _, S6.out.1.keep K7.out.2, rfl⟩, ?_, ?_, ?_⟩, ⟨HU.out, rfl, rfl, rfl, Q4.out.2.1, S6.out.2.1, hn.1, hn.2.1, hn.2.2.1, hn.2.2.2.1, hn.2.2.2.2.1, hn.2.2.2.2.2.1, hn.2.2.2.2.2.2.1, hn.2.2.2.2.2.2.2.1, hn.2.2.2.2.2.2.2.2⟩, ?_, ?_⟩
  · rintro j (hj | hj | hj) e
    · have := q4 j hj
      have e : j = w6.heap.size := e
      omega
    · have := r5 j hj
      have e : j = w6.heap.size := e
      omega
    · have := s6 j hj
      have e : j = w6.heap.size := e
      omega
  · intro j hj
    have h1 := q4 j hj
    exact ⟨fun h => by have := a5 j h; omega, fun h => by have := a6 j h; omega⟩
  · intro j hj h
    have h1 := r5 j hj
    have := a6 j h
    omega
  · rintro j ((hj | hj | hj) | hj)
    · have := a4 j hj; omega
    · have := a5 j hj; omega
    · have := a6 j hj; omega
    · have e : j = w6.heap.size := hj
      omega
  · exact below_in B2.out N5.out
end Go.Proofs.YtbgcpljekcagiaaGreat
/- The laws of layer 12: a plan's rule, and its limiter. -/
namespace Go.Proofs.YtbgcpljekcagiaaGreat
set_option linter.unusedSimpArgs false
set_option linter.unusedVariables false
set_option maxRecDepth 100000
open Go.ChangeShapes Go.WideShapes Go.ChangeAt Go.RowKit
open Ar (inR)
def lqL (a : Int) : Int := a % 32 + 1
def lqS (b : Int) : Nat := (b % 32).toNat + 1
def lqB (a c : Int) : Int := c % 32 % (a % 32 + 1) + 1
def lqN (d : Int) : Nat := (d % 8).toNat + 1
def lqC (e : Int) : Nat := (e % 8).toNat + 1
def lqR (f : Int) : Nat := (f % 4).toNat + 1
def lqW (g : Int) : Nat := (g % 16).toNat + 1
def lqT (h : Int) : Nat := (h % 8).toNat + 1
def lqM (sm : Bool) (d : Int) : Bool := sm && decide ((1 : Int) < (lqN d : Int))
abbrev planV (a b c d e f g h : Int) (sm : Bool) : Value := .agg #[.int .i64 a, .int .i64 b, .int .i64 c, .int .i64 d, .int .i64 e, .int .i64 f, .int .i64 g, .int .i64 h, .bool sm]
abbrev planC (a b c d e f g h : Int) (sm : Bool) : Array Value := #[.int .i64 a, .int .i64 b, .int .i64 c, .int .i64 d, .int .i64 e, .int .i64 f, .int .i64 g, .int .i64 h, .bool sm]
theorem lqB_bd (a c : Int) : 1 ≤ lqB a c ∧ lqB a c ≤ lqL a := by
  unfold lqB lqL
  have h1 := Int.emod_nonneg (c % 32) (show a % 32 + 1 ≠ 0 by omega)
  have h2 := Int.emod_lt_of_pos (c % 32) (show 0 < a % 32 + 1 by omega)
  omega
set_option maxHeartbeats 4000000 in
theorem lmrule_any (a b c d e f g h : Int) (sm : Bool) (w : World) :
    Calls Tryz.prog 17 #[planV a b c d e f g h sm] w fun v w' => v = .returned (rlV (lqL a) ((lqS b * lqN d : Nat) : Int) (lqB a c) (lqN d : Nat) (lqC e : Nat) (lqR f : Nat) (lqW g : Nat) (lqT h : Nat) (lqM sm d)) ∧ Below w.heap.size w w' := by
  obtain ⟨L, hL⟩ : ∃ n, n = lqL a := ⟨_, rfl⟩
  obtain ⟨s, hs⟩ : ∃ n, n = lqS b := ⟨_, rfl⟩
  obtain ⟨Bu, hBu⟩ : ∃ n, n = lqB a c := ⟨_, rfl⟩
  obtain ⟨n, hn⟩ : ∃ n, n = lqN d := ⟨_, rfl⟩
  obtain ⟨Ce, hCe⟩ : ∃ n, n = lqC e := ⟨_, rfl⟩
  obtain ⟨k, hk⟩ : ∃ n, n = lqR f := ⟨_, rfl⟩
  obtain ⟨W, hW⟩ : ∃ n, n = lqW g := ⟨_, rfl⟩
  obtain ⟨Tr, hTr⟩ : ∃ n, n = lqT h := ⟨_, rfl⟩
  have hbb := lqB_bd a c
  have eM : lqM sm d = (sm && decide ((1 : Int) < (n : Int))) := by rw [hn]; rfl
  rw [eM, ← hL, ← hs, ← hBu, ← hn, ← hCe, ← hk, ← hW, ← hTr]
  rw [← hBu, ← hL] at hbb
  unfold lqL at hL
  unfold lqS at hs
  unfold lqB at hBu
  unfold lqN at hn
  unfold lqC at hCe
  unfold lqR at hk
  unfold lqW at hW
  unfold lqT at hTr
  obtain ⟨a0, ha0⟩ : ∃ z, z = a % 32 := ⟨_, rfl⟩
  obtain ⟨b0, hb0⟩ : ∃ z, z = b % 32 := ⟨_, rfl⟩
  obtain ⟨c0, hc0⟩ : ∃ z, z = c % 32 := ⟨_, rfl⟩
  obtain ⟨d0, hd0⟩ : ∃ z, z = d % 8 := ⟨_, rfl⟩
  obtain ⟨e0, he0⟩ : ∃ z, z = e % 8 := ⟨_, rfl⟩
  obtain ⟨f0, hf0⟩ : ∃ z, z = f % 4 := ⟨_, rfl⟩
  obtain ⟨g0, hg0⟩ : ∃ z, z = g % 16 := ⟨_, rfl⟩
  obtain ⟨h0, hh0⟩ : ∃ z, z = h % 8 := ⟨_, rfl⟩
  have e1 : bits .and .i64 a 31 = a0 := by rw [ha0]; exact i64_mask5 a
  have e2 : bits .and .i64 b 31 = b0 := by rw [hb0]; exact i64_mask5 b
  have e3 : bits .and .i64 c 31 = c0 := by rw [hc0]; exact i64_mask5 c
  have e4 : bits .and .i64 d 7 = d0 := by rw [hd0]; exact i64_mask3 d
  have e5 : bits .and .i64 e 7 = e0 := by rw [he0]; exact i64_mask3 e
  have e6 : bits .and .i64 f 3 = f0 := by rw [hf0]; exact i64_mask2 f
  have e7 : bits .and .i64 g 15 = g0 := by rw [hg0]; exact i64_mask4 g
  have e8 : bits .and .i64 h 7 = h0 := by rw [hh0]; exact i64_mask3 h
  rw [← ha0] at hL hBu
  rw [← hc0] at hBu
  have f1 : IntKind.i64.wrap (a0 + 1) = L := by rw [IntKind.wrap_i64]; omega
  have f2 : IntKind.i64.wrap (b0 + 1) = (s : Int) := by rw [IntKind.wrap_i64]; omega
  rw [← hL] at hBu
  have hL0 : ¬ L = 0 := by omega
  obtain ⟨x0, hx0⟩ : ∃ z, z = c0 % L := ⟨_, rfl⟩
  rw [← hx0] at hBu
  have m0 : c0.tmod L = x0 := by rw [hx0]; exact Int.tmod_eq_emod_of_nonneg (by omega)
  have f3 : IntKind.i64.wrap (x0 + 1) = Bu := by clear hx0 m0; rw [IntKind.wrap_i64]; omega
  have f4 : IntKind.i64.wrap (d0 + 1) = (n : Int) := by clear hx0 m0; rw [IntKind.wrap_i64]; omega
  have f5 : IntKind.i64.wrap (e0 + 1) = (Ce : Int) := by clear hx0 m0; rw [IntKind.wrap_i64]; omega
  have f6 : IntKind.i64.wrap (f0 + 1) = (k : Int) := by clear hx0 m0; rw [IntKind.wrap_i64]; omega
  have f7 : IntKind.i64.wrap (g0 + 1) = (W : Int) := by clear hx0 m0; rw [IntKind.wrap_i64]; omega
  have f8 : IntKind.i64.wrap (h0 + 1) = (Tr : Int) := by clear hx0 m0; rw [IntKind.wrap_i64]; omega
  have g1 : n ≤ 8 := by clear hx0 m0; omega
  have g2 : s ≤ 32 := by clear hx0 m0; omega
  obtain ⟨m, hm⟩ : ∃ m, m = s * n := ⟨_, rfl⟩
  have hmb : m ≤ 256 := by rw [hm]; exact Nat.le_trans (Nat.mul_le_mul g2 g1) (by decide)
  have f9 : (s : Int) * (n : Int) = (m : Int) := by rw [hm, Int.natCast_mul]
  have f0' : IntKind.i64.wrap (m : Int) = (m : Int) := by clear hx0 m0; rw [IntKind.wrap_i64]; omega
  rw [← hm]
  obtain ⟨w1, hw1, k1, l1, s1⟩ := box_new w (planC a b c d e f g h sm) 23
  obtain ⟨w2, hw2, k2, l2, s2⟩ := box_new w1 (rlC 0 0 0 0 0 0 0 0 false) 29
  obtain ⟨b1, hb1⟩ : ∃ x, x = w.heap.size := ⟨_, rfl⟩
  obtain ⟨b2, hb2⟩ : ∃ x, x = w1.heap.size := ⟨_, rfl⟩
  have k1' := k1.keep l2
  rw [← hb1] at k1'
  rw [← hb2] at k2
  have kr1 := k1'.rd
  have K1 := Lib.hid k1'
  have K2 := Lib.hid k2
  have BL := Lib.hid (below_in l1 l2)
  have HB := Lib.hid (And.intro hb1 (And.intro hb2 (And.intro s1 s2)))
  clear hL hs hBu hn hCe hk hW hTr ha0 hb0 hc0 hd0 he0 hf0 hg0 hh0 hx0 g1 g2 hm hmb k1 k2 k1' l1 l2 s1 s2 hbb eM
  go_enter Tryz.func17, Tryz.ntmps17
  go_upto_region 1 with (fail)
  rw [← HB.out.1, ← HB.out.2.1]
  clear hw1 hw2 hb1 hb2
  go_upto_region 3 with (fail)
  have BN := Lib.hid (show Below w2.heap.size w2 w2.drew from below_draws (Below.refl _ _) 1)
  have SB := Lib.hid (fun wx (hb : Below w2.heap.size w2 wx) => show ∀ i, wx.cell? ⟨b1, i, none⟩ = (planC a b c d e f g h sm)[i]? from (K1.out.keep hb).rd)
  have st := SB.out _ BN.out
  clear kr1
  obtain ⟨w3, hw3, k3, l3, s3⟩ := box_new w2 (rlC 0 0 0 0 0 0 0 0 false) 29
  have N3 := Lib.hid (show Below w2.heap.size w2 w3.drew from below_draws l3 1)
  have N3' := Lib.hid l3
  have K3 := Lib.hid k3
  have k3r := k3.rd
  have k3w := k3.wr
  have H3 := Lib.hid (show b1 < w2.heap.size ∧ b2 < w2.heap.size from ⟨lt_of_block K1.out, lt_of_block K2.out⟩)
  have SX := Lib.hid (fun o => show ∀ i, (setObj w3 w2.heap.size o).drew.cell? ⟨b1, i, none⟩ = (planC a b c d e f g h sm)[i]? from ((K1.out.keep N3'.out).fr (Fr.setObj (F := fun k => k = w2.heap.size) (Fr.refl _ _) rfl o) (by have := H3.out; omega)).drew.rd)
  clear k3 l3 s3
  refine wp_region_held_drew (S := fun wx => ∀ i, wx.cell? ⟨b1, i, none⟩ = (planC a b c d e f g h sm)[i]?) (by kernel_rfl) st (fun hHeld => ?_)
  clear st
  refine wpAnyH_take (i := 0) (oi := ?_) (v := ?_) ?_ ?_ ?_ ?_ ?_ ?_ ?_ ?_
  rotate_left 2
  · simp only [List.getElem?_toArray, List.getElem?_cons_succ, List.getElem?_cons_zero]; rfl
  · kernel_rfl
  · kernel_rfl
  · kernel_rfl
  · exact fun _ _ _ h => h
  · refine Or.inl ⟨by rfl, ?_⟩
    intro w' hSw
    (try dsimp only at hSw)
    go_simp
    all_goals (with_reducible rfl)
  · assumption
  try simp only [Act.put, List.setIfInBounds_toArray, List.set_cons_zero, List.set_cons_succ]
  refine wpAnyH_take (i := 1) (oi := ?_) (v := ?_) ?_ ?_ ?_ ?_ ?_ ?_ ?_ ?_
  rotate_left 2
  · simp only [List.getElem?_toArray, List.getElem?_cons_succ, List.getElem?_cons_zero]; rfl
  · kernel_rfl
  · kernel_rfl
  · kernel_rfl
  · exact fun _ _ _ h => h
  · refine Or.inl ⟨by rfl, ?_⟩
    intro w' hSw
    (try dsimp only at hSw)
    go_simp
    all_goals (with_reducible rfl)
  · assumption
  try simp only [Act.put, List.setIfInBounds_toArray, List.set_cons_zero, List.set_cons_succ]
  refine wpAnyH_take (i := 2) (oi := ?_) (v := ?_) ?_ ?_ ?_ ?_ ?_ ?_ ?_ ?_
  rotate_left 2
  · simp only [List.getElem?_toArray, List.getElem?_cons_succ, List.getElem?_cons_zero]; rfl
  · kernel_rfl
  · kernel_rfl
  · kernel_rfl
  · exact fun _ _ _ h => h
  · refine Or.inl ⟨by rfl, ?_⟩
    intro w' hSw
    (try dsimp only at hSw)
    go_simp
    all_goals (with_reducible rfl)
  · assumption
  try simp only [Act.put, List.setIfInBounds_toArray, List.set_cons_zero, List.set_cons_succ]
  refine wpAnyH_take (i := 3) (oi := ?_) (v := ?_) ?_ ?_ ?_ ?_ ?_ ?_ ?_ ?_
  rotate_left 2
  · simp only [List.getElem?_toArray, List.getElem?_cons_succ, List.getElem?_cons_zero]; rfl
  · kernel_rfl
  · kernel_rfl
  · kernel_rfl
  · exact fun _ _ _ h => h
  · refine Or.inl ⟨by rfl, ?_⟩
    intro w' hSw
    (try dsimp only at hSw)
    go_simp
    all_goals (with_reducible rfl)
  · assumption
  try simp only [Act.put, List.setIfInBounds_toArray, List.set_cons_zero, List.set_cons_succ]
  refine wpAnyH_take (i := 4) (oi := ?_) (v := ?_) ?_ ?_ ?_ ?_ ?_ ?_ ?_ ?_
  rotate_left 2
  · simp only [List.getElem?_toArray, List.getElem?_cons_succ, List.getElem?_cons_zero]; rfl
  · kernel_rfl
  · kernel_rfl
  · kernel_rfl
  · exact fun _ _ _ h => h
  · refine Or.inl ⟨by rfl, ?_⟩
    intro w' hSw
    (try dsimp only at hSw)
    go_simp
    all_goals (with_reducible rfl)
  · assumption
  try simp only [Act.put, List.setIfInBounds_toArray, List.set_cons_zero, List.set_cons_succ]
  refine wpAnyH_take (i := 5) (oi := ?_) (v := ?_) ?_ ?_ ?_ ?_ ?_ ?_ ?_ ?_
  rotate_left 2
  · simp only [List.getElem?_toArray, List.getElem?_cons_succ, List.getElem?_cons_zero]; rfl
  · kernel_rfl
  · kernel_rfl
  · kernel_rfl
  · exact fun _ _ _ h => h
  · refine Or.inl ⟨by rfl, ?_⟩
    intro w' hSw
    (try dsimp only at hSw)
    go_simp
    all_goals (with_reducible rfl)
  · assumption
  try simp only [Act.put, List.setIfInBounds_toArray, List.set_cons_zero, List.set_cons_succ]
  refine wpAnyH_take (i := 6) (oi := ?_) (v := ?_) ?_ ?_ ?_ ?_ ?_ ?_ ?_ ?_
  rotate_left 2
  · simp only [List.getElem?_toArray, List.getElem?_cons_succ, List.getElem?_cons_zero]; rfl
  · kernel_rfl
  · kernel_rfl
  · kernel_rfl
  · exact fun _ _ _ h => h
  · refine Or.inl ⟨by rfl, ?_⟩
    intro w' hSw
    (try dsimp only at hSw)
    go_simp
    all_goals (with_reducible rfl)
  · assumption
  try simp only [Act.put, List.setIfInBounds_toArray, List.set_cons_zero, List.set_cons_succ]
  refine wpAnyH_take (i := 7) (oi := ?_) (v := ?_) ?_ ?_ ?_ ?_ ?_ ?_ ?_ ?_
  rotate_left 2
  · simp only [List.getElem?_toArray, List.getElem?_cons_succ, List.getElem?_cons_zero]; rfl
  · kernel_rfl
  · kernel_rfl
  · kernel_rfl
  · exact fun _ _ _ h => h
  · refine Or.inl ⟨by rfl, ?_⟩
    intro w' hSw
    (try dsimp only at hSw)
    go_simp
    all_goals (with_reducible rfl)
  · assumption
  try simp only [Act.put, List.setIfInBounds_toArray, List.set_cons_zero, List.set_cons_succ]
  refine wpAnyH_take (i := 8) (oi := ?_) (v := ?_) ?_ ?_ ?_ ?_ ?_ ?_ ?_ ?_
  rotate_left 2
  · simp only [List.getElem?_toArray, List.getElem?_cons_succ, List.getElem?_cons_zero]; rfl
  · kernel_rfl
  · kernel_rfl
  · kernel_rfl
  · exact fun _ _ _ h => h
  · refine Or.inl ⟨by rfl, ?_⟩
    intro w' hSw
    (try dsimp only at hSw)
    go_simp
    all_goals (with_reducible rfl)
  · assumption
  try simp only [Act.put, List.setIfInBounds_toArray, List.set_cons_zero, List.set_cons_succ]
  refine wpAnyH_take (i := 9) (oi := ?_) (v := ?_) ?_ ?_ ?_ ?_ ?_ ?_ ?_ ?_
  rotate_left 2
  · simp only [List.getElem?_toArray, List.getElem?_cons_succ, List.getElem?_cons_zero]; rfl
  · kernel_rfl
  · kernel_rfl
  · kernel_rfl
  · exact fun _ _ _ h => h
  · refine Or.inl ⟨by rfl, ?_⟩
    intro w' hSw
    (try dsimp only at hSw)
    go_simp
    all_goals (with_reducible rfl)
  · assumption
  try simp only [Act.put, List.setIfInBounds_toArray, List.set_cons_zero, List.set_cons_succ]
  refine wpAnyH_take (i := 10) (oi := ?_) (v := ?_) ?_ ?_ ?_ ?_ ?_ ?_ ?_ ?_
  rotate_left 2
  · simp only [List.getElem?_toArray, List.getElem?_cons_succ, List.getElem?_cons_zero]; rfl
  · kernel_rfl
  · kernel_rfl
  · kernel_rfl
  · exact fun _ _ _ h => h
  · refine Or.inl ⟨by rfl, ?_⟩
    intro w' hSw
    (try dsimp only at hSw)
    go_simp
    all_goals (with_reducible rfl)
  · assumption
  try simp only [Act.put, List.setIfInBounds_toArray, List.set_cons_zero, List.set_cons_succ]
  refine wpAnyH_take (i := 11) (oi := ?_) (v := ?_) ?_ ?_ ?_ ?_ ?_ ?_ ?_ ?_
  rotate_left 2
  · simp only [List.getElem?_toArray, List.getElem?_cons_succ, List.getElem?_cons_zero]; rfl
  · kernel_rfl
  · kernel_rfl
  · kernel_rfl
  · exact fun _ _ _ h => h
  · refine Or.inl ⟨by rfl, ?_⟩
    intro w' hSw
    (try dsimp only at hSw)
    go_simp
    all_goals (with_reducible rfl)
  · assumption
  try simp only [Act.put, List.setIfInBounds_toArray, List.set_cons_zero, List.set_cons_succ]
  refine wpAnyH_take (i := 12) (oi := ?_) (v := ?_) ?_ ?_ ?_ ?_ ?_ ?_ ?_ ?_
  rotate_left 2
  · simp only [List.getElem?_toArray, List.getElem?_cons_succ, List.getElem?_cons_zero]; rfl
  · kernel_rfl
  · kernel_rfl
  · kernel_rfl
  · exact fun _ _ _ h => h
  · refine Or.inl ⟨by rfl, ?_⟩
    intro w' hSw
    (try dsimp only at hSw)
    go_simp
    all_goals (with_reducible rfl)
  · assumption
  try simp only [Act.put, List.setIfInBounds_toArray, List.set_cons_zero, List.set_cons_succ]
  refine wpAnyH_take (i := 13) (oi := ?_) (v := ?_) ?_ ?_ ?_ ?_ ?_ ?_ ?_ ?_
  rotate_left 2
  · simp only [List.getElem?_toArray, List.getElem?_cons_succ, List.getElem?_cons_zero]; rfl
  · kernel_rfl
  · kernel_rfl
  · kernel_rfl
  · exact fun _ _ _ h => h
  · refine Or.inl ⟨by rfl, ?_⟩
    intro w' hSw
    (try dsimp only at hSw)
    go_simp
    all_goals (with_reducible rfl)
  · assumption
  try simp only [Act.put, List.setIfInBounds_toArray, List.set_cons_zero, List.set_cons_succ]
  refine wpAnyH_take (i := 14) (oi := ?_) (v := ?_) ?_ ?_ ?_ ?_ ?_ ?_ ?_ ?_
  rotate_left 2
  · simp only [List.getElem?_toArray, List.getElem?_cons_succ, List.getElem?_cons_zero]; rfl
  · kernel_rfl
  · kernel_rfl
  · kernel_rfl
  · exact fun _ _ _ h => h
  · refine Or.inl ⟨by rfl, ?_⟩
    intro w' hSw
    (try dsimp only at hSw)
    go_simp
    all_goals (with_reducible rfl)
  · assumption
  try simp only [Act.put, List.setIfInBounds_toArray, List.set_cons_zero, List.set_cons_succ]
  refine wpAnyH_take (i := 15) (oi := ?_) (v := ?_) ?_ ?_ ?_ ?_ ?_ ?_ ?_ ?_
  rotate_left 2
  · simp only [List.getElem?_toArray, List.getElem?_cons_succ, List.getElem?_cons_zero]; rfl
  · kernel_rfl
  · kernel_rfl
  · kernel_rfl
  · exact fun _ _ _ h => h
  · refine Or.inl ⟨by rfl, ?_⟩
    intro w' hSw
    (try dsimp only at hSw)
    go_simp
    all_goals (with_reducible rfl)
  · assumption
  try simp only [Act.put, List.setIfInBounds_toArray, List.set_cons_zero, List.set_cons_succ]
  refine wpAnyH_take (i := 16) (oi := ?_) (v := ?_) ?_ ?_ ?_ ?_ ?_ ?_ ?_ ?_
  rotate_left 2
  · simp only [List.getElem?_toArray, List.getElem?_cons_succ, List.getElem?_cons_zero]; rfl
  · kernel_rfl
  · kernel_rfl
  · kernel_rfl
  · exact fun _ _ _ h => h
  · refine Or.inl ⟨by rfl, ?_⟩
    intro w' hSw
    (try dsimp only at hSw)
    go_simp
    all_goals (with_reducible rfl)
  · assumption
  try simp only [Act.put, List.setIfInBounds_toArray, List.set_cons_zero, List.set_cons_succ]
  refine wpAnyH_take (i := 17) (oi := ?_) (v := ?_) ?_ ?_ ?_ ?_ ?_ ?_ ?_ ?_
  rotate_left 2
  · simp only [List.getElem?_toArray, List.getElem?_cons_succ, List.getElem?_cons_zero]; rfl
  · kernel_rfl
  · kernel_rfl
  · kernel_rfl
  · exact fun _ _ _ h => h
  · refine Or.inl ⟨by rfl, ?_⟩
    intro w' hSw
    (try dsimp only at hSw)
    go_simp
    all_goals (with_reducible rfl)
  · assumption
  try simp only [Act.put, List.setIfInBounds_toArray, List.set_cons_zero, List.set_cons_succ]
  refine wpAnyH_take (i := 18) (oi := ?_) (v := ?_) ?_ ?_ ?_ ?_ ?_ ?_ ?_ ?_
  rotate_left 2
  · simp only [List.getElem?_toArray, List.getElem?_cons_succ, List.getElem?_cons_zero]; rfl
  · kernel_rfl
  · kernel_rfl
  · kernel_rfl
  · exact fun _ _ _ h => h
  · refine Or.inl ⟨by rfl, ?_⟩
    intro w' hSw
    (try dsimp only at hSw)
    go_simp
    all_goals (with_reducible rfl)
  · assumption
  try simp only [Act.put, List.setIfInBounds_toArray, List.set_cons_zero, List.set_cons_succ]
  refine wpAnyH_take (i := 19) (oi := ?_) (v := ?_) ?_ ?_ ?_ ?_ ?_ ?_ ?_ ?_
  rotate_left 2
  · simp only [List.getElem?_toArray, List.getElem?_cons_succ, List.getElem?_cons_zero]; rfl
  · kernel_rfl
  · kernel_rfl
  · kernel_rfl
  · exact fun _ _ _ h => h
  · refine Or.inl ⟨by rfl, ?_⟩
    intro w' hSw
    (try dsimp only at hSw)
    go_simp
    all_goals (with_reducible rfl)
  · assumption
  try simp only [Act.put, List.setIfInBounds_toArray, List.set_cons_zero, List.set_cons_succ]
  refine wpAnyH_take (i := 20) (oi := ?_) (v := ?_) ?_ ?_ ?_ ?_ ?_ ?_ ?_ ?_
  rotate_left 2
  · simp only [List.getElem?_toArray, List.getElem?_cons_succ, List.getElem?_cons_zero]; rfl
  · kernel_rfl
  · kernel_rfl
  · kernel_rfl
  · exact fun _ _ _ h => h
  · refine Or.inl ⟨by rfl, ?_⟩
    intro w' hSw
    (try dsimp only at hSw)
    go_simp
    all_goals (with_reducible rfl)
  · assumption
  try simp only [Act.put, List.setIfInBounds_toArray, List.set_cons_zero, List.set_cons_succ]
  refine wpAnyH_take (i := 21) (oi := ?_) (v := ?_) ?_ ?_ ?_ ?_ ?_ ?_ ?_ ?_
  rotate_left 2
  · simp only [List.getElem?_toArray, List.getElem?_cons_succ, List.getElem?_cons_zero]; rfl
  · kernel_rfl
  · kernel_rfl
  · kernel_rfl
  · exact fun _ _ _ h => h
  · refine Or.inl ⟨by rfl, ?_⟩
    intro w' hSw
    (try dsimp only at hSw)
    go_simp
    all_goals (with_reducible rfl)
  · assumption
  try simp only [Act.put, List.setIfInBounds_toArray, List.set_cons_zero, List.set_cons_succ]
  refine wpAnyH_take (i := 22) (oi := ?_) (v := ?_) ?_ ?_ ?_ ?_ ?_ ?_ ?_ ?_
  rotate_left 2
  · simp only [List.getElem?_toArray, List.getElem?_cons_succ, List.getElem?_cons_zero]; rfl
  · kernel_rfl
  · kernel_rfl
  · kernel_rfl
  · exact fun _ _ _ h => h
  · refine Or.inl ⟨by rfl, ?_⟩
    intro w' hSw
    (try dsimp only at hSw)
    go_simp
    all_goals (with_reducible rfl)
  · assumption
  try simp only [Act.put, List.setIfInBounds_toArray, List.set_cons_zero, List.set_cons_succ]
  refine wpAnyH_take (i := 23) (oi := ?_) (v := ?_) ?_ ?_ ?_ ?_ ?_ ?_ ?_ ?_
  rotate_left 2
  · simp only [List.getElem?_toArray, List.getElem?_cons_succ, List.getElem?_cons_zero]; rfl
  · kernel_rfl
  · kernel_rfl
  · kernel_rfl
  · exact fun _ _ _ h => h
  · refine Or.inl ⟨by rfl, ?_⟩
    intro w' hSw
    (try dsimp only at hSw)
    go_simp
    all_goals (with_reducible rfl)
  · assumption
  try simp only [Act.put, List.setIfInBounds_toArray, List.set_cons_zero, List.set_cons_succ]
  refine wpAnyH_take (i := 24) (oi := ?_) (v := ?_) ?_ ?_ ?_ ?_ ?_ ?_ ?_ ?_
  rotate_left 2
  · simp only [List.getElem?_toArray, List.getElem?_cons_succ, List.getElem?_cons_zero]; rfl
  · kernel_rfl
  · kernel_rfl
  · kernel_rfl
  · exact fun _ _ _ h => h
  · refine Or.inl ⟨by rfl, ?_⟩
    intro w' hSw
    (try dsimp only at hSw)
    go_simp
    all_goals (with_reducible rfl)
  · assumption
  try simp only [Act.put, List.setIfInBounds_toArray, List.set_cons_zero, List.set_cons_succ]
  refine wpAnyH_take (i := 25) (oi := ?_) (v := ?_) ?_ ?_ ?_ ?_ ?_ ?_ ?_ ?_
  rotate_left 2
  · simp only [List.getElem?_toArray, List.getElem?_cons_succ, List.getElem?_cons_zero]; rfl
  · kernel_rfl
  · kernel_rfl
  · kernel_rfl
  · exact fun _ _ _ h => h
  · refine Or.inl ⟨by rfl, ?_⟩
    intro w' hSw
    (try dsimp only at hSw)
    go_simp
    all_goals (with_reducible rfl)
  · assumption
  try simp only [Act.put, List.setIfInBounds_toArray, List.set_cons_zero, List.set_cons_succ]
  refine wpAnyH_take (i := 26) (oi := ?_) (v := ?_) ?_ ?_ ?_ ?_ ?_ ?_ ?_ ?_
  rotate_left 2
  · simp only [List.getElem?_toArray, List.getElem?_cons_succ, List.getElem?_cons_zero]; rfl
  · kernel_rfl
  · kernel_rfl
  · kernel_rfl
  · exact fun _ _ _ h => h
  · refine Or.inl ⟨by rfl, ?_⟩
    intro w' hSw
    (try dsimp only at hSw)
    go_simp
    all_goals (with_reducible rfl)
  · assumption
  try simp only [Act.put, List.setIfInBounds_toArray, List.set_cons_zero, List.set_cons_succ]
  refine wpAnyH_take (i := 27) (oi := ?_) (v := ?_) ?_ ?_ ?_ ?_ ?_ ?_ ?_ ?_
  rotate_left 2
  · simp only [List.getElem?_toArray, List.getElem?_cons_succ, List.getElem?_cons_zero]; rfl
  · kernel_rfl
  · kernel_rfl
  · kernel_rfl
  · exact fun _ _ _ h => h
  · refine Or.inl ⟨by rfl, ?_⟩
    intro w' hSw
    (try dsimp only at hSw)
    go_simp
    all_goals (with_reducible rfl)
  · assumption
  try simp only [Act.put, List.setIfInBounds_toArray, List.set_cons_zero, List.set_cons_succ]
  refine wpAnyH_take (i := 28) (oi := ?_) (v := ?_) ?_ ?_ ?_ ?_ ?_ ?_ ?_ ?_
  rotate_left 2
  · simp only [List.getElem?_toArray, List.getElem?_cons_succ, List.getElem?_cons_zero]; rfl
  · kernel_rfl
  · kernel_rfl
  · kernel_rfl
  · exact fun _ _ _ h => h
  · refine Or.inl ⟨by rfl, ?_⟩
    intro w' hSw
    (try dsimp only at hSw)
    go_simp
    all_goals (with_reducible rfl)
  · assumption
  try simp only [Act.put, List.setIfInBounds_toArray, List.set_cons_zero, List.set_cons_succ]
  refine wpAnyH_take (i := 29) (oi := ?_) (v := ?_) ?_ ?_ ?_ ?_ ?_ ?_ ?_ ?_
  rotate_left 2
  · simp only [List.getElem?_toArray, List.getElem?_cons_succ, List.getElem?_cons_zero]; rfl
  · kernel_rfl
  · kernel_rfl
  · kernel_rfl
  · exact fun _ _ _ h => h
  · refine Or.inl ⟨by rfl, ?_⟩
    intro w' hSw
    (try dsimp only at hSw)
    go_simp
    all_goals (with_reducible rfl)
  · assumption
  try simp only [Act.put, List.setIfInBounds_toArray, List.set_cons_zero, List.set_cons_succ]
  refine wpAnyH_take (i := 30) (oi := ?_) (v := ?_) ?_ ?_ ?_ ?_ ?_ ?_ ?_ ?_
  rotate_left 2
  · simp only [List.getElem?_toArray, List.getElem?_cons_succ, List.getElem?_cons_zero]; rfl
  · kernel_rfl
  · kernel_rfl
  · kernel_rfl
  · exact fun _ _ _ h => h
  · refine Or.inl ⟨by rfl, ?_⟩
    intro w' hSw
    (try dsimp only at hSw)
    go_simp
    all_goals (with_reducible rfl)
  · assumption
  try simp only [Act.put, List.setIfInBounds_toArray, List.set_cons_zero, List.set_cons_succ]
  refine wpAnyH_ready (rs := [31]) (by kernel_rfl) (by simp) ?_
  refine AllReadyH.cons (o := ?_) ?_ ?_ ?_
  rotate_left 1
  · simp only [List.getElem?_toArray, List.getElem?_cons_succ, List.getElem?_cons_zero]; rfl
  rotate_left 1
  · exact AllReadyH.nil
  intro K hK
  go_simp
  skip
  refine hK.out _ _ (SB.out _ N3.out) (fun hHeld => ?_)
  clear hK K
  try simp only [Act.put, List.setIfInBounds_toArray, List.set_cons_zero, List.set_cons_succ]
  refine wpAnyH_ready (rs := [32]) (by kernel_rfl) (by simp) ?_
  refine AllReadyH.cons (o := ?_) ?_ ?_ ?_
  rotate_left 1
  · simp only [List.getElem?_toArray, List.getElem?_cons_succ, List.getElem?_cons_zero]; rfl
  rotate_left 1
  · exact AllReadyH.nil
  intro K hK
  go_simp
  rw [nine_setR K3.out]
  refine hK.out _ _ (SX.out _) (fun hHeld => ?_)
  clear hK K
  try simp only [Act.put, List.setIfInBounds_toArray, List.set_cons_zero, List.set_cons_succ]
  refine wpAnyH_done (by kernel_rfl) ?_ _
  clear hHeld hw3 k3r k3w
  obtain ⟨b3, hb3⟩ : ∃ x, x = w2.heap.size := ⟨_, rfl⟩
  rw [← hb3] at H3 K3 ⊢
  have f4 : Fr (fun k => k = b3) w3 (setObj w3 b3 (.cells (rlC L m Bu n Ce k W Tr false) 29 (0, 0))) := Fr.setObj (F := fun k => k = b3) (Fr.refl _ _) rfl _
  have k4 : Blk (setObj w3 b3 (.cells (rlC L m Bu n Ce k W Tr false) 29 (0, 0))) b3 29 (rlC L m Bu n Ce k W Tr false) := setObj_at (lt_of_block K3.out) _
  change Exit.then _ _ _ _ (setObj w3 b3 (.cells (rlC L m Bu n Ce k W Tr false) 29 (0, 0))).drew
  generalize setObj w3 b3 (.cells (rlC L m Bu n Ce k W Tr false) 29 (0, 0)) = w4 at f4 k4 ⊢
  have Z4 := Lib.hid (And.intro ((K1.out.keep N3'.out).fr f4 (by have := H3.out; omega)).drew (And.intro ((K2.out.keep N3'.out).fr f4 (by have := H3.out; omega)).drew (show Below w2.heap.size w2 w4.drew from below_draws (N3'.out.trans (f4.below N3'.out.size (fun k hk => by omega))) 1)))
  have k4 := k4.drew
  change Exit.then _ _ _ _ w4.drew
  generalize w4.drew = w4 at k4 Z4 ⊢
  have K4 := Lib.hid k4
  have HB3 := Lib.hid hb3
  have z1 := Z4.out.1.rd
  have z2 := Z4.out.2.1.wr
  have z2r := Z4.out.2.1.rd
  have z4 := k4.rd
  have z4w := k4.wr
  clear f4 k4 hb3
  cases sm
  · go_upto_region 5 with (fail)
    rw [setCell_obj K4.out]
    simp only [List.setIfInBounds_toArray, List.set_cons_zero, List.set_cons_succ]
    clear z4 z4w
    have f5 : Fr (fun k => k = b3) w4 (setObj w4 b3 (.cells (rlC L m Bu n Ce k W Tr false) 29 (0, 0))) := Fr.setObj (F := fun k => k = b3) (Fr.refl _ _) rfl _
    have k5 : Blk (setObj w4 b3 (.cells (rlC L m Bu n Ce k W Tr false) 29 (0, 0))) b3 29 (rlC L m Bu n Ce k W Tr false) := setObj_at (lt_of_block K4.out) _
    generalize setObj w4 b3 (.cells (rlC L m Bu n Ce k W Tr false) 29 (0, 0)) = w5 at f5 k5 ⊢
    have Y2 := Lib.hid (Z4.out.2.1.fr f5 (by have := H3.out; omega))
    have q5 : Below w2.heap.size w4 w5 := f5.below Z4.out.2.2.size (fun k hk => by have h1 := HB3.out; have h2 : k = b3 := hk; omega)
    have B5 := Lib.hid (Z4.out.2.2.trans q5)
    have z5 := k5.rd
    have y2 := Y2.out.rd
    have y2w := Y2.out.wr
    clear f5 k5 z1 z2 z2r q5
    go_wp2
    rw [nine_setR Y2.out]
    rw [show (false && decide ((1 : Int) < (n : Int))) = false from rfl]
    refine bodyPost_ret (results_cell_row rfl _ _ b2 _ _ (0, 0) _ rfl (setObj_at (lt_of_block Y2.out) _) Tryz.underlying29 rfl (by kernel_rfl)) rfl ⟨rfl, ?_⟩
    have hb := HB.out
    have b5 := below_in BL.out B5.out
    exact b5.trans ((Fr.setObj (F := fun k => k = b2) (Fr.refl _ _) rfl _).below b5.size (fun k hk => by omega))
  · go_upto_region 5 with (fail)
    rw [setCell_obj K4.out]
    simp only [List.setIfInBounds_toArray, List.set_cons_zero, List.set_cons_succ]
    clear z4 z4w
    obtain ⟨q, hq⟩ : ∃ q, q = decide ((1 : Int) < (n : Int)) := ⟨_, rfl⟩
    have HQ := Lib.hid (show (true && decide ((1 : Int) < (n : Int))) = q from by rw [hq]; rfl)
    rw [← hq]
    clear hq
    have f5 : Fr (fun k => k = b3) w4 (setObj w4 b3 (.cells (rlC L m Bu n Ce k W Tr q) 29 (0, 0))) := Fr.setObj (F := fun k => k = b3) (Fr.refl _ _) rfl _
    have k5 : Blk (setObj w4 b3 (.cells (rlC L m Bu n Ce k W Tr q) 29 (0, 0))) b3 29 (rlC L m Bu n Ce k W Tr q) := setObj_at (lt_of_block K4.out) _
    generalize setObj w4 b3 (.cells (rlC L m Bu n Ce k W Tr q) 29 (0, 0)) = w5 at f5 k5 ⊢
    have Y2 := Lib.hid (Z4.out.2.1.fr f5 (by have := H3.out; omega))
    have q5 : Below w2.heap.size w4 w5 := f5.below Z4.out.2.2.size (fun k hk => by have h1 := HB3.out; have h2 : k = b3 := hk; omega)
    have B5 := Lib.hid (Z4.out.2.2.trans q5)
    have z5 := k5.rd
    have y2 := Y2.out.rd
    have y2w := Y2.out.wr
    clear f5 k5 z1 z2 z2r q5
    go_wp2
    rw [nine_setR Y2.out]
    rw [HQ.out]
    refine bodyPost_ret (results_cell_row rfl _ _ b2 _ _ (0, 0) _ rfl (setObj_at (lt_of_block Y2.out) _) Tryz.underlying29 rfl (by kernel_rfl)) rfl ⟨rfl, ?_⟩
    have hb := HB.out
    have b5 := below_in BL.out B5.out
    exact b5.trans ((Fr.setObj (F := fun k => k = b2) (Fr.refl _ _) rfl _).below b5.size (fun k hk => by omega))
/-- a plan's limiter. -/
theorem lmplan_new (a b c d e f g h : Int) (sm : Bool) (A0 : Option Addr) (n0 c0 : Nat) (zs : List Int) (w : World) (hr : RdI w .u64 A0 n0 c0 zs) :
    Calls Tryz.prog 18 #[rlV (lqL a) ((lqS b * lqN d : Nat) : Int) (lqB a c) (lqN d : Nat) (lqC e : Nat) (lqR f : Nat) (lqW g : Nat) (lqT h : Nat) sm, .slice A0 n0 c0] w fun v w' => ∃ N : LmN, v = .returned (.pointer (some ⟨N.l, 0, none⟩)) ∧ LmAt w' N (lmZ (lqC e)) ∧ LmP N (lqL a) ((lqS b * lqN d : Nat) : Int) (lqB a c) (lqN d) (lqS b) (lqR f) (lqW g) (lqC e) (lqT h) sm (rX zs) (rA zs) (rB zs) ∧ (∀ b, N.all b → w.heap.size ≤ b) ∧ Below w.heap.size w w' := by
  have h1 : 1 ≤ lqN d ∧ lqN d ≤ 8 := by unfold lqN; omega
  have h2 : 1 ≤ lqS b ∧ lqS b ≤ 32 := by unfold lqS; omega
  have h3 : 1 ≤ lqW g ∧ lqW g ≤ 16 := by unfold lqW; omega
  have h4 : 1 ≤ lqR f ∧ lqR f ≤ 4 := by unfold lqR; omega
  have h5 : 1 ≤ lqC e ∧ lqC e ≤ 8 := by unfold lqC; omega
  have h6 : 1 ≤ lqT h ∧ lqT h ≤ 8 := by unfold lqT; omega
  have h7 : 1 ≤ lqL a ∧ lqL a ≤ 32 := by unfold lqL; omega
  have hm : lqS b * lqN d ≤ 32 * 8 := Nat.mul_le_mul h2.2 h1.2
  have hd : ((lqS b * lqN d : Nat) : Int) / ((lqN d : Nat) : Int) = ((lqS b : Nat) : Int) := by
    rw [← Int.natCast_ediv, Nat.mul_div_cancel _ (by omega)]
  have hkw : lqR f * lqW g ≤ 4 * 16 := Nat.mul_le_mul h4.2 h3.2
  have hall : (lqN d + 1) * (8 * (lqR f * lqW g)) ≤ 9 * (8 * (4 * 16)) := Nat.mul_le_mul (by omega) (by omega)
  exact lmnew_any (lqL a) _ (lqB a c) (lqN d) (lqS b) (lqR f) (lqW g) (lqC e) (lqT h) sm (by omega) (lqB_bd a c) ⟨Int.natCast_nonneg _, by omega⟩ ⟨h1.1, by omega⟩ ⟨hd, h2.1⟩ ⟨h4.1, by omega⟩ ⟨h3.1, Nat.le_trans hall (by decide)⟩ ⟨h5.1, by omega⟩ ⟨h6.1, by omega⟩ A0 n0 c0 zs w hr
theorem unitZ_bd {W n : Int} (hW : 1 ≤ W) (hn : 1 ≤ n) : 1 ≤ unitZ W n ∧ unitZ W n ≤ W := by
  unfold unitZ
  rw [if_neg (by omega)]
  have h1 := Int.mul_ediv_add_emod W n
  have h2 := Int.emod_nonneg W (show n ≠ 0 by omega)
  have h3 := Int.emod_lt_of_pos W (show 0 < n by omega)
  have h4 : 0 ≤ W / n := Int.ediv_nonneg (by omega) (by omega)
  have h5 : W / n ≤ W := Int.ediv_le_self _ (by omega)
  have h6 : 1 * (W / n) ≤ n * (W / n) := Int.mul_le_mul_of_nonneg_right hn h4
  split
  · rename_i h0
    rw [h0] at h1
    refine ⟨?_, h5⟩
    by_cases hz : W / n = 0
    · rw [hz, Int.mul_zero] at h1; omega
    · omega
  · refine ⟨by omega, ?_⟩
    by_cases hz : W / n = 0
    · omega
    · by_cases hn1 : n = 1
      · subst hn1
        omega
      · have h7 : 2 * (W / n) ≤ n * (W / n) := Int.mul_le_mul_of_nonneg_right (by omega) h4
        omega
/-- a plan's limiter, as it is made: its numbers. -/
theorem lmplan_I {N : LmN} {a b c d e f g h : Int} {sm : Bool} {X A B : Nat → Nat} {w : World} (hA : LmAt w N (lmZ (lqC e))) (hp : LmP N (lqL a) ((lqS b * lqN d : Nat) : Int) (lqB a c) (lqN d) (lqS b) (lqR f) (lqW g) (lqC e) (lqT h) sm X A B) : LmI N (lmZ (lqC e)) 0 0 := by
  have h1 : 1 ≤ lqN d ∧ lqN d ≤ 8 := by unfold lqN; omega
  have h2 : 1 ≤ lqS b ∧ lqS b ≤ 32 := by unfold lqS; omega
  have h7 : 1 ≤ lqL a ∧ lqL a ≤ 32 := by unfold lqL; omega
  have hm : lqS b * lqN d ≤ 32 * 8 := Nat.mul_le_mul h2.2 h1.2
  have hm1 : 1 * 1 ≤ lqS b * lqN d := Nat.mul_le_mul h2.1 h1.1
  have hB := lqB_bd a c
  have hu := unitZ_bd (W := ((lqS b * lqN d : Nat) : Int)) (n := lqL a + 1 - lqB a c) (by omega) (by omega)
  refine ⟨⟨w, hA.hr⟩, FewR.new N.R, fun _ _ _ => Int.le_refl _, Int.le_refl _, by omega, fun c hc => ?_, ⟨Int.le_refl _, Int.le_refl _⟩, ⟨Int.le_refl _, Int.le_refl _⟩, ⟨Int.le_refl _, Int.le_refl _⟩, by omega, ?_, ?_, ?_, ?_⟩
  · rw [List.eq_of_mem_replicate hc]
    show (0 ≤ (0 : Int) ∧ (0 : Int) ≤ 0 + 1099511627776) ∧ (0 ≤ (0 : Int) ∧ (0 : Int) ≤ 0) ∧ (0 ≤ (0 : Int) ∧ (0 : Int) ≤ 0) ∧ 0 ≤ (0 : Int) ∧ (0 : Int) ≤ 0
    omega
  · rw [hp.pU]; omega
  · rw [hp.pW]; omega
  · rw [hp.pB]; omega
  · rw [hp.pL]; omega
end Go.Proofs.YtbgcpljekcagiaaGreat
/- The laws of layer 12: their arguments; Light, alike. -/
namespace Go.Proofs.YtbgcpljekcagiaaGreat
set_option linter.unusedSimpArgs false
set_option linter.unusedVariables false
set_option maxRecDepth 100000
open Go.ChangeShapes Go.WideShapes Go.ChangeAt Go.RowKit Go.Deep
open Ar (inR)
/-- a call: how much later, how much, whose, a peek? -/
abbrev Cl := Int × Int × ByteArray × Bool
abbrev encCl (a : Cl) : Nat → Value
  | 0 => .int .i64 a.1
  | 1 => .int .i64 a.2.1
  | 2 => .string a.2.2.1
  | _ => .bool a.2.2.2
def okCl (a : Cl) : Prop := (-9223372036854775808 ≤ a.1 ∧ a.1 ≤ 9223372036854775807) ∧ (-9223372036854775808 ≤ a.2.1 ∧ a.2.1 ≤ 9223372036854775807) ∧ a.2.2.1.size ≤ maxLen
section
variable {H : Type} {enc : TypeId × Value → H} {P : Program}
theorem open_cl {W : World} {base : Nat} {r : Reach} {b0 : Nat} {t e : TypeId} {f0 f1 f2 f3 : Field} {v : Value} {d : DataW H} {p : List MemPlace} (ht : P.underlying t = some (.slice e)) (he : P.underlying e = some (.struct #[f0, f1, f2, f3]))
    (hone : oneCellFields P #[f0, f1, f2, f3] = true) (hC : P.cellsOf e = 4) (k0 : P.underlying f0.type = some (.int .i64)) (k1 : P.underlying f1.type = some (.int .i64)) (k2 : P.underlying f2.type = some .string) (k3 : P.underlying f3.type = some .bool)
    (hv : Value.okWide P W r b0 t v) (h : DataW.Trod enc P W base (fun _ => true) true t v d p) : ∃ A n c L, v = .slice A n c ∧ RdL W A n c 4 encCl L ∧ ∀ a ∈ L, okCl a :=
  open_rdL encCl okCl ht he hone hC (by simp) (fun V hV => by
    obtain ⟨x, h1, h2⟩ := row_i64 k0 (hV 0 f0 rfl)
    obtain ⟨y, h5, h6⟩ := row_i64 k1 (hV 1 f1 rfl)
    obtain ⟨s, h3, h4⟩ := row_str k2 (hV 2 f2 rfl)
    obtain ⟨b, h7⟩ := row_bool k3 (hV 3 f3 rfl)
    refine ⟨(x, y, s, b), ⟨h2, h6, h4⟩, fun j hj => ?_⟩
    match j with
    | 0 => exact h1
    | 1 => exact h5
    | 2 => exact h3
    | 3 => exact h7
    | j + 4 => exact absurd (show j + 4 < 4 from hj) (by omega)) hv h
end
theorem box4C (X : World) (a b c d : Value) : ∃ w1 w2, X.alloc (.cells #[.int .i64 0, .int .i64 0, .string ⟨#[]⟩, .bool false] 36) = w1 ∧
    (∀ j, w1.cell? ⟨X.heap.size, j, none⟩ = (#[.int .i64 0, .int .i64 0, .string ⟨#[]⟩, .bool false] : Array Value)[j]?) ∧ (∀ j, w1.frozen? ⟨X.heap.size, j, none⟩ = false) ∧
    (((w1.setCell ⟨X.heap.size, 0, none⟩ a).setCell ⟨X.heap.size, 1, none⟩ b).setCell ⟨X.heap.size, 2, none⟩ c).setCell ⟨X.heap.size, 3, none⟩ d = w2 ∧
    Below X.heap.size X w2 ∧ Blk w2 X.heap.size 36 #[a, b, c, d] := by
  obtain ⟨w1, hw1, kc1, l1, s1⟩ := box_new X #[.int .i64 0, .int .i64 0, .string ⟨#[]⟩, .bool false] 36
  exact ⟨w1, _, hw1, kc1.rd, kc1.wr, four_setC kc1, l1.trans ((Fr.setObj (F := fun k => k = X.heap.size) (Fr.refl _ _) rfl _).below l1.size (fun k hk => by omega)), setObj_at (lt_of_block kc1) _⟩
/-- are calls light? -/
def lightC (L : List Cl) : Bool := decide (L.length ≤ 150) && L.all fun a => decide (a.2.2.1.size ≤ 64)
theorem lightC_pre {L : List Cl} (h : ¬ 150 < L.length) : lightC L = L.all fun a => decide (a.2.2.1.size ≤ 64) := by
  unfold lightC; rw [decide_eq_true (by omega)]; rfl
theorem lightC_at {L : List Cl} (h : lightC L = true) : L.length ≤ 150 ∧ ∀ a ∈ L, a.2.2.1.size ≤ 64 := by
  unfold lightC at h
  rw [Bool.and_eq_true, decide_eq_true_iff, List.all_eq_true] at h
  exact ⟨h.1, fun a ha => of_decide_eq_true (h.2 a ha)⟩
theorem allC_up {L : List Cl} {i : Nat} {a : Cl} (h : L[i]? = some a) (hs : a.2.2.1.size ≤ 64) (hp : ∀ j b, j < i → L[j]? = some b → b.2.2.1.size ≤ 64) : ∀ j b, j < i + 1 → L[j]? = some b → b.2.2.1.size ≤ 64 := by
  intro j b hj hb
  by_cases e : j = i
  · subst e; rw [h] at hb; cases hb; exact hs
  · exact hp j b (by omega) hb
set_option maxHeartbeats 1000000 in
theorem lmlight_any (A : Option Addr) (n c : Nat) (L : List Cl) (w : World) (hr : RdL w A n c 4 encCl L) (hok : ∀ a ∈ L, okCl a) :
    Calls Tryz.prog 16 #[.slice A n c] w fun e w' => e = .returned (.bool (lightC L)) ∧ Below w.heap.size w w' := by
  have hmx := hr.max
  unfold maxLen at hmx
  have hcp := hr.cap
  have hlen := hr.len
  by_cases hn : 150 < n
  · have e : lightC L = false := by unfold lightC; rw [hlen, decide_eq_false (by omega)]; rfl
    rw [e]
    have t1 : decide ((150 : Int) < (n : Int)) = true := by rw [decide_eq_true_iff]; omega
    clear hr hok hlen e
    go_enter Tryz.func16, Tryz.ntmps16
    go_wp2
    go_ret
    exact ⟨rfl, Below.refl _ _⟩
  have HR := Lib.hid hr
  have HO := Lib.hid hok
  have HE := Lib.hid (lightC_pre (L := L) (by omega))
  have t1 : decide ((150 : Int) < (n : Int)) = false := by rw [decide_eq_false_iff_not]; omega
  have HLn := Lib.hid hlen
  clear hr hok hlen
  go_enter Tryz.func16, Tryz.ntmps16
  go_wp2
  go_loopg [10] n (fun kk si wr => ∃ i : Nat, i ≤ n ∧ Hid (kk = n - i) ∧ si = .int .i64 (i : Int) ∧ Hid (Below w.heap.size w wr) ∧ Hid (∀ j b, j < i → L[j]? = some b → b.2.2.1.size ≤ 64))
  case atStart => exact ⟨0, by omega, Lib.hid rfl, rfl, Lib.hid (Below.refl _ _), Lib.hid (fun j b h => absurd h (by omega))⟩
  case round =>
    obtain ⟨i, hi, HKK, rfl, HB, HA⟩ := hrel
    by_cases hin : i < n
    · obtain ⟨b, off, rfl, hbl, hc⟩ := (HR.out.below HB.out).at_ (by omega)
      obtain ⟨⟨gp, cs, ky, pk⟩, ha⟩ : ∃ a, L[i]? = some a := ⟨_, List.getElem?_eq_getElem (by rw [HLn.out]; exact hin)⟩
      have hoka := HO.out _ (List.mem_of_getElem? ha)
      have kr0 : wr.cell? ⟨b, off + i * 4, none⟩ = some (.int .i64 gp) := hc i _ ha 0 (by omega)
      have kr1 : wr.cell? ⟨b, off + i * 4 + 1, none⟩ = some (.int .i64 cs) := hc i _ ha 1 (by omega)
      have kr2 : wr.cell? ⟨b, off + i * 4 + 2, none⟩ = some (.string ky) := hc i _ ha 2 (by omega)
      have kr3 : wr.cell? ⟨b, off + i * 4 + 3, none⟩ = some (.bool pk) := hc i _ ha 3 (by omega)
      unfold okCl maxLen at hoka
      simp only at hoka
      obtain ⟨_, _, hky⟩ := hoka
      obtain ⟨x1, x2, ex1, kr, kw, ex2, bl2, kc2⟩ := box4C wr (.int .i64 gp) (.int .i64 cs) (.string ky) (.bool pk)
      have BL := Lib.hid (HB.out.trans (bl2.mono HB.out.size))
      have kc3 := kc2.rd
      have t2 : (i : Int) < (n : Int) := by omega
      have t3 : (n : Int) ≤ 150 := by omega
      have HIA := Lib.hid (And.intro ha hin)
      clear hc hbl ha bl2 kc2
      go_upto_region 6 with (fail)
      clear kr kw ex1 kr0 kr1 kr2 kr3 ex2
      by_cases h1 : (64 : Int) < (ky.size : Int)
      · have H1 := Lib.hid h1
        go_wp2
        go_ret
        have e : lightC L = false := by
          rw [HE.out, List.all_eq_false]
          exact ⟨(gp, cs, ky, pk), List.mem_of_getElem? HIA.out.1, by have := H1.out; simp; omega⟩
        exact ⟨by rw [e]; rfl, BL.out⟩
      · have H1 := Lib.hid h1
        go_wp2
        go_roundg (n - (i + 1))
        case measure => have := HKK.out; have := HIA.out.2; omega
        case rel => exact ⟨i + 1, HIA.out.2, Lib.hid rfl, by go_num, BL, Lib.hid (allC_up HIA.out.1 (by show ky.size ≤ 64; have := H1.out; omega) HA.out)⟩
    · have hie : i = n := by omega
      subst hie
      have e : lightC L = true := by
        rw [HE.out, List.all_eq_true]
        intro a ha
        obtain ⟨j, hj, he⟩ := List.getElem_of_mem ha
        have := HA.out j a (by have := HLn.out; omega) (by rw [List.getElem?_eq_getElem hj, he])
        simpa using this
      have HE2 := Lib.hid e
      clear e
      go_wp2
      go_ret
      exact ⟨by rw [HE2.out]; rfl, HB.out⟩
theorem evL_get (now : Int) : ∀ (l : List (ByteArray × Bool)) (i : Nat) (x : ByteArray × Bool), l[i]? = some x → (evL now l)[i * 4]? = some (.int .i64 0) ∧ (evL now l)[i * 4 + 1]? = some (.string x.1) ∧ (evL now l)[i * 4 + 2]? = some (.bool x.2) ∧ (evL now l)[i * 4 + 3]? = some (.int .i64 now)
  | [], i, x, h => by simp at h
  | y :: l, 0, x, h => by
    have : y = x := by simpa using h
    subst this
    exact ⟨rfl, rfl, rfl, rfl⟩
  | y :: l, i + 1, x, h => by
    have ih := evL_get now l i x (by simpa using h)
    rw [show (i + 1) * 4 = i * 4 + 1 + 1 + 1 + 1 by omega]
    exact ih
end Go.Proofs.YtbgcpljekcagiaaGreat
/- The laws of layer 12: fit. -/
namespace Go.Proofs.YtbgcpljekcagiaaGreat
set_option linter.unusedSimpArgs false
set_option linter.unusedVariables false
set_option maxRecDepth 100000
open Go.ChangeShapes Go.WideShapes Go.ChangeAt Go.RowKit
open Ar (inR)
theorem lsum_zeroF (R : RgN) (t : Int) (num : Nat → Int) (s : ByteArray) (a b : Int) : ∀ j, lsum R ⟨t, num, fun _ _ _ => 0⟩ s a b j = 0
  | 0 => rfl
  | j + 1 => by
    unfold lsum
    rw [lsum_zeroF R t num s a b j]
    split
    · rw [show (fun (_ : Nat) (_ : Nat) => (0 : Int)) = (fun _ _ => 0) from rfl, least_zero]; rfl
    · rfl
/-- a ring with nothing in it. -/
theorem est_zeroF {R : RgN} (hs : 1 ≤ R.s) (t : Int) (num : Nat → Int) (s : ByteArray) : estZ R ⟨t, num, fun _ _ _ => 0⟩ s = 0 := by
  unfold estZ eldZ
  simp only [lsum_zeroF]
  have h : leftZ R.s t 0 = 0 := by
    unfold leftZ
    rw [Int.zero_mul, Int.zero_add]
    exact Int.ediv_eq_zero_of_lt (by omega) (by omega)
  cases R.sm
  · rfl
  · simp only [if_true, h]; rfl
section
variable {N : LmN} {X A B : Nat → Nat}
def fitK : KSt := ⟨[], fun j => if j = 0 then some ⟨#[97]⟩ else none⟩
def fitA : LmS := ⟨fitK, [(9, 5, 0, 1)], ⟨5, fun _ => 0, fun _ _ _ => 0⟩, [(⟨#[97]⟩, 1, 0)], 1, 1, 0, 0⟩
theorem fit_one (hp : LmP N 3 10 1 1 10 1 1 1 1 false X A B) : (lmZ 1).check N 5 0 ⟨#[97]⟩ 1 = (fitA, (1, 0, 0), [(⟨#[97]⟩, true)]) := by
  have hu : N.U = 4 := by rw [hp.pU]; decide
  have hr : refZ N 5 0 1 = ((0, 0, 0), false) := by unfold refZ; rw [hp.pB]; decide
  have hs : (lmZ 1).seen N 5 ⟨#[97]⟩ 1 = ⟨kNew 1, [(0, 0, 0, 0)], ⟨5, fun _ => 0, fun _ _ _ => 0⟩, [(⟨#[97]⟩, 1, 0)], 1, 0, 0, 0⟩ := by
    unfold LmS.seen
    rw [hp.pT]
    rw [show offerM 1 (lmZ 1).M (lmZ 1).tot ⟨#[97]⟩ 1 = ([(⟨#[97]⟩, 1, 0)], 1) by decide]
    rfl
  have he := fun s => est_zeroF (R := N.R) (by rw [hp.ps]; decide) 5 (fun _ => 0) s
  have ha : LmS.adm ⟨kNew 1, [(0, 0, 0, 0)], ⟨5, fun _ => 0, fun _ _ _ => 0⟩, [(⟨#[97]⟩, 1, 0)], 1, 0, 0, 0⟩ N 5 ⟨#[97]⟩ = (⟨fitK, [(5, 5, 0, 0)], ⟨5, fun _ => 0, fun _ _ _ => 0⟩, [(⟨#[97]⟩, 1, 0)], 1, 0, 0, 0⟩, [(⟨#[97]⟩, true)]) := by
    unfold LmS.adm LmS.full LmS.put
    rw [hp.pC]
    simp only [he]
    rfl
  have hj : LmS.judge ⟨fitK, [(5, 5, 0, 0)], ⟨5, fun _ => 0, fun _ _ _ => 0⟩, [(⟨#[97]⟩, 1, 0)], 1, 0, 0, 0⟩ N 5 ⟨#[97]⟩ 1 = ((1, 0, 0), ⟨fitK, [(9, 5, 0, 1)], ⟨5, fun _ => 0, fun _ _ _ => 0⟩, [(⟨#[97]⟩, 1, 0)], 1, 0, 0, 0⟩) := by
    unfold LmS.judge
    rw [hp.pC, hu, hp.pW, hp.pB, hp.pL]
    rfl
  unfold LmS.check
  rw [hr, hs, ha]
  simp only [Bool.false_eq_true, if_false]
  rw [hj]
  rfl
theorem fit_two (hp : LmP N 3 10 1 1 10 1 1 1 1 false X A B) : ∃ s r, fitA.check N 5 0 ⟨#[98]⟩ 1 = (s, (1, r, 0), []) ∧ s.al = 2 := by
  have hu : N.U = 4 := by rw [hp.pU]; decide
  have hr : refZ N 5 0 1 = ((0, 0, 0), false) := by unfold refZ; rw [hp.pB]; decide
  have hs : fitA.seen N 5 ⟨#[98]⟩ 1 = ⟨fitK, [(9, 5, 0, 1)], ⟨5, fun _ => 0, fun _ _ _ => 0⟩, [(⟨#[98]⟩, 2, 1)], 2, 1, 0, 0⟩ := by
    unfold LmS.seen
    rw [hp.pT]
    rw [show offerM 1 fitA.M fitA.tot ⟨#[98]⟩ 1 = ([(⟨#[98]⟩, 2, 1)], 2) by decide]
    rfl
  have ha : LmS.adm ⟨fitK, [(9, 5, 0, 1)], ⟨5, fun _ => 0, fun _ _ _ => 0⟩, [(⟨#[98]⟩, 2, 1)], 2, 1, 0, 0⟩ N 5 ⟨#[98]⟩ = (⟨fitK, [(9, 5, 0, 1)], ⟨5, fun _ => 0, fun _ _ _ => 0⟩, [(⟨#[98]⟩, 2, 1)], 2, 1, 0, 0⟩, []) := by
    have hg : LmS.giver ⟨fitK, [(9, 5, 0, 1)], ⟨5, fun _ => 0, fun _ _ _ => 0⟩, [(⟨#[98]⟩, 2, 1)], 2, 1, 0, 0⟩ N 5 ⟨#[98]⟩ = none := by
      unfold LmS.giver LmS.light LmS.res
      rw [hp.pC, hp.pW, hp.pT]
      rfl
    unfold LmS.adm LmS.full
    rw [hp.pC, hg]
    rfl
  have he := est_zeroF (R := N.R) (by rw [hp.ps]; decide) 5 (fun _ => 0) ⟨#[98]⟩
  have hj : ∃ r s, LmS.judge ⟨fitK, [(9, 5, 0, 1)], ⟨5, fun _ => 0, fun _ _ _ => 0⟩, [(⟨#[98]⟩, 2, 1)], 2, 1, 0, 0⟩ N 5 ⟨#[98]⟩ 1 = ((1, r, 0), s) ∧ s.al = 1 ∧ s.de = 0 ∧ s.ba = 0 := by
    unfold LmS.judge
    rw [hp.pC]
    show ∃ r s, (if clamp (estZ N.R ⟨5, fun _ => 0, fun _ _ _ => 0⟩ ⟨#[98]⟩ + 1) ≤ N.L then _ else _) = _ ∧ _
    rw [he, hp.pL]
    exact ⟨_, _, rfl, rfl, rfl, rfl⟩
  obtain ⟨r, s, hj, h1, h2, h3⟩ := hj
  refine ⟨s.count 1, r, ?_, ?_⟩
  · unfold LmS.check
    rw [hr, hs, ha]
    simp only [Bool.false_eq_true, if_false]
    rw [hj]
  · show s.al + 1 = 2
    rw [h1]; rfl
theorem fit_A {w : World} (hA : LmAt w N (lmZ 1)) (hp : LmP N 3 10 1 1 10 1 1 1 1 false X A B) : LmI N (lmZ 1) 0 0 := lmplan_I (a := 2) (b := 9) (c := 0) (d := 0) (e := 0) (f := 0) (g := 0) (h := 0) (sm := false) hA hp
theorem fit_AI (hp : LmP N 3 10 1 1 10 1 1 1 1 false X A B) (h : LmI N (lmZ 1) 0 0) : LmI N fitA 5 2097153 := by
  have h1 := (h.mono (t' := 5) (m' := 0) (by omega) (by omega)).check (by omega) 0 ⟨#[97]⟩ 1
  rw [fit_one hp] at h1
  exact h1
set_option maxHeartbeats 4000000 in
theorem lmfit_any (w : World) : Calls Tryz.prog 15 #[] w fun e w' => e = .returned (.bool true) ∧ Below w.heap.size w w' := by
  have CRu := Lib.hid (fun wx => show Calls Tryz.prog 17 #[planV 2 9 0 0 0 0 0 0 false] wx (fun e w' => e = .returned (rlV 3 10 1 1 1 1 1 1 false) ∧ Below wx.heap.size wx w') from lmrule_any 2 9 0 0 0 0 0 0 false wx)
  have CNw := Lib.hid (fun wx => show Calls Tryz.prog 18 #[rlV 3 10 1 1 1 1 1 1 false, .slice none 0 0] wx (fun v w' => ∃ N : LmN, v = .returned (.pointer (some ⟨N.l, 0, none⟩)) ∧ LmAt w' N (lmZ 1) ∧ LmP N 3 10 1 1 10 1 1 1 1 false (rX []) (rA []) (rB []) ∧ (∀ b, N.all b → wx.heap.size ≤ b) ∧ Below wx.heap.size wx w') from lmplan_new 2 9 0 0 0 0 0 0 false none 0 0 [] wx (rdI_none wx _))
  go_enter Tryz.func15, Tryz.ntmps15
  go_upto_region 2 with (first
    | (go_at_call 17; ((with_reducible refine (CRu.out _).mono ?_); rintro e w1 ⟨rfl, b1⟩; have B1 := Lib.hid b1; clear b1))
    | (go_at_call 18; ((with_reducible refine (CNw.out _).mono ?_); rintro e w2 ⟨N, rfl, a2, p2, n2, b2⟩; have A2 := Lib.hid a2; have P2 := Lib.hid p2; have B2 := Lib.hid (below_in B1.out b2); have NW := Lib.hid (show ∀ b, N.all b → w.heap.size ≤ b from fun b hb => Nat.le_trans B1.out.size (n2 b hb)); have I2 := Lib.hid (fit_A a2 p2); clear a2 p2 n2 b2)))
  clear CRu CNw
  have c1 := lmcheckI (N := N) 5 0 ⟨#[97]⟩ 1 (by show 1 ≤ maxLen; unfold maxLen; omega) (by unfold inR; omega) (by unfold inR; omega) w2 A2.out (I2.out.mono (t' := 5) (m' := 0) (by omega) (by omega)) (by omega)
  rw [fit_one P2.out] at c1
  have C1 := Lib.hid c1
  clear c1
  go_upto_region 4 with (fail)
  go_upto_region 5 with (go_at_call 24; ((with_reducible refine C1.out.mono ?_); rintro e w3 ⟨v3, rfl, o3, a3, f3⟩; obtain ⟨x3, c3, rfl, q1, q2, q3⟩ := G.own_at o3; obtain ⟨g3, rfl, _, hg3, hl3, hc3, _⟩ := q3 (by show 0 < 1; omega); have A3 := Lib.hid a3; have B3 := Lib.hid (show Below w.heap.size w w3 from B2.out.trans (f3.below B2.out.size (fun b hb => NW.out b hb))); have O3 := Lib.hid (show g3 < w3.heap.size ∧ w3.cell? ⟨g3, 2, none⟩ = some (.bool true) ∧ ¬ N.all g3 from ⟨hl3, (hc3 2 (by show 2 < 1 * 4; omega)).trans rfl, fun hb => by have := A2.out.lt _ hb; omega⟩); have Q3 := Lib.hid (And.intro q1 q2); clear a3 f3 o3 q1 q2 q3 hc3 hg3 hl3; obtain ⟨x4, w4, ex4, kr4, kw4, ey4, b4, k4⟩ := box3R w3 40 (.int .i64 0) (.int .i64 0) (.int .i64 0) (.int .i64 1) (.int .i64 0) (.int .i64 0)))
  have H4 := Lib.hid (And.intro (A3.out.keep b4) (And.intro (below_in B3.out b4) (And.intro k4 (And.intro (show ∀ b, N.all b → b < w3.heap.size from fun b hb => A3.out.lt b hb) ((b4.cell (p := ⟨g3, 2, none⟩) O3.out.1).trans O3.out.2.1)))))
  clear ex4 kr4 kw4 ey4 b4 k4
  obtain ⟨b5, hb5⟩ : ∃ x, x = w3.heap.size := ⟨_, rfl⟩
  rw [← hb5] at H4 ⊢
  have HB5 := Lib.hid (show g3 < b5 from by rw [hb5]; exact O3.out.1)
  clear hb5
  have I4 := Lib.hid (fit_AI P2.out I2.out)
  obtain ⟨s6, r6, e6, al6⟩ := fit_two P2.out
  have c2 := lmcheckI (N := N) 5 0 ⟨#[98]⟩ 1 (by show 1 ≤ maxLen; unfold maxLen; omega) (by unfold inR; omega) (by unfold inR; omega) w4 H4.out.1 I4.out (by omega)
  rw [e6] at c2
  have C2 := Lib.hid c2
  have HAL := Lib.hid al6
  clear c2 e6 al6
  go_upto_region 6 with (go_at_call 24; ((with_reducible refine C2.out.mono ?_); rintro e w5 ⟨v5, rfl, o5, a5, f5⟩; obtain ⟨x5, c5, rfl, q1, q2, q3⟩ := G.own_at o5; have A5 := Lib.hid a5; have B5 := Lib.hid (show Below w.heap.size w w5 from H4.out.2.1.trans (f5.below H4.out.2.1.size (fun b hb => NW.out b hb))); clear o5 q1 q2 q3; obtain ⟨x6, w6, ex6, kr6, kw6, ey6, b6, k6⟩ := box3R w5 40 (.int .i64 0) (.int .i64 0) (.int .i64 0) (.int .i64 1) (.int .i64 r6) (.int .i64 0)))
  have K6 := Lib.hid ((H4.out.2.2.1.fr f5 (fun hb => by have := H4.out.2.2.2.1 _ hb; omega)).keep b6)
  have kg : w6.cell? ⟨g3, 2, none⟩ = some (.bool true) := (b6.cell (p := ⟨g3, 2, none⟩) (Nat.lt_of_lt_of_le (Nat.lt_trans HB5.out (lt_of_block H4.out.2.2.1)) f5.size)).trans ((f5.cell (Nat.lt_trans HB5.out (lt_of_block H4.out.2.2.1)) O3.out.2.2).trans H4.out.2.2.2.2)
  have c3' := lmtotals_any w6 (A5.out.keep b6)
  rw [HAL.out] at c3'
  have C3 := Lib.hid c3'
  have B6 := Lib.hid (below_in B5.out b6)
  have k5 := K6.out.rd
  obtain ⟨z1, hz1⟩ : ∃ z, z = s6.de := ⟨_, rfl⟩
  obtain ⟨z2, hz2⟩ : ∃ z, z = s6.ba := ⟨_, rfl⟩
  obtain ⟨z3, hz3⟩ : ∃ z, z = s6.len N := ⟨_, rfl⟩
  obtain ⟨z4, hz4⟩ : ∃ z, z = s6.tot := ⟨_, rfl⟩
  rw [← hz1, ← hz2, ← hz3, ← hz4] at C3
  have hfld : ∀ w, Sem.run Tryz.prog (Instr.field 47 (totV 2 z1 z2 z3 z4) 0) w = .ok (.int .i64 2) w := fun w => rfl
  clear hz1 hz2 hz3 hz4 c3' a5 f5 ex6 kr6 kw6 ey6 b6 k6
  go_wp2_with (go_at_call 27; ((with_reducible refine C3.out.mono ?_); rintro e w7 ⟨rfl, b7⟩; have B7 := Lib.hid (below_in B6.out b7); clear b7))
  go_ret
  exact ⟨rfl, B7.out⟩
end
end Go.Proofs.YtbgcpljekcagiaaGreat
/- The laws of layer 12: a limiter of the law's own. -/
namespace Go.Proofs.YtbgcpljekcagiaaGreat
set_option linter.unusedSimpArgs false
set_option linter.unusedVariables false
set_option maxRecDepth 100000
open Go.ChangeShapes Go.WideShapes Go.ChangeAt Go.RowKit
open Ar (inR)
structure LmLaw (W w : World) (N : LmN) (s : LmS) (t m : Int) : Prop where
  at_ : LmAt w N s
  I : LmI N s t m
  lo : ∀ b, N.all b → W.heap.size ≤ b
  bl : Below W.heap.size W w
section
variable {W w w' : World} {N : LmN} {s s' : LmS} {t t' m m' : Int}
theorem LmLaw.keep (h : LmLaw W w N s t m) (hb : Below w.heap.size w w') : LmLaw W w' N s t m := ⟨h.at_.keep hb, h.I, h.lo, below_in h.bl hb⟩
theorem LmLaw.op {F : Nat → Prop} (h : LmLaw W w N s t m) (h1 : LmAt w' N s') (hI : LmI N s' t' m') (hf : Fr F w w') (hF : ∀ b, F b → N.all b) : LmLaw W w' N s' t' m' := ⟨h1, hI, h.lo, h.bl.trans (hf.below h.bl.size (fun b hb => h.lo b (hF b hb)))⟩
theorem LmLaw.mono (h : LmLaw W w N s t m) (ht : t ≤ t' ∧ t' ≤ 4611686018427387904) (hm : m ≤ m' ∧ m' ≤ 576460752303423488) : LmLaw W w N s t' m' := ⟨h.at_, h.I.mono ht hm, h.lo, h.bl⟩
theorem LmLaw.ne (h : LmLaw W w N s t m) {b : Nat} (hb : w.heap.size ≤ b) : ¬ N.all b := fun g => by have := h.at_.lt b g; omega
end
/-- what the laws know of a plan's limiter. -/
theorem lmplan_B {N : LmN} {a b c d e f g h : Int} {sm : Bool} {X A B : Nat → Nat} (hp : LmP N (lqL a) ((lqS b * lqN d : Nat) : Int) (lqB a c) (lqN d) (lqS b) (lqR f) (lqW g) (lqC e) (lqT h) sm X A B) : LmB N ∧ N.B = lqB a c ∧ 1 ≤ lqB a c ∧ lqB a c ≤ 32 := by
  have h1 : 1 ≤ lqN d ∧ lqN d ≤ 8 := by unfold lqN; omega
  have h2 : 1 ≤ lqS b ∧ lqS b ≤ 32 := by unfold lqS; omega
  have h7 : 1 ≤ lqL a ∧ lqL a ≤ 32 := by unfold lqL; omega
  have hm : (lqN d + 1) * lqS b ≤ 9 * 32 := Nat.mul_le_mul (by omega) h2.2
  have hB := lqB_bd a c
  refine ⟨⟨?_, ?_, ?_⟩, hp.pB, hB.1, by omega⟩
  · rw [hp.pB, hp.pL]; exact hB.2
  · rw [hp.pRL, hp.pL]
  · rw [hp.pn, hp.ps, ← Int.natCast_mul]; omega
/-- a call's answer, laid in a box. -/
theorem boxA (X : World) (a b c : Int) : ∃ w1 w2, X.alloc (.cells #[.int .i64 0, .int .i64 0, .int .i64 0] 40) = w1 ∧
    (∀ j, w1.cell? ⟨X.heap.size, j, none⟩ = (#[.int .i64 0, .int .i64 0, .int .i64 0] : Array Value)[j]?) ∧ (∀ j, w1.frozen? ⟨X.heap.size, j, none⟩ = false) ∧
    ((w1.setCell ⟨X.heap.size, 0, none⟩ (.int .i64 a)).setCell ⟨X.heap.size, 1, none⟩ (.int .i64 b)).setCell ⟨X.heap.size, 2, none⟩ (.int .i64 c) = w2 ∧
    Below X.heap.size X w2 ∧ Blk w2 X.heap.size 40 #[.int .i64 a, .int .i64 b, .int .i64 c] := box3R X 40 _ _ _ _ _ _
end Go.Proofs.YtbgcpljekcagiaaGreat
/- The laws of layer 12: what rows have at least; limiters of one rule; peeks of residents. -/
namespace Go.Proofs.YtbgcpljekcagiaaGreat
set_option linter.unusedSimpArgs false
set_option linter.unusedVariables false
set_option maxRecDepth 100000
open Go.ChangeShapes Go.WideShapes Go.ChangeAt Go.RowKit
open Ar (inR)
/-- two rings of one rule and one row of functions. -/
structure RgE (R1 R2 : RgN) : Prop where
  n : R1.n = R2.n
  s : R1.s = R2.s
  rl : R1.L = R2.L
  sm : R1.sm = R2.sm
  k : R1.k = R2.k
  w : R1.W = R2.W
  x : R1.X = R2.X
  a : R1.A = R2.A
  b : R1.B = R2.B
section
variable {R1 R2 : RgN}
theorem RgE.P (h : RgE R1 R2) : R1.P = R2.P := by unfold RgN.P; rw [h.w, h.x, h.a, h.b]
theorem RgE.now (h : RgE R1 R2) (σ : RgS) : σ.now R1 = σ.now R2 := by unfold RgS.now; rw [h.s]
theorem RgE.lsum (h : RgE R1 R2) (σ : RgS) (s : ByteArray) (a b : Int) : ∀ j, lsum R1 σ s a b j = lsum R2 σ s a b j
  | 0 => rfl
  | j + 1 => by
    unfold Go.Proofs.YtbgcpljekcagiaaGreat.lsum
    rw [RgE.lsum h σ s a b j, h.P, h.k]
theorem RgE.est (h : RgE R1 R2) (σ : RgS) (s : ByteArray) : estZ R1 σ s = estZ R2 σ s := by
  unfold estZ eldZ
  simp only [h.lsum, h.now, h.n, h.sm, h.s]
theorem RgE.room (h : RgE R1 R2) (σ : RgS) (s : ByteArray) (c x : Int) : roomAt R1 σ s c x ↔ roomAt R2 σ s c x := by
  unfold roomAt
  simp only [h.lsum, h.now, h.n, h.rl]
theorem RgE.next (h : RgE R1 R2) (σ : RgS) (s : ByteArray) (c : Int) : ∀ (j : Nat) (x : Int), nextR R1 σ s c j x = nextR R2 σ s c j x
  | 0, _ => rfl
  | j + 1, x => by
    unfold nextR
    rw [RgE.next h σ s c j (x + 1)]
    by_cases hr : roomAt R1 σ s c x
    · rw [if_pos hr, if_pos ((h.room σ s c x).1 hr)]
    · rw [if_neg hr, if_neg (fun g => hr ((h.room σ s c x).2 g))]
theorem RgE.wait (h : RgE R1 R2) (σ : RgS) (s : ByteArray) (c : Int) : waitR R1 σ s c = waitR R2 σ s c := by
  unfold waitR
  simp only [h.est, h.next, h.now, h.n, h.rl, h.s]
theorem RgE.add (h : RgE R1 R2) (σ : RgS) (s : ByteArray) (c : Int) : σ.add R1 s c = σ.add R2 s c := by
  unfold RgS.add RgS.pl
  rw [h.now, h.n, h.P, h.k]
end
/-- two limiters of one rule and one pair of draws. -/
structure LmE (N1 N2 : LmN) : Prop where
  U : N1.U = N2.U
  W : N1.W = N2.W
  B : N1.B = N2.B
  L : N1.L = N2.L
  q : N1.Q.N.n = N2.Q.N.n
  t : N1.S.N.n = N2.S.N.n
  n : N1.R.n = N2.R.n
  s : N1.R.s = N2.R.s
  rl : N1.R.L = N2.R.L
  sm : N1.R.sm = N2.R.sm
  k : N1.R.k = N2.R.k
  rw_ : N1.R.W = N2.R.W
  x : N1.R.X = N2.R.X
  a : N1.R.A = N2.R.A
  b : N1.R.B = N2.R.B
section
variable {N1 N2 : LmN}
theorem LmE.r (h : LmE N1 N2) : RgE N1.R N2.R := ⟨h.n, h.s, h.rl, h.sm, h.k, h.rw_, h.x, h.a, h.b⟩
theorem LmE.ref (h : LmE N1 N2) (now held cost : Int) : refZ N1 now held cost = refZ N2 now held cost := by unfold refZ; rw [h.B]
theorem LmE.left (h : LmE N1 N2) (s : LmS) (key : ByteArray) : s.left N1 key = s.left N2 key := by unfold LmS.left; rw [h.L, h.B, h.r.est]
theorem LmE.judge (h : LmE N1 N2) (s : LmS) (now : Int) (key : ByteArray) (cost : Int) : s.judge N1 now key cost = s.judge N2 now key cost := by
  unfold LmS.judge
  simp only [h.q, h.U, h.W, h.B, h.L, h.r.est, h.r.add, h.r.wait, h.left]
theorem LmE.res (h : LmE N1 N2) (s : LmS) : s.res N1 = s.res N2 := by unfold LmS.res; rw [h.q]
theorem LmE.giver (h : LmE N1 N2) (s : LmS) (now : Int) (key : ByteArray) : s.giver N1 now key = s.giver N2 now key := by
  unfold LmS.giver LmS.light
  have ht : N1.S.N.n = N2.S.N.n := h.t
  simp only [h.res, h.W, ht]
theorem LmE.evict (h : LmE N1 N2) (s : LmS) (now : Int) (key : ByteArray) : s.evict N1 now key = s.evict N2 now key := by
  unfold LmS.evict
  simp only [h.q, h.U, h.W, h.L, h.r.add]
theorem LmE.put (h : LmE N1 N2) (s : LmS) (now : Int) (key : ByteArray) : s.put N1 now key = s.put N2 now key := by
  unfold LmS.put
  simp only [h.q, h.r.est]
theorem LmE.adm (h : LmE N1 N2) (s : LmS) (now : Int) (key : ByteArray) : s.adm N1 now key = s.adm N2 now key := by
  unfold LmS.adm LmS.full
  simp only [h.q, h.giver, h.evict, h.put]
theorem LmE.seen (h : LmE N1 N2) (s : LmS) (now : Int) (key : ByteArray) (cost : Int) : s.seen N1 now key cost = s.seen N2 now key cost := by
  unfold LmS.seen
  rw [h.t]
theorem LmE.check (h : LmE N1 N2) (s : LmS) (now held : Int) (key : ByteArray) (cost : Int) : s.check N1 now held key cost = s.check N2 now held key cost := by
  unfold LmS.check
  rw [h.ref, h.seen, h.adm, h.judge]
theorem LmE.resi (h : LmE N1 N2) (s : LmS) (now : Int) (key : ByteArray) : s.resi N1 now key = s.resi N2 now key := by
  unfold LmS.resi LmS.full
  simp only [h.q, h.res, h.W, h.r.est]
theorem LmE.peek (h : LmE N1 N2) (s : LmS) (now held : Int) (key : ByteArray) (cost : Int) : s.peek N1 now held key cost = s.peek N2 now held key cost := by
  unfold LmS.peek
  simp only [h.ref, h.resi, h.U, h.W, h.B, h.L, h.r.wait, h.left]
theorem LmE.len (h : LmE N1 N2) (s : LmS) : s.len N1 = s.len N2 := by unfold LmS.len; rw [h.q]
end
/-- what two limiters that were made alike have of one rule. -/
theorem LmP.same {N1 N2 : LmN} {L Wd Bu : Int} {Sl s k W Ce Tr : Nat} {sm : Bool} {X A B : Nat → Nat} (h1 : LmP N1 L Wd Bu Sl s k W Ce Tr sm X A B) (h2 : LmP N2 L Wd Bu Sl s k W Ce Tr sm X A B) : LmE N1 N2 :=
  ⟨h1.pU.trans h2.pU.symm, h1.pW.trans h2.pW.symm, h1.pB.trans h2.pB.symm, h1.pL.trans h2.pL.symm, h1.pC.trans h2.pC.symm, h1.pT.trans h2.pT.symm, h1.pn.trans h2.pn.symm, h1.ps.trans h2.ps.symm, h1.pRL.trans h2.pRL.symm, h1.psm.trans h2.psm.symm, h1.pk.trans h2.pk.symm, h1.pRW.trans h2.pRW.symm, h1.pX.trans h2.pX.symm, h1.pA.trans h2.pA.symm, h1.pRB.trans h2.pRB.symm⟩
/-! #### what a key without a cell is answered -/
section
variable {N : LmN} {s : LmS} {now m cost : Int}
theorem count_σ (v : Int) : (s.count v).σ = s.σ := by
  unfold LmS.count
  split
  · rfl
  · split
    · rfl
    · split <;> rfl
theorem judge_σ (key : ByteArray) : (s.judge N now key cost).2.σ = s.σ := by
  unfold LmS.judge
  split
  · split <;> rfl
  · split <;> rfl
end
end Go.Proofs.YtbgcpljekcagiaaGreat
/- The laws of layer 12: two limiters; what peeks leave and tell. -/
namespace Go.Proofs.YtbgcpljekcagiaaGreat
set_option linter.unusedSimpArgs false
set_option linter.unusedVariables false
set_option maxRecDepth 100000
open Go.ChangeShapes Go.WideShapes Go.ChangeAt Go.RowKit
open Ar (inR)
/-- two limiters of the law's own. -/
structure LmTwo (W w : World) (N1 N2 : LmN) (s1 s2 : LmS) (t1 t2 m : Int) : Prop where
  a : LmLaw W w N1 s1 t1 m
  b : LmLaw W w N2 s2 t2 m
  ap : ∀ k, N1.all k → ¬ N2.all k
section
variable {W w w' : World} {N1 N2 : LmN} {s1 s2 s' : LmS} {t1 t2 t1' t2' m m' : Int}
theorem LmTwo.keep (h : LmTwo W w N1 N2 s1 s2 t1 t2 m) (hb : Below w.heap.size w w') : LmTwo W w' N1 N2 s1 s2 t1 t2 m := ⟨h.a.keep hb, h.b.keep hb, h.ap⟩
theorem LmTwo.mono (h : LmTwo W w N1 N2 s1 s2 t1 t2 m) (ht1 : t1 ≤ t1' ∧ t1' ≤ 4611686018427387904) (ht2 : t2 ≤ t2' ∧ t2' ≤ 4611686018427387904) (hm : m ≤ m' ∧ m' ≤ 576460752303423488) : LmTwo W w N1 N2 s1 s2 t1' t2' m' := ⟨h.a.mono ht1 hm, h.b.mono ht2 hm, h.ap⟩
theorem LmTwo.op1 {F : Nat → Prop} (h : LmTwo W w N1 N2 s1 s2 t1 t2 m) (h1 : LmAt w' N1 s') (hI : LmI N1 s' t1' m') (hm : m ≤ m') (hf : Fr F w w') (hF : ∀ b, F b → N1.all b) : LmTwo W w' N1 N2 s' s2 t1' t2 m' :=
  ⟨h.a.op h1 hI hf hF, ⟨h.b.at_.fr hf (fun k hk hk1 => h.ap k (hF k hk1) hk), h.b.I.mono ⟨Int.le_refl _, h.b.I.t0.2⟩ ⟨hm, hI.m.2⟩, h.b.lo, h.b.bl.trans (hf.below h.b.bl.size (fun b hb => h.a.lo b (hF b hb)))⟩, h.ap⟩
theorem LmTwo.op2 {F : Nat → Prop} (h : LmTwo W w N1 N2 s1 s2 t1 t2 m) (h1 : LmAt w' N2 s') (hI : LmI N2 s' t2' m') (hm : m ≤ m') (hf : Fr F w w') (hF : ∀ b, F b → N2.all b) : LmTwo W w' N1 N2 s1 s' t1 t2' m' :=
  ⟨⟨h.a.at_.fr hf (fun k hk hk1 => h.ap k hk (hF k hk1)), h.a.I.mono ⟨Int.le_refl _, h.a.I.t0.2⟩ ⟨hm, hI.m.2⟩, h.a.lo, h.a.bl.trans (hf.below h.a.bl.size (fun b hb => h.b.lo b (hF b hb)))⟩, h.b.op h1 hI hf hF, h.ap⟩
end
theorem answer_equal (a b c a' b' c' : Int) (w : World) :
    (Op.equalIn 10000 40 (.agg #[.int .i64 a, .int .i64 b, .int .i64 c]) (.agg #[.int .i64 a', .int .i64 b', .int .i64 c'])).run Tryz.prog w = .ok (decide (a = a' ∧ b = b' ∧ c = c')) w := by
  have hS : Tryz.prog.underlying 40 = some (.struct (Tryz.prog.fieldsOf 40)) := by kernel_rfl
  have hp : Tryz.prog.stoodInHeld 40 = false := by kernel_rfl
  rw [show (10000 : Nat) = 9999 + 1 from rfl, run_equalIn_agg w 9999 40 _ _ hS hp]
  simp only [Program.fieldsOf, Tryz.underlying40]
  go_simp
  by_cases h1 : a = a' <;> by_cases h2 : b = b' <;> by_cases h3 : c = c' <;> simp [h1, h2, h3]
theorem totals_equal (a b c d e a' b' c' d' e' : Int) (w : World) :
    (Op.equalIn 10000 47 (.agg #[.int .i64 a, .int .i64 b, .int .i64 c, .int .i64 d, .int .i64 e]) (.agg #[.int .i64 a', .int .i64 b', .int .i64 c', .int .i64 d', .int .i64 e'])).run Tryz.prog w = .ok (decide (a = a' ∧ b = b' ∧ c = c' ∧ d = d' ∧ e = e')) w := by
  have hS : Tryz.prog.underlying 47 = some (.struct (Tryz.prog.fieldsOf 47)) := by kernel_rfl
  have hp : Tryz.prog.stoodInHeld 47 = false := by kernel_rfl
  rw [show (10000 : Nat) = 9999 + 1 from rfl, run_equalIn_agg w 9999 47 _ _ hS hp]
  simp only [Program.fieldsOf, Tryz.underlying47]
  go_simp
  by_cases h1 : a = a' <;> by_cases h2 : b = b' <;> by_cases h3 : c = c' <;> by_cases h4 : d = d' <;> by_cases h5 : e = e' <;> simp [h1, h2, h3, h4, h5]
/-- a limiter whose ring's time is another. -/
def LmS.at (s : LmS) (x : Int) : LmS := { s with r := ⟨x, s.r.num, s.r.F⟩ }
section
variable {N : LmN} {s : LmS} {now m cost x : Int}
theorem admit_t (key : ByteArray) : (s.adm N now key).1.r.t = s.r.t := by
  unfold LmS.adm
  split
  · rfl
  · split
    · split <;> rfl
    · rfl
end
end Go.Proofs.YtbgcpljekcagiaaGreat
/- The law LimiterPeeks of layer 12 (limiter), walked. -/
namespace Go.Proofs.YtbgcpljekcagiaaGreat
set_option linter.unusedSimpArgs false
set_option linter.unusedVariables false
set_option maxRecDepth 100000
open Go.ChangeShapes Go.WideShapes Go.ChangeAt Go.RowKit
open Ar (inR)
theorem check_ev {N : LmN} {s : LmS} {now held cost : Int} (key : ByteArray) : (s.check N now held key cost).2.2.length ≤ 2 := by
  unfold LmS.check
  split
  · exact Nat.zero_le _
  · show ((s.seen N now key cost).adm N now key).2.length ≤ 2
    unfold LmS.adm
    split
    · exact Nat.zero_le _
    · split
      · split
        · exact Nat.le_refl _
        · exact Nat.zero_le _
      · exact Nat.le_succ _
end Go.Proofs.YtbgcpljekcagiaaGreat
/- The law LimiterEvents of layer 12 (limiter): the plain side: which keys get and lose cells. -/
namespace Go.Proofs.YtbgcpljekcagiaaGreat
set_option linter.unusedSimpArgs false
set_option linter.unusedVariables false
set_option maxRecDepth 100000
open Go.ChangeShapes Go.WideShapes Go.ChangeAt Go.RowKit
open Ar (inR)
/-- a pool's keys and free places, and what becomes of them. -/
structure KsOk (n : Nat) (σ : KSt) : Prop where
  pl : Places n σ.fl σ.K
  inj : ∀ i j s, σ.K i = some s → σ.K j = some s → i = j
  bd : ∀ i s, σ.K i = some s → i < n ∧ s.size ≤ 64
theorem LmAt.ks {w : World} {N : LmN} {s : LmS} (h : LmAt w N s) : KsOk N.Q.N.n s.σ := by
  have u := h.hp.ix.uni
  exact ⟨u.2.2.2, u.1, u.2.1⟩
section
variable {n : Nat} {σ : KSt}
theorem posN_iff {K : Nat → Option ByteArray} {k : ByteArray} : (posN n K k).isSome = true ↔ ∃ i, i < n ∧ K i = some k := by
  constructor
  · intro h
    obtain ⟨i, hi⟩ := Option.isSome_iff_exists.1 h
    exact ⟨i, posN_some hi⟩
  · rintro ⟨i, hi, hk⟩
    cases hp : posN n K k with
    | some j => rfl
    | none => exact absurd hk (posN_none hp i hi)
theorem posN_isNone {K : Nat → Option ByteArray} {k : ByteArray} (h : ¬ (posN n K k).isSome = true) : posN n K k = none := by
  cases hp : posN n K k with
  | none => rfl
  | some i => rw [hp] at h; exact absurd rfl h
/-- which keys are there, when one has come to a free place. -/
theorem res_put {K : Nat → Option ByteArray} {i : Nat} {key : ByteArray} (hi : i < n) (hK : K i = none) (k : ByteArray) : ((posN n (fun j => if j = i then some key else K j) k).isSome = true) ↔ (k = key ∨ (posN n K k).isSome = true) := by
  rw [posN_iff, posN_iff]
  constructor
  · rintro ⟨j, hj, hk⟩
    by_cases e : j = i
    · rw [if_pos e] at hk; exact Or.inl (Option.some.inj hk).symm
    · rw [if_neg e] at hk; exact Or.inr ⟨j, hj, hk⟩
  · rintro (e | ⟨j, hj, hk⟩)
    · exact ⟨i, hi, by rw [if_pos rfl, e]⟩
    · refine ⟨j, hj, ?_⟩
      rw [if_neg (fun e => by rw [e, hK] at hk; cases hk)]
      exact hk
/-- which keys are there, when one has come to another one's place. -/
theorem res_swap (hinj : ∀ i j s, σ.K i = some s → σ.K j = some s → i = j) {i : Nat} {o key : ByteArray} (hi : i < n) (hK : σ.K i = some o) (hne : key ≠ o) (k : ByteArray) : ((posN n (fun j => if j = i then some key else σ.K j) k).isSome = true) ↔ (k = key ∨ (k ≠ o ∧ (posN n σ.K k).isSome = true)) := by
  rw [posN_iff, posN_iff]
  constructor
  · rintro ⟨j, hj, hk⟩
    by_cases e : j = i
    · rw [if_pos e] at hk; exact Or.inl (Option.some.inj hk).symm
    · rw [if_neg e] at hk
      refine Or.inr ⟨fun h => e (hinj j i o (by rw [hk, h]) hK), j, hj, hk⟩
  · rintro (e | ⟨e, j, hj, hk⟩)
    · exact ⟨i, hi, by rw [if_pos rfl, e]⟩
    · refine ⟨j, hj, ?_⟩
      rw [if_neg (fun h => e (by rw [h, hK] at hk; exact (Option.some.inj hk).symm))]
      exact hk
end
section
variable {N : LmN} {s : LmS} {now held cost : Int}
theorem light_in (f : ByteArray → Int) : ∀ (l : List (ByteArray × Cel)) (a : ByteArray × Int × Bool), (l.foldl (fun a x => lightS f a x.1) a).2.2 = true → (l.foldl (fun a x => lightS f a x.1) a) = a ∧ a.2.2 = true ∨ ∃ x ∈ l, x.1 = (l.foldl (fun a x => lightS f a x.1) a).1
  | [], a, h => Or.inl ⟨rfl, h⟩
  | x :: r, a, h => by
    rw [List.foldl_cons] at h ⊢
    rcases light_in f r (lightS f a x.1) h with ⟨h1, h2⟩ | ⟨y, hy, h1⟩
    · rw [h1]
      unfold lightS at h1 h2 ⊢
      split at h2
      · rename_i hc
        rw [if_pos hc]
        exact Or.inr ⟨x, List.mem_cons_self, rfl⟩
      · rename_i hc
        rw [if_neg hc]
        exact Or.inl ⟨rfl, h2⟩
    · exact Or.inr ⟨y, List.mem_cons_of_mem _ hy, h1⟩
/-- who gives a cell has one. -/
theorem giver_res {key o : ByteArray} (h : s.giver N now key = some o) : ∃ i, i < N.Q.N.n ∧ s.σ.K i = some o := by
  have hm : ∃ x ∈ s.res N, x.1 = o := by
    unfold LmS.giver at h
    cases hp : plIdle (s.res N) N.W now with
    | some x =>
      rw [hp] at h
      injection h with h
      exact ⟨x, List.mem_of_find?_eq_some hp, h⟩
    | none =>
      rw [hp] at h
      dsimp only at h
      split at h
      · cases h
      · split at h
        · cases h
        · rename_i hl
          injection h with h
          have h2 : (s.light N).2.2 = true := by
            cases hq : (s.light N).2.2
            · exact absurd (Or.inl hq) hl
            · rfl
          rcases light_in (mostM N.S.N.n s.M) (s.res N) (⟨#[]⟩, 0, false) h2 with ⟨_, h3⟩ | ⟨x, hx, h3⟩
          · cases h3
          · exact ⟨x, hx, h3.trans h⟩
  obtain ⟨x, hx, rfl⟩ := hm
  obtain ⟨i, hi, he⟩ := List.mem_filterMap.1 hx
  refine ⟨i, List.mem_range.1 hi, ?_⟩
  cases hk : s.σ.K i with
  | none => rw [hk] at he; cases he
  | some y =>
    rw [hk] at he
    injection he with he
    rw [← he]
/-- what a check does to the keys that have cells. -/
theorem adm_pool {key : ByteArray} (hk : KsOk N.Q.N.n s.σ) (hs : key.size ≤ 64) :
    ((s.adm N now key).2 = [] ∧ (s.adm N now key).1.σ = s.σ) ∨
    ((s.adm N now key).2 = [(key, true)] ∧ (posN N.Q.N.n s.σ.K key).isSome = false ∧ ∃ i, i < N.Q.N.n ∧ s.σ.K i = none ∧ (s.adm N now key).1.σ.K = (fun j => if j = i then some key else s.σ.K j) ∧ (s.adm N now key).1.σ.fl.length + 1 = s.σ.fl.length) ∨
    (∃ o i, (s.adm N now key).2 = [(o, false), (key, true)] ∧ (posN N.Q.N.n s.σ.K key).isSome = false ∧ key ≠ o ∧ o.size ≤ 64 ∧ i < N.Q.N.n ∧ s.σ.K i = some o ∧ (s.adm N now key).1.σ.K = (fun j => if j = i then some key else s.σ.K j) ∧ (s.adm N now key).1.σ.fl.length = s.σ.fl.length) := by
  unfold LmS.adm
  by_cases h1 : (posN N.Q.N.n s.σ.K key).isSome = true ∨ 64 < key.size
  · rw [if_pos h1]; exact Or.inl ⟨rfl, rfl⟩
  · rw [if_neg h1]
    have hp : posN N.Q.N.n s.σ.K key = none := posN_isNone (fun g => h1 (Or.inl g))
    have hpb : (posN N.Q.N.n s.σ.K key).isSome = false := by rw [hp]; rfl
    by_cases h2 : s.full N = true
    · rw [if_pos h2]
      cases ho : s.giver N now key with
      | none => exact Or.inl ⟨rfl, rfl⟩
      | some o =>
        obtain ⟨i0, hi0, hK0⟩ := giver_res ho
        have hpo : (posN N.Q.N.n s.σ.K o).isSome = true := posN_iff.2 ⟨i0, hi0, hK0⟩
        obtain ⟨i, hi⟩ := Option.isSome_iff_exists.1 hpo
        obtain ⟨hin, hKi⟩ := posN_some hi
        have hne : key ≠ o := fun e => by rw [← e, hp] at hi; cases hi
        refine Or.inr (Or.inr ⟨o, i, rfl, hpb, hne, (hk.bd i o hKi).2, hin, hKi, ?_⟩)
        have hdel : s.σ.del N.Q.N.n o = (⟨s.σ.fl ++ [i], fun j => if j = i then none else s.σ.K j⟩, some i) := by
          unfold KSt.del; rw [hi]
        have hev : (s.evict N now o).σ = ⟨s.σ.fl ++ [i], fun j => if j = i then none else s.σ.K j⟩ := by
          unfold LmS.evict; rw [hdel]
        have hpk : posN N.Q.N.n (fun j => if j = i then none else s.σ.K j) key = none := by
          refine posN_isNone (fun g => ?_)
          obtain ⟨j, hj, hkj⟩ := posN_iff.1 g
          by_cases e : j = i
          · rw [if_pos e] at hkj; cases hkj
          · rw [if_neg e] at hkj; exact posN_none hp j hj hkj
        have hput : (s.evict N now o).σ.put N.Q.N.n key = (⟨s.σ.fl, fun j => if j = i then some key else if j = i then none else s.σ.K j⟩, some i) := by
          rw [hev]
          unfold KSt.put
          rw [hpk]
          dsimp only
          rw [if_neg (by omega), List.getLast?_append]
          simp
        have hpt : ((s.evict N now o).put N now key).σ = ⟨s.σ.fl, fun j => if j = i then some key else if j = i then none else s.σ.K j⟩ := by
          show ((s.evict N now o).σ.put N.Q.N.n key).1 = _
          rw [hput]
        show ((s.evict N now o).put N now key).σ.K = _ ∧ ((s.evict N now o).put N now key).σ.fl.length = _
        rw [hpt]
        refine ⟨?_, rfl⟩
        funext j
        by_cases e : j = i
        · simp [e]
        · simp [e]
    · rw [if_neg h2]
      have hle := hk.pl.le
      have hfl : 1 ≤ s.σ.fl.length := by
        unfold LmS.full at h2
        rw [decide_eq_true_iff] at h2
        omega
      have hne : s.σ.fl ≠ [] := by intro g; rw [g] at hfl; simp at hfl
      have hf := hk.pl.free (List.getLast_mem hne)
      refine Or.inr (Or.inl ⟨rfl, hpb, s.σ.fl.getLast hne, hf.1, hf.2, ?_⟩)
      have hput : s.σ.put N.Q.N.n key = (⟨s.σ.fl.dropLast, fun j => if j = s.σ.fl.getLast hne then some key else s.σ.K j⟩, some (s.σ.fl.getLast hne)) := by
        unfold KSt.put
        rw [hp]
        dsimp only
        rw [if_neg (by omega), List.getLast?_eq_some_getLast hne]
      have hpt : (s.put N now key).σ = ⟨s.σ.fl.dropLast, fun j => if j = s.σ.fl.getLast hne then some key else s.σ.K j⟩ := by
        show (s.σ.put N.Q.N.n key).1 = _
        rw [hput]
      show (s.put N now key).σ.K = _ ∧ (s.put N now key).σ.fl.length + 1 = _
      rw [hpt]
      refine ⟨rfl, ?_⟩
      show s.σ.fl.dropLast.length + 1 = _
      rw [List.length_dropLast]; omega
/-- which keys are there, as a map has them. -/
def thereM (n : Nat) (σ : KSt) : ByteArray → Option Value := fun k => if (posN n σ.K k).isSome = true then some (.bool true) else none
/-- an event, told to a map of keys. -/
def stepE (M : ByteArray → Option Value) (x : ByteArray × Bool) : ByteArray → Option Value := fun k => if k = x.1 then (if x.2 then some (.bool true) else none) else M k
def stepC (c : Nat) (x : ByteArray × Bool) : Nat := if x.2 then c + 1 else c - 1
/-- events that may be: who gets a cell has none, who loses one has one. -/
def okE (key : ByteArray) : (ByteArray → Option Value) → List (ByteArray × Bool) → Prop
  | _, [] => True
  | M, x :: l => (M x.1 = if x.2 then none else some (.bool true)) ∧ (x.2 = true → x.1 = key) ∧ x.1.size ≤ 64 ∧ okE key (stepE M x) l
theorem check_pool {key : ByteArray} (hk : KsOk N.Q.N.n s.σ) (hs : key.size ≤ 64) :
    okE key (thereM N.Q.N.n s.σ) (s.check N now held key cost).2.2 ∧ (s.check N now held key cost).2.2.foldl stepE (thereM N.Q.N.n s.σ) = thereM N.Q.N.n (s.check N now held key cost).1.σ ∧
    (s.check N now held key cost).2.2.foldl stepC (N.Q.N.n - s.σ.fl.length) = N.Q.N.n - (s.check N now held key cost).1.σ.fl.length := by
  unfold LmS.check
  split
  · rw [count_σ]; exact ⟨trivial, rfl, rfl⟩
  · dsimp only
    rw [count_σ, judge_σ]
    have hle := hk.pl.le
    have hk' : KsOk N.Q.N.n (s.seen N now key cost).σ := hk
    have hth : thereM N.Q.N.n (s.seen N now key cost).σ = thereM N.Q.N.n s.σ := rfl
    have hsl : (s.seen N now key cost).σ = s.σ := rfl
    rcases adm_pool (now := now) hk' hs with ⟨h1, h2⟩ | ⟨h1, h2, i, h3, h4, h5, h6⟩ | ⟨o, i, h1, h2, h3, h4, h5, h6, h7, h8⟩
    · rw [h1, h2]; exact ⟨trivial, rfl, rfl⟩
    · rw [hsl] at h2 h4 h5 h6
      rw [h1]
      refine ⟨⟨?_, fun _ => rfl, hs, trivial⟩, ?_, ?_⟩
      · show thereM N.Q.N.n s.σ key = none
        unfold thereM
        rw [if_neg (by rw [h2]; simp)]
      · funext k
        show stepE (thereM N.Q.N.n s.σ) (key, true) k = _
        unfold stepE thereM
        rw [h5]
        have hr := res_put (n := N.Q.N.n) (key := key) h3 h4 k
        by_cases e : k = key
        · rw [if_pos e, if_pos (hr.2 (Or.inl e))]; rfl
        · rw [if_neg e]
          by_cases g : (posN N.Q.N.n s.σ.K k).isSome = true
          · rw [if_pos g, if_pos (hr.2 (Or.inr g))]
          · rw [if_neg g, if_neg (fun q => (hr.1 q).elim e g)]
      · show N.Q.N.n - s.σ.fl.length + 1 = _
        omega
    · rw [hsl] at h2 h6 h7 h8
      rw [h1]
      have ho : thereM N.Q.N.n s.σ o = some (.bool true) := by
        unfold thereM
        rw [if_pos (posN_iff.2 ⟨i, h5, h6⟩)]
      have hfl := hk.pl.lt (i := i) (by rw [h6]; rfl)
      refine ⟨⟨ho, fun q => (by cases q), h4, ?_, fun _ => rfl, hs, trivial⟩, ?_, ?_⟩
      · show stepE (thereM N.Q.N.n s.σ) (o, false) key = none
        unfold stepE
        rw [if_neg h3]
        unfold thereM
        rw [if_neg (by rw [h2]; simp)]
      · funext k
        show stepE (stepE (thereM N.Q.N.n s.σ) (o, false)) (key, true) k = _
        unfold stepE thereM
        rw [h7]
        have hr := res_swap (n := N.Q.N.n) (key := key) hk.inj h5 h6 h3 k
        by_cases e : k = key
        · rw [if_pos e, if_pos (hr.2 (Or.inl e))]; rfl
        · rw [if_neg e]
          by_cases eo : k = o
          · rw [if_pos eo, if_neg (fun q => (hr.1 q).elim e (fun z => z.1 eo))]; rfl
          · rw [if_neg eo]
            by_cases g : (posN N.Q.N.n s.σ.K k).isSome = true
            · rw [if_pos g, if_pos (hr.2 (Or.inr ⟨eo, g⟩))]
            · rw [if_neg g, if_neg (fun q => (hr.1 q).elim e (fun z => g z.2))]
      · show N.Q.N.n - s.σ.fl.length - 1 + 1 = _
        omega
theorem okE_at {key : ByteArray} : ∀ (l : List (ByteArray × Bool)) (M : ByteArray → Option Value) (j : Nat) (x : ByteArray × Bool), okE key M l → l[j]? = some x →
    ((l.take j).foldl stepE M x.1 = if x.2 then none else some (.bool true)) ∧ (x.2 = true → x.1 = key) ∧ x.1.size ≤ 64
  | [], M, j, x, _, h => by simp at h
  | y :: l, M, 0, x, ho, h => by
    have : y = x := by simpa using h
    subst this
    exact ⟨ho.1, ho.2.1, ho.2.2.1⟩
  | y :: l, M, j + 1, x, ho, h => okE_at l (stepE M y) j x ho.2.2.2 (by simpa using h)
theorem foldl_take {β : Type} (f : β → ByteArray × Bool → β) (b : β) {l : List (ByteArray × Bool)} {j : Nat} {x : ByteArray × Bool} (h : l[j]? = some x) : (l.take (j + 1)).foldl f b = f ((l.take j).foldl f b) x := by
  rw [List.take_add_one, h, List.foldl_append]
  rfl
end
end Go.Proofs.YtbgcpljekcagiaaGreat
/- The law LimiterTotals of layer 12 (limiter), walked. -/
namespace Go.Proofs.YtbgcpljekcagiaaGreat
set_option linter.unusedSimpArgs false
set_option linter.unusedVariables false
set_option maxRecDepth 100000
open Go.ChangeShapes Go.WideShapes Go.ChangeAt Go.RowKit
open Ar (inR)
section
variable {N : LmN} {s : LmS} {now held m cost : Int}
end
theorem LmLaw.box {W w w' : World} {N : LmN} {s : LmS} {t m : Int} {b : Nat} (h : LmLaw W w N s t m) (hf : Fr (fun k => k = b) w w') (hb : ¬ N.all b) (hW : W.heap.size ≤ b) : LmLaw W w' N s t m :=
  ⟨h.at_.fr hf (fun k hk e => hb (by rw [← e]; exact hk)), h.I, h.lo, h.bl.trans (hf.below h.bl.size (fun k e => by rw [e]; exact hW))⟩
end Go.Proofs.YtbgcpljekcagiaaGreat
/- The law LimiterShift of layer 12 (limiter): the plain side: rings and cells, some slots later. -/
namespace Go.Proofs.YtbgcpljekcagiaaGreat
set_option linter.unusedSimpArgs false
set_option linter.unusedVariables false
set_option maxRecDepth 100000
open Go.ChangeShapes Go.WideShapes Go.ChangeAt Go.RowKit
open Ar (inR)
/-! #### sums, turned round -/
def sumN (f : Nat → Int) : Nat → Int
  | 0 => 0
  | j + 1 => sumN f j + f j
theorem sumN_congr {f g : Nat → Int} : ∀ {n : Nat}, (∀ i, i < n → f i = g i) → sumN f n = sumN g n
  | 0, _ => rfl
  | n + 1, h => by
    show sumN f n + f n = sumN g n + g n
    rw [sumN_congr (fun i hi => h i (by omega)), h n (by omega)]
theorem sumN_front (f : Nat → Int) : ∀ n, sumN f (n + 1) = f 0 + sumN (fun i => f (i + 1)) n
  | 0 => by show (0 : Int) + f 0 = f 0 + 0; omega
  | n + 1 => by
    have ih := sumN_front f n
    show sumN f (n + 1) + f (n + 1) = f 0 + (sumN (fun i => f (i + 1)) n + f (n + 1))
    omega
theorem sumN_rot1 (f : Nat → Int) {n : Nat} (hn : 1 ≤ n) : sumN (fun i => f ((i + 1) % n)) n = sumN f n := by
  obtain ⟨m, rfl⟩ : ∃ m, n = m + 1 := ⟨n - 1, by omega⟩
  rw [sumN_front f m]
  show sumN (fun i => f ((i + 1) % (m + 1))) m + f ((m + 1) % (m + 1)) = _
  rw [Nat.mod_self, sumN_congr (f := fun i => f ((i + 1) % (m + 1))) (g := fun i => f (i + 1)) (fun i hi => by
    show f ((i + 1) % (m + 1)) = f (i + 1)
    rw [Nat.mod_eq_of_lt (by omega)])]
  omega
theorem sumN_rot (f : Nat → Int) {n : Nat} (hn : 1 ≤ n) : ∀ q, sumN (fun i => f ((i + q) % n)) n = sumN f n
  | 0 => sumN_congr fun i hi => by
    show f ((i + 0) % n) = f i
    rw [Nat.add_zero, Nat.mod_eq_of_lt hi]
  | q + 1 => by
    have ih := sumN_rot (fun j => f ((j + 1) % n)) hn q
    rw [sumN_rot1 f hn] at ih
    rw [← ih]
    refine sumN_congr fun i hi => ?_
    show f ((i + (q + 1)) % n) = f (((i + q) % n + 1) % n)
    rw [Nat.mod_add_mod, Nat.add_assoc]
theorem rot_inj {n i j q : Nat} (hi : i < n) (hj : j < n) (h : (i + q) % n = (j + q) % n) : i = j := by
  have h1 := Nat.sub_mod_eq_zero_of_mod_eq h
  have h2 := Nat.sub_mod_eq_zero_of_mod_eq h.symm
  rw [show i + q - (j + q) = i - j by omega, Nat.mod_eq_of_lt (by omega)] at h1
  rw [show j + q - (i + q) = j - i by omega, Nat.mod_eq_of_lt (by omega)] at h2
  omega
theorem rsum_sumN (R : RgN) (σ : RgS) (s : ByteArray) (a b : Int) : ∀ j, rsum R σ s a b j = sumN (fun i => if a ≤ σ.num i ∧ σ.num i ≤ b then Sk.leastR (σ.F i) R.P s (R.k - 1) else 0) j
  | 0 => rfl
  | j + 1 => by
    show rsum R σ s a b j + _ = sumN _ j + _
    rw [rsum_sumN R σ s a b j]
theorem least_non (P : Nat → ByteArray → Nat) (s : ByteArray) (r : Nat) : Sk.leastR (fun _ _ => 0) P s r = 0 := by
  obtain ⟨j, _, h⟩ := Sk.leastR_is (fun _ _ => 0) P s r
  exact h
/-! #### rings -/
/-- a ring of numbers that do not run over. -/
structure RB (R : RgN) (σ : RgS) : Prop where
  ok : ∀ i, i < R.n → Sk.okC (σ.F i)
  all : ∀ s, rall R σ.F s R.n ≤ 9223372036854775807
/-- two rings, one so many slots later than the other. -/
def ShR (R : RgN) (r1 r2 : RgS) (q : Nat) : Prop := ∀ i, i < R.n → (r2.num ((i + q) % R.n) = r1.num i + q ∧ r2.F ((i + q) % R.n) = r1.F i) ∨ (r1.F i = (fun _ _ => 0) ∧ r2.F ((i + q) % R.n) = fun _ _ => 0)
section
variable {R R1 R2 : RgN} {r1 r2 : RgS} {q : Nat}
theorem ShR.lsum (h : ShR R r1 r2 q) (hn : 1 ≤ R.n) (h1 : RB R r1) (h2 : RB R r2) (s : ByteArray) (a b : Int) : lsum R r2 s (a + q) (b + q) R.n = lsum R r1 s a b R.n := by
  rw [lsum_eq h1.ok (h1.all s), lsum_eq h2.ok (h2.all s), rsum_sumN, rsum_sumN, ← sumN_rot _ hn q]
  refine sumN_congr fun i hi => ?_
  rcases h i hi with ⟨e1, e2⟩ | ⟨e1, e2⟩
  · rw [e1, e2]
    by_cases g : a ≤ r1.num i ∧ r1.num i ≤ b
    · rw [if_pos g, if_pos (by omega)]
    · rw [if_neg g, if_neg (by omega)]
  · rw [e1, e2, least_non]
    split <;> split <;> rfl
theorem sh_now (hs : 1 ≤ R.s) (ht : r2.t = r1.t + (q : Int) * (R.s : Int)) : r2.now R = r1.now R + q := by
  unfold RgS.now
  rw [ht, Int.add_mul_ediv_right _ _ (by omega)]
theorem ShR.est (h : ShR R r1 r2 q) (hn : 1 ≤ R.n) (hs : 1 ≤ R.s) (h1 : RB R r1) (h2 : RB R r2) (ht : r2.t = r1.t + (q : Int) * (R.s : Int)) (s : ByteArray) : estZ R r2 s = estZ R r1 s := by
  have hw := sh_now hs ht
  have e1 := h.lsum hn h1 h2 s (r1.now R - ((R.n : Int) - 1)) (r1.now R - ((R.n : Int) - 1))
  have e2 := h.lsum hn h1 h2 s (r1.now R - ((R.n : Int) - 1) + 1) (r1.now R)
  unfold estZ eldZ
  rw [hw, show r1.now R + (q : Int) - ((R.n : Int) - 1) = r1.now R - ((R.n : Int) - 1) + q by omega, e1, show r1.now R - ((R.n : Int) - 1) + (q : Int) + 1 = r1.now R - ((R.n : Int) - 1) + 1 + q by omega, e2]
  have hm : ∀ v, leftZ R.s r2.t v = leftZ R.s r1.t v := by
    intro v
    unfold leftZ
    rw [ht, Int.add_mul_emod_self_right]
  simp only [hm]
theorem ShR.room (h : ShR R r1 r2 q) (hn : 1 ≤ R.n) (hs : 1 ≤ R.s) (h1 : RB R r1) (h2 : RB R r2) (ht : r2.t = r1.t + (q : Int) * (R.s : Int)) (s : ByteArray) (c x : Int) : roomAt R r2 s c (x + q) ↔ roomAt R r1 s c x := by
  have e1 := h.lsum hn h1 h2 s (x - ((R.n : Int) - 1)) (r1.now R)
  unfold roomAt
  rw [sh_now hs ht, show x + (q : Int) - ((R.n : Int) - 1) = x - ((R.n : Int) - 1) + q by omega, e1]
theorem ShR.next (h : ShR R r1 r2 q) (hn : 1 ≤ R.n) (hs : 1 ≤ R.s) (h1 : RB R r1) (h2 : RB R r2) (ht : r2.t = r1.t + (q : Int) * (R.s : Int)) (s : ByteArray) (c : Int) : ∀ (j : Nat) (x : Int), nextR R r2 s c j (x + q) = nextR R r1 s c j x + q
  | 0, x => rfl
  | j + 1, x => by
    unfold nextR
    have ih := ShR.next h hn hs h1 h2 ht s c j (x + 1)
    rw [show x + 1 + (q : Int) = x + q + 1 by omega] at ih
    by_cases g : roomAt R r1 s c x
    · rw [if_pos g, if_pos ((h.room hn hs h1 h2 ht s c x).2 g)]
    · rw [if_neg g, if_neg (fun k => g ((h.room hn hs h1 h2 ht s c x).1 k)), ih]
theorem ShR.wait (h : ShR R r1 r2 q) (hn : 1 ≤ R.n ∧ R.n ≤ 65) (hs : 1 ≤ R.s ∧ R.s ≤ 1048576) (h1 : RB R r1) (h2 : RB R r2) (ht : r2.t = r1.t + (q : Int) * (R.s : Int)) (hq : (q : Int) * (R.s : Int) ≤ 1099511627776) (hb : 0 ≤ r1.t ∧ r1.t ≤ 4611686018427387904) (s : ByteArray) (c : Int) : waitR R r2 s c = waitR R r1 s c := by
  unfold waitR
  rw [h.est hn.1 hs.1 h1 h2 ht s]
  split
  · rfl
  · have hw := sh_now hs.1 ht
    rw [hw, show r1.now R + (q : Int) + 1 = r1.now R + 1 + q by omega, h.next hn.1 hs.1 h1 h2 ht s c (R.n - 1) (r1.now R + 1)]
    have hx := nextR_in R r1 s c (R.n - 1) (r1.now R + 1)
    obtain ⟨x, hxx⟩ : ∃ x, x = nextR R r1 s c (R.n - 1) (r1.now R + 1) := ⟨_, rfl⟩
    rw [← hxx] at hx ⊢
    have hn0 : 0 ≤ r1.now R := Int.ediv_nonneg hb.1 (by omega)
    have hns : r1.now R * (R.s : Int) ≤ r1.t := by
      have := Int.mul_ediv_add_emod r1.t (R.s : Int)
      have h3 := Int.emod_nonneg r1.t (show (R.s : Int) ≠ 0 by omega)
      have h4 := Int.mul_comm (R.s : Int) (r1.t / (R.s : Int))
      show r1.t / (R.s : Int) * (R.s : Int) ≤ r1.t
      omega
    have hxs : x * (R.s : Int) ≤ (r1.now R + 66) * (R.s : Int) := Int.mul_le_mul_of_nonneg_right (by omega) (by omega)
    have hx0 : 0 ≤ x * (R.s : Int) := Int.mul_nonneg (by omega) (by omega)
    rw [Int.add_mul] at hxs
    have h0 : 0 ≤ (q : Int) * (R.s : Int) := Int.mul_nonneg (by omega) (by omega)
    rw [Int.add_mul]
    generalize x * (R.s : Int) = xs at *
    generalize (q : Int) * (R.s : Int) = qs at *
    generalize r1.now R * (R.s : Int) = ns at *
    rw [clamp_nn (by omega), clamp_nn (by omega), ht]
    omega
theorem sh_pl (hn : 1 ≤ R.n) (hs : 1 ≤ R.s) (ht : r2.t = r1.t + (q : Int) * (R.s : Int)) (h0 : 0 ≤ r1.t) : r1.pl R < R.n ∧ r2.pl R = (r1.pl R + q) % R.n := by
  have hw := sh_now hs ht
  have hn0 : 0 ≤ r1.now R := Int.ediv_nonneg h0 (by omega)
  unfold RgS.pl
  rw [hw]
  obtain ⟨u, hu⟩ := Int.eq_ofNat_of_zero_le hn0
  rw [hu]
  have e1 : ((u : Int) % (R.n : Int)).toNat = u % R.n := by rw [← Int.natCast_emod, Int.toNat_natCast]
  have e2 : (((u : Int) + (q : Int)) % (R.n : Int)).toNat = (u + q) % R.n := by rw [← Int.natCast_add, ← Int.natCast_emod, Int.toNat_natCast]
  rw [e1, e2, Nat.mod_add_mod]
  exact ⟨Nat.mod_lt _ (by omega), rfl⟩
theorem ShR.add (h : ShR R r1 r2 q) (hn : 1 ≤ R.n) (hs : 1 ≤ R.s) (ht : r2.t = r1.t + (q : Int) * (R.s : Int)) (h0 : 0 ≤ r1.t) (s : ByteArray) (c : Int) : ShR R (r1.add R s c) (r2.add R s c) q := by
  intro i hi
  obtain ⟨hp, hp2⟩ := sh_pl hn hs ht h0
  have hw := sh_now hs ht
  unfold RgS.add
  dsimp only
  rw [hp2, hw]
  by_cases e : i = r1.pl R
  · rw [e]
    left
    rw [updN_self, updN_self, updN_self, updN_self]
    refine ⟨rfl, ?_⟩
    rcases h _ hp with ⟨e1, e2⟩ | ⟨e1, e2⟩
    · rw [e1, e2]
      by_cases g : r1.num (r1.pl R) = r1.now R
      · rw [if_pos g, if_pos (by omega)]
      · rw [if_neg g, if_neg (by omega)]
    · rw [e1, e2]
      split <;> split <;> rfl
  · have e' : (i + q) % R.n ≠ (r1.pl R + q) % R.n := fun g => e (rot_inj hi hp g)
    rw [updN_ne _ _ e, updN_ne _ _ e, updN_ne _ _ e', updN_ne _ _ e']
    exact h i hi
theorem RgE.rall (h : RgE R1 R2) (F : Nat → Nat → Nat → Int) (s : ByteArray) : ∀ j, rall R1 F s j = rall R2 F s j
  | 0 => rfl
  | j + 1 => by
    unfold Go.Proofs.YtbgcpljekcagiaaGreat.rall
    rw [RgE.rall h F s j, h.P, h.k]
theorem RB.of (h : RgE R1 R2) (b : RB R2 r1) : RB R1 r1 := ⟨fun i hi => b.ok i (by rw [← h.n]; exact hi), fun s => by rw [h.rall, h.n]; exact b.all s⟩
end
end Go.Proofs.YtbgcpljekcagiaaGreat
/- The law LimiterShift of layer 12 (limiter): the plain side: limiters, some slots later. -/
namespace Go.Proofs.YtbgcpljekcagiaaGreat
set_option linter.unusedSimpArgs false
set_option linter.unusedVariables false
set_option maxRecDepth 100000
open Go.ChangeShapes Go.WideShapes Go.ChangeAt Go.RowKit
open Ar (inR)
/-- a cell, so much later. -/
def shC (D : Int) (c : Cel) : Cel := (c.1 + D, c.2.1 + D, c.2.2.1, c.2.2.2)
def shX (D : Int) (x : ByteArray × Cel) : ByteArray × Cel := (x.1, shC D x.2)
/-- two limiters, one so much later than the other. -/
structure Sh (n : Nat) (R : RgN) (s1 s2 : LmS) (q : Nat) (D : Int) : Prop where
  σ : s2.σ = s1.σ
  l1 : s1.C.length = n
  l2 : s2.C.length = n
  fl : ∀ i ∈ s1.σ.fl, i < n
  C : ∀ i, s1.σ.K i ≠ none → s2.C.getD i (0, 0, 0, 0) = shC D (s1.C.getD i (0, 0, 0, 0))
  r : ShR R s1.r s2.r q
  M : s2.M = s1.M
  tot : s2.tot = s1.tot
  al : s2.al = s1.al
  de : s2.de = s1.de
  ba : s2.ba = s1.ba
structure ShN (N : LmN) (q : Nat) (D : Int) : Prop where
  n : 1 ≤ N.R.n ∧ N.R.n ≤ 65
  s : 1 ≤ N.R.s ∧ N.R.s ≤ 1048576
  e : D = (q : Int) * (N.R.s : Int)
  b : 0 ≤ D ∧ D ≤ 1099511627776
theorem idleG_sh {F S W t D : Int} (hF : 0 ≤ F ∧ F ≤ 4611687117939015680) (hS : 0 ≤ S ∧ S ≤ 4611686018427387904) (hW : 1 ≤ W ∧ W ≤ 1048576) (ht : 0 ≤ t ∧ t ≤ 4611686018427387904) (hD : 0 ≤ D ∧ D ≤ 1099511627776) : idleG (F + D) (S + D) W (t + D) = idleG F S W t := by
  unfold idleG
  have e1 : IntKind.i64.wrap (t - W) = t - W := by rw [IntKind.wrap_i64]; omega
  have e2 : IntKind.i64.wrap (t + D - W) = t + D - W := by rw [IntKind.wrap_i64]; omega
  rw [clamp_nn (by omega), clamp_nn (by omega), e1, e2]
  have e3 : (t + D < S + D + W) ↔ (t < S + W) := by omega
  have e4 : (F + D ≤ t + D - W) ↔ (F ≤ t - W) := by omega
  simp only [e3, e4]
theorem plL_sh {K : Nat → Option ByteArray} {C1 C2 : List Cel} {n : Nat} {D : Int} (h : ∀ i, K i ≠ none → C2.getD i (0, 0, 0, 0) = shC D (C1.getD i (0, 0, 0, 0))) : plL K C2 n = (plL K C1 n).map (shX D) := by
  unfold plL
  rw [List.map_filterMap]
  congr 1
  funext i
  cases hk : K i with
  | none => rfl
  | some k =>
    show some (k, C2.getD i (0, 0, 0, 0)) = some (shX D (k, C1.getD i (0, 0, 0, 0)))
    rw [h i (by rw [hk]; exact fun g => by cases g)]
    rfl
theorem idle_sh {W t D : Int} : ∀ (l : List (ByteArray × Cel)), (∀ x ∈ l, idleG (x.2.1 + D) (x.2.2.1 + D) W (t + D) = idleG x.2.1 x.2.2.1 W t) → plIdle (l.map (shX D)) W (t + D) = (plIdle l W t).map (shX D)
  | [], _ => rfl
  | x :: r, h => by
    have ih := idle_sh (W := W) (t := t) (D := D) r (fun y hy => h y (List.mem_cons_of_mem _ hy))
    have e := h x List.mem_cons_self
    unfold plIdle at *
    rw [List.map_cons, List.find?_cons, List.find?_cons]
    show (match idleG (x.2.1 + D) (x.2.2.1 + D) W (t + D) with | true => some (shX D x) | false => _) = _
    rw [e]
    cases idleG x.2.1 x.2.2.1 W t with
    | true => rfl
    | false => exact ih
theorem light_sh (f : ByteArray → Int) (D : Int) (l : List (ByteArray × Cel)) : lightL f (l.map (shX D)) = lightL f l := by
  unfold lightL
  rw [List.foldl_map]
  rfl
theorem lput_has {n : Nat} {σ : KSt} {s : ByteArray} {i : Nat} (h : posN n σ.K s = some i) : σ.put n s = (σ, none) := by unfold KSt.put; rw [h]
theorem lput_long {n : Nat} {σ : KSt} {s : ByteArray} (h : posN n σ.K s = none) (h' : 64 < s.size) : σ.put n s = (σ, none) := by unfold KSt.put; rw [h]; simp only; rw [if_pos h']
theorem lput_full {n : Nat} {σ : KSt} {s : ByteArray} (h : posN n σ.K s = none) (h' : ¬ 64 < s.size) (hf : σ.fl = []) : σ.put n s = (σ, none) := by unfold KSt.put; rw [h]; simp only; rw [if_neg h', hf]; rfl
theorem lput_new {n : Nat} {σ : KSt} {s : ByteArray} {l : List Nat} {i : Nat} (h : posN n σ.K s = none) (h' : ¬ 64 < s.size) (hf : σ.fl = l ++ [i]) : σ.put n s = (⟨l, fun j => if j = i then some s else σ.K j⟩, some i) := by
  unfold KSt.put; rw [h]; simp only; rw [if_neg h', hf, List.getLast?_append]; simp
theorem ldel_yes {n : Nat} {σ : KSt} {s : ByteArray} {i : Nat} (h : posN n σ.K s = some i) : σ.del n s = (⟨σ.fl ++ [i], fun j => if j = i then none else σ.K j⟩, some i) := by unfold KSt.del; rw [h]
section
variable {N N2 : LmN} {s1 s2 : LmS} {q : Nat} {D now m cost : Int}
theorem LmI.rb {s : LmS} (h : LmI N s now m) : RB N.R s.r := by
  have hm := h.m
  obtain ⟨w, hw⟩ := h.rg
  exact ⟨hw.ok, fun s => Int.le_trans (h.few.all s) (by omega)⟩
theorem LmI.rb_add {s : LmS} (h : LmI N s now m) (key : ByteArray) {c : Int} (hc : 0 ≤ c ∧ c ≤ 1048576) : RB N.R (s.r.add N.R key c) := by
  have hm := h.m
  have f1 := h.rg.few_add h.few key (c := c) (by omega)
  obtain ⟨w, hw⟩ := h.rg.add key (c := c) (by omega)
  exact ⟨hw.ok, fun s => Int.le_trans (f1.all s) (by omega)⟩
theorem Sh.idle (h : Sh N.Q.N.n N.R s1 s2 q D) (P : ShN N q D) (I1 : LmI N s1 now m) : plIdle (s2.res N) N.W (now + D) = (plIdle (s1.res N) N.W now).map (shX D) := by
  show plIdle (plL s2.σ.K s2.C N.Q.N.n) N.W (now + D) = _
  rw [h.σ, plL_sh h.C]
  refine idle_sh _ fun x hx => ?_
  have hmem : x.2 ∈ s1.C := plL_mem (s := x.1) (c := x.2) hx (by rw [h.l1]; exact Nat.le_refl _)
  obtain ⟨c1, c2, _, _⟩ := I1.c x.2 hmem
  have ht := I1.t0
  exact idleG_sh ⟨c1.1, by omega⟩ ⟨c2.1, by omega⟩ I1.W ht P.b
theorem Sh.giver (h : Sh N.Q.N.n N.R s1 s2 q D) (P : ShN N q D) (I1 : LmI N s1 now m) (key : ByteArray) : s2.giver N (now + D) key = s1.giver N now key := by
  have hi := h.idle P I1
  have hl : s2.light N = s1.light N := by
    show lightL (mostM N.S.N.n s2.M) (plL s2.σ.K s2.C N.Q.N.n) = lightL (mostM N.S.N.n s1.M) (plL s1.σ.K s1.C N.Q.N.n)
    rw [h.σ, h.M, plL_sh h.C, light_sh]
  unfold LmS.giver
  rw [hi, hl, h.M]
  cases plIdle (s1.res N) N.W now with
  | none => rfl
  | some x => rfl
theorem Sh.full (h : Sh N.Q.N.n N.R s1 s2 q D) : s2.full N = s1.full N := by unfold LmS.full; rw [h.σ]
theorem Sh.put (h : Sh N.Q.N.n N.R s1 s2 q D) {key : ByteArray} (he : estZ N.R s2.r key = estZ N.R s1.r key) : Sh N.Q.N.n N.R (s1.put N now key) (s2.put N (now + D) key) q D := by
  unfold LmS.put
  rw [h.σ, he]
  cases hp : posN N.Q.N.n s1.σ.K key with
  | some i =>
    rw [lput_has hp]
    exact ⟨rfl, h.l1, h.l2, h.fl, h.C, h.r, h.M, h.tot, h.al, h.de, h.ba⟩
  | none =>
    by_cases h64 : 64 < key.size
    · rw [lput_long hp h64]
      exact ⟨rfl, h.l1, h.l2, h.fl, h.C, h.r, h.M, h.tot, h.al, h.de, h.ba⟩
    · by_cases hf : s1.σ.fl = []
      · rw [lput_full hp h64 hf]
        exact ⟨rfl, h.l1, h.l2, h.fl, h.C, h.r, h.M, h.tot, h.al, h.de, h.ba⟩
      · have hfl : s1.σ.fl = s1.σ.fl.dropLast ++ [s1.σ.fl.getLast hf] := (List.dropLast_concat_getLast hf).symm
        have hin := h.fl _ (List.getLast_mem hf)
        rw [lput_new hp h64 hfl]
        refine ⟨rfl, ?_, ?_, fun i hi => h.fl i (List.dropLast_subset _ hi), fun i hi => ?_, h.r, h.M, h.tot, h.al, h.de, h.ba⟩
        · show (s1.C.set _ _).length = _
          rw [List.length_set]; exact h.l1
        · show (s2.C.set _ _).length = _
          rw [List.length_set]; exact h.l2
        · show (s2.C.set (s1.σ.fl.getLast hf) _).getD i (0, 0, 0, 0) = shC D ((s1.C.set (s1.σ.fl.getLast hf) _).getD i (0, 0, 0, 0))
          by_cases e : i = s1.σ.fl.getLast hf
          · rw [e, List.getD_eq_getElem?_getD, List.getD_eq_getElem?_getD, List.getElem?_set_self (by rw [h.l2]; exact hin), List.getElem?_set_self (by rw [h.l1]; exact hin)]
            rfl
          · have h1 := h.C i (fun g => hi (by show (if i = _ then some key else s1.σ.K i) = none; rw [if_neg e]; exact g))
            rw [List.getD_eq_getElem?_getD, List.getD_eq_getElem?_getD] at h1 ⊢
            rw [List.getElem?_set_ne (Ne.symm e), List.getElem?_set_ne (Ne.symm e)]
            exact h1
theorem Sh.evict (h : Sh N.Q.N.n N.R s1 s2 q D) (P : ShN N q D) {o : ByteArray} {i : Nat} (hp : posN N.Q.N.n s1.σ.K o = some i) (ht0 : 0 ≤ s1.r.t) (ht : s2.r.t = s1.r.t + D) : Sh N.Q.N.n N.R (s1.evict N now o) (s2.evict N (now + D) o) q D := by
  obtain ⟨hin, hK⟩ := posN_some hp
  have hc := h.C i (by rw [hK]; exact fun g => by cases g)
  unfold LmS.evict
  rw [h.σ, ldel_yes hp]
  show Sh _ _ { s1 with σ := _, r := s1.r.add N.R o (boundP (s1.C.getD i (0, 0, 0, 0)).1 (s1.C.getD i (0, 0, 0, 0)).2.1 (s1.C.getD i (0, 0, 0, 0)).2.2.2 N.U N.W N.L now) } { s2 with σ := _, r := s2.r.add N.R o (boundP (s2.C.getD i (0, 0, 0, 0)).1 (s2.C.getD i (0, 0, 0, 0)).2.1 (s2.C.getD i (0, 0, 0, 0)).2.2.2 N.U N.W N.L (now + D)) } q D
  rw [hc]
  obtain ⟨c, hcc⟩ : ∃ c, c = s1.C.getD i (0, 0, 0, 0) := ⟨_, rfl⟩
  rw [← hcc]
  have f := (cshift_facts (F := c.1) (S := c.2.1) (C := 0) (D := c.2.2.2) (U := N.U) (W := N.W) (B := 0) (L := N.L) (t := now) D).2.2.1
  show Sh _ _ _ { s2 with σ := _, r := s2.r.add N.R o (boundP (c.1 + D) (c.2.1 + D) c.2.2.2 N.U N.W N.L (now + D)) } q D
  rw [f]
  refine ⟨rfl, h.l1, h.l2, fun j hj => ?_, fun j hj => ?_, h.r.add P.n.1 P.s.1 (by rw [ht, P.e]) ht0 _ _, h.M, h.tot, h.al, h.de, h.ba⟩
  · rcases List.mem_append.1 hj with g | g
    · exact h.fl j g
    · rw [List.mem_singleton.1 g]; exact hin
  · refine h.C j fun g => hj ?_
    show (if j = i then none else s1.σ.K j) = none
    split
    · rfl
    · exact g
theorem Sh.est (h : Sh N.Q.N.n N.R s1 s2 q D) (P : ShN N q D) (b1 : RB N.R s1.r) (b2 : RB N.R s2.r) (ht : s2.r.t = s1.r.t + D) (key : ByteArray) : estZ N.R s2.r key = estZ N.R s1.r key :=
  h.r.est P.n.1 P.s.1 b1 b2 (by rw [ht, P.e]) key
theorem Sh.adm (h : Sh N.Q.N.n N.R s1 s2 q D) (P : ShN N q D) (E : LmE N N2) (I1 : LmI N s1 now m) (I2 : LmI N2 s2 (now + D) m) (hm : m + 1048576 ≤ 576460752303423488) (ht : s2.r.t = s1.r.t + D) (key : ByteArray) :
    (s2.adm N (now + D) key).2 = (s1.adm N now key).2 ∧ Sh N.Q.N.n N.R (s1.adm N now key).1 (s2.adm N (now + D) key).1 q D := by
  have hg := h.giver P I1 key
  have hr0 : 0 ≤ s1.r.t := by obtain ⟨w, hw⟩ := I1.rg; exact hw.ht.1
  unfold LmS.adm
  rw [h.σ, h.full, hg]
  by_cases h1 : (posN N.Q.N.n s1.σ.K key).isSome = true ∨ 64 < key.size
  · rw [if_pos h1, if_pos h1]; exact ⟨rfl, h⟩
  · rw [if_neg h1, if_neg h1]
    by_cases h2 : s1.full N = true
    · rw [if_pos h2, if_pos h2]
      cases ho : s1.giver N now key with
      | none => exact ⟨rfl, h⟩
      | some o =>
        refine ⟨rfl, ?_⟩
        obtain ⟨i0, hi0, hK0⟩ := giver_res ho
        obtain ⟨i, hi⟩ := Option.isSome_iff_exists.1 (posN_iff.2 ⟨i0, hi0, hK0⟩)
        have hv := h.evict (now := now) P hi hr0 ht
        refine hv.put (hv.est P (I1.evict hm o).rb (RB.of E.r (by rw [E.evict]; exact (I2.evict hm o).rb)) ht key)
    · rw [if_neg h2, if_neg h2]
      exact ⟨rfl, h.put (h.est P I1.rb (RB.of E.r I2.rb) ht key)⟩
theorem Sh.left (_h : Sh N.Q.N.n N.R s1 s2 q D) {key : ByteArray} (he : estZ N.R s2.r key = estZ N.R s1.r key) : s2.left N key = s1.left N key := by unfold LmS.left; rw [he]
theorem celT_sh (c : Cel) (U t d cost : Int) : celT (shC d c) U (t + d) cost = shC d (celT c U t cost) := by
  unfold celT shC
  dsimp only
  rw [show max (c.1 + d) (t + d) + cost * U = max c.1 t + cost * U + d by omega]
theorem Sh.judge (h : Sh N.Q.N.n N.R s1 s2 q D) (P : ShN N q D) (E : LmE N N2) (I1 : LmI N s1 now m) (I2 : LmI N2 s2 (now + D) m) (hc : 1 ≤ cost ∧ cost ≤ N.B) (ht : s2.r.t = s1.r.t + D) (key : ByteArray) :
    (s2.judge N (now + D) key cost).1 = (s1.judge N now key cost).1 ∧ Sh N.Q.N.n N.R (s1.judge N now key cost).2 (s2.judge N (now + D) key cost).2 q D := by
  have hr0 : 0 ≤ s1.r.t := by obtain ⟨w, hw⟩ := I1.rg; exact hw.ht.1
  have hB := I1.B
  unfold LmS.judge
  rw [h.σ]
  cases hp : posN N.Q.N.n s1.σ.K key with
  | some i =>
    dsimp only
    obtain ⟨hin, hK⟩ := posN_some hp
    rw [h.C i (by rw [hK]; exact fun g => by cases g)]
    obtain ⟨c, hcc⟩ : ∃ c, c = s1.C.getD i (0, 0, 0, 0) := ⟨_, rfl⟩
    rw [← hcc, celT_sh]
    have f : ∀ c : Cel, celR (shC D c) N.U N.W N.B N.L (now + D) = celR c N.U N.W N.B N.L now ∧ celW (shC D c) N.U N.W N.B N.L (now + D) cost = celW c N.U N.W N.B N.L now cost := fun c =>
      ⟨(cshift_facts (F := c.1) (S := c.2.1) (C := c.2.2.1) (D := c.2.2.2) (U := N.U) (W := N.W) (B := N.B) (L := N.L) (t := now) D).1, (cshift_facts (F := c.1) (S := c.2.1) (C := c.2.2.1) (D := c.2.2.2) (U := N.U) (W := N.W) (B := N.B) (L := N.L) (t := now) D).2.1 cost⟩
    rw [(f c).1, (f c).2, (f _).1]
    by_cases hle : cost ≤ celR c N.U N.W N.B N.L now
    · rw [if_pos hle, if_pos hle]
      refine ⟨rfl, rfl, ?_, ?_, h.fl, fun j hj => ?_, h.r, h.M, h.tot, h.al, h.de, h.ba⟩
      · show (s1.C.set _ _).length = _
        rw [List.length_set]; exact h.l1
      · show (s2.C.set _ _).length = _
        rw [List.length_set]; exact h.l2
      · show (s2.C.set i _).getD j (0, 0, 0, 0) = shC D ((s1.C.set i _).getD j (0, 0, 0, 0))
        by_cases e : j = i
        · rw [e, List.getD_eq_getElem?_getD, List.getD_eq_getElem?_getD, List.getElem?_set_self (by rw [h.l2]; exact hin), List.getElem?_set_self (by rw [h.l1]; exact hin)]
          rfl
        · have h1 := h.C j hj
          rw [List.getD_eq_getElem?_getD, List.getD_eq_getElem?_getD] at h1 ⊢
          rw [List.getElem?_set_ne (Ne.symm e), List.getElem?_set_ne (Ne.symm e)]
          exact h1
    · rw [if_neg hle, if_neg hle]
      exact ⟨rfl, h⟩
  | none =>
    dsimp only
    have he := h.est P I1.rb (RB.of E.r I2.rb) ht key
    have hw := h.r.wait P.n P.s I1.rb (RB.of E.r I2.rb) (by rw [ht, P.e]) (by rw [← P.e]; exact P.b.2) ⟨hr0, by have := I1.t1; have := I1.t0; omega⟩ key cost
    rw [he, hw, h.left he]
    by_cases hle : clamp (estZ N.R s1.r key + cost) ≤ N.L
    · rw [if_pos hle, if_pos hle]
      have hA : Sh N.Q.N.n N.R { s1 with r := s1.r.add N.R key cost } { s2 with σ := s1.σ, r := s2.r.add N.R key cost } q D := ⟨rfl, h.l1, h.l2, h.fl, h.C, h.r.add P.n.1 P.s.1 (by rw [ht, P.e]) hr0 _ _, h.M, h.tot, h.al, h.de, h.ba⟩
      have he2 := hA.est P (I1.rb_add key (by omega)) (RB.of E.r (by have := I2.rb_add key (c := cost) (by omega); rw [← E.r.add] at this; exact this)) ht key
      rw [hA.left he2]
      exact ⟨rfl, hA⟩
    · rw [if_neg hle, if_neg hle]
      exact ⟨rfl, h⟩
theorem Sh.count (h : Sh N.Q.N.n N.R s1 s2 q D) (v : Int) : Sh N.Q.N.n N.R (s1.count v) (s2.count v) q D := by
  unfold LmS.count
  rw [h.al, h.de, h.ba]
  split
  · exact ⟨h.σ, h.l1, h.l2, h.fl, h.C, h.r, h.M, h.tot, rfl, rfl, rfl⟩
  · split
    · exact ⟨h.σ, h.l1, h.l2, h.fl, h.C, h.r, h.M, h.tot, rfl, rfl, rfl⟩
    · split
      · exact ⟨h.σ, h.l1, h.l2, h.fl, h.C, h.r, h.M, h.tot, rfl, rfl, rfl⟩
      · exact h
end
end Go.Proofs.YtbgcpljekcagiaaGreat
/- The law LimiterShift of layer 12 (limiter): the plain side: checks and peeks, some slots later. -/
namespace Go.Proofs.YtbgcpljekcagiaaGreat
set_option linter.unusedSimpArgs false
set_option linter.unusedVariables false
set_option maxRecDepth 100000
open Go.ChangeShapes Go.WideShapes Go.ChangeAt Go.RowKit
open Ar (inR)
theorem i64_mask32 (n : Int) : bits .and .i64 n 4294967295 = n % 4294967296 := by
  have hm : (BitVec.ofInt 64 4294967295).toNat = 2 ^ 32 - 1 := by decide
  have key : (BitVec.ofInt 64 n &&& BitVec.ofInt 64 4294967295).toNat = (n % ((2 ^ 64 : Nat) : Int)).toNat % 2 ^ 32 := by
    rw [BitVec.toNat_and, BitVec.toNat_ofInt, hm, Nat.and_two_pow_sub_one_eq_mod]
  show IntKind.i64.wrap ((BitVec.ofInt 64 n &&& BitVec.ofInt 64 4294967295).toNat : Nat) = n % 4294967296
  rw [key, IntKind.wrap_i64]
  omega
section
variable {N N2 : LmN} {s1 s2 : LmS} {q : Nat} {D now m cost : Int}
theorem Sh.new (n : Nat) (R : RgN) (q : Nat) (D : Int) : Sh n R (lmZ n) (lmZ n) q D := by
  refine ⟨rfl, List.length_replicate, List.length_replicate, fun i hi => ?_, fun i hi => absurd rfl hi, fun i _ => Or.inr ⟨rfl, rfl⟩, rfl, rfl, rfl, rfl, rfl⟩
  have h : i ∈ (List.range n).reverse := hi
  exact List.mem_range.1 (List.mem_reverse.1 h)
theorem refZ_sh (hn : now + D < 4611686018427387904) (hD : 0 ≤ D) : refZ N (now + D) 0 cost = refZ N now 0 cost := by
  unfold refZ
  rw [if_neg (show ¬ (4611686018427387904 : Int) ≤ now + D by omega), if_neg (show ¬ (4611686018427387904 : Int) ≤ now by omega)]
theorem Sh.seen (h : Sh N.Q.N.n N.R s1 s2 q D) (key : ByteArray) : Sh N.Q.N.n N.R (s1.seen N now key cost) (s2.seen N (now + D) key cost) q D := by
  unfold LmS.seen
  rw [h.M, h.tot]
  exact ⟨h.σ, h.l1, h.l2, h.fl, h.C, h.r, rfl, rfl, h.al, h.de, h.ba⟩
theorem Sh.check (h : Sh N.Q.N.n N.R s1 s2 q D) (P : ShN N q D) (E : LmE N N2) (I1 : LmI N s1 now m) (I2 : LmI N2 s2 (now + D) m) (hm : m + 2097153 ≤ 576460752303423488) (hn : now + D < 4611686018427387904) (key : ByteArray) :
    (s2.check N2 (now + D) 0 key cost).2 = (s1.check N now 0 key cost).2 ∧ Sh N.Q.N.n N.R (s1.check N now 0 key cost).1 (s2.check N2 (now + D) 0 key cost).1 q D := by
  rw [← E.check]
  unfold LmS.check
  rw [refZ_sh hn P.b.1]
  by_cases hr : (refZ N now 0 cost).2 = true
  · rw [if_pos hr, if_pos hr]
    exact ⟨rfl, h.count _⟩
  · rw [if_neg hr, if_neg hr]
    have hc := (refZ_no N now 0 cost (by cases hq : (refZ N now 0 cost).2; rfl; exact absurd hq hr)).1
    have t1 := I1.t1
    have t2 := I2.t1
    have i1 := I1.seen key cost
    have i2 := I2.seen key cost
    rw [← E.seen] at i2
    have hs := h.seen (now := now) (cost := cost) key
    have ht : (s2.seen N (now + D) key cost).r.t = (s1.seen N now key cost).r.t + D := by
      show max s2.r.t (now + D) = max s1.r.t now + D
      omega
    have ha := hs.adm P E i1 i2 (by omega) ht key
    have j1 := i1.adm (by omega) key
    have j2 := i2.adm (by omega) key
    rw [← E.adm] at j2
    have hj := ha.2.judge (cost := cost) P E j1 j2 hc (by rw [admit_t, admit_t]; exact ht) key
    refine ⟨?_, ?_⟩
    · rw [Prod.mk.injEq]
      exact ⟨hj.1, ha.1⟩
    · dsimp only
      rw [hj.1]
      exact hj.2.count _
theorem Sh.resi (h : Sh N.Q.N.n N.R s1 s2 q D) {key : ByteArray} (hi : plIdle (s2.res N) N.W (now + D) = (plIdle (s1.res N) N.W now).map (shX D)) (he : estZ N.R s2.r key = estZ N.R s1.r key) : s2.resi N (now + D) key = (s1.resi N now key).map (shC D) := by
  unfold LmS.resi
  rw [hi, he, h.full, h.σ]
  cases hp : posN N.Q.N.n s1.σ.K key with
  | some i =>
    obtain ⟨_, hK⟩ := posN_some hp
    show some (s2.C.getD i (0, 0, 0, 0)) = some (shC D (s1.C.getD i (0, 0, 0, 0)))
    rw [h.C i (by rw [hK]; exact fun g => by cases g)]
  | none =>
    dsimp only
    rw [Option.isSome_map]
    split <;> rfl
theorem Sh.peek (h : Sh N.Q.N.n N.R s1 s2 q D) (P : ShN N q D) (E : LmE N N2) (I1 : LmI N s1 now m) (I2 : LmI N2 s2 (now + D) m) (hn : now + D < 4611686018427387904) (key : ByteArray) :
    s2.peek N2 (now + D) 0 key cost = s1.peek N now 0 key cost := by
  rw [← E.peek]
  unfold LmS.peek
  rw [refZ_sh hn P.b.1]
  by_cases hr : (refZ N now 0 cost).2 = true
  · rw [if_pos hr, if_pos hr]
  · rw [if_neg hr, if_neg hr]
    have t1 := I1.t1
    have t2 := I2.t1
    have i1 := I1.to
    have i2 := I2.to
    have ht0 := I1.t0
    have hmx : max s2.r.t (now + D) = max s1.r.t now + D := by omega
    have hr0 : 0 ≤ s1.r.t := by obtain ⟨w, hw⟩ := I1.rg; exact hw.ht.1
    have hs : Sh N.Q.N.n N.R { s1 with r := ⟨max s1.r.t now, s1.r.num, s1.r.F⟩ } { s2 with r := ⟨max s2.r.t (now + D), s2.r.num, s2.r.F⟩ } q D := ⟨h.σ, h.l1, h.l2, h.fl, h.C, h.r, h.M, h.tot, h.al, h.de, h.ba⟩
    have he := hs.est P i1.rb (RB.of E.r i2.rb) hmx key
    have hw := hs.r.wait P.n P.s i1.rb (RB.of E.r i2.rb) (by rw [← P.e]; exact hmx) (by rw [← P.e]; exact P.b.2) ⟨by show 0 ≤ max s1.r.t now; omega, by show max s1.r.t now ≤ _; omega⟩ key cost
    have hl := hs.left he
    have hi := hs.idle P i1
    have f : ∀ c : Cel, celR (shC D c) N.U N.W N.B N.L (now + D) = celR c N.U N.W N.B N.L now ∧ celW (shC D c) N.U N.W N.B N.L (now + D) cost = celW c N.U N.W N.B N.L now cost := fun c =>
      ⟨(cshift_facts (F := c.1) (S := c.2.1) (C := c.2.2.1) (D := c.2.2.2) (U := N.U) (W := N.W) (B := N.B) (L := N.L) (t := now) D).1, (cshift_facts (F := c.1) (S := c.2.1) (C := c.2.2.1) (D := c.2.2.2) (U := N.U) (W := N.W) (B := N.B) (L := N.L) (t := now) D).2.1 cost⟩
    have hres := hs.resi (key := key) hi he
    rw [hres, hw, hl]
    cases ({ s1 with r := ⟨max s1.r.t now, s1.r.num, s1.r.F⟩ } : LmS).resi N now key with
    | none => rfl
    | some c =>
      show (if celW (shC D c) N.U N.W N.B N.L (now + D) cost = 0 then (1 : Int) else 2, celR (shC D c) N.U N.W N.B N.L (now + D), celW (shC D c) N.U N.W N.B N.L (now + D) cost) = _
      rw [(f c).1, (f c).2]
theorem Sh.peeked (h : Sh N.Q.N.n N.R s1 s2 q D) : Sh N.Q.N.n N.R (s1.peeked N now 0 cost) (s2.peeked N2 (now + D) 0 cost) q D := by
  unfold LmS.peeked
  split <;> split <;> exact ⟨h.σ, h.l1, h.l2, h.fl, h.C, h.r, h.M, h.tot, h.al, h.de, h.ba⟩
theorem Sh.len (h : Sh N.Q.N.n N.R s1 s2 q D) : s2.len N = s1.len N := by unfold LmS.len; rw [h.σ]
end
end Go.Proofs.YtbgcpljekcagiaaGreat
