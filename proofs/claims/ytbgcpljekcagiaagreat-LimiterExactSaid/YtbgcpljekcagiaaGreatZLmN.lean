import Derived.Test.YtbgcpljekcagiaaGreatZLm
import Derived.Test.YtbgcpljekcagiaaGreatZSlL
import Derived.Test.YtbgcpljekcagiaaGreatZSlN
import Derived.Test.YtbgcpljekcagiaaGreatZLiftS
import Derived.Laws.StructEq
import Derived.WalkKit
import Derived.Test.YtbgcpljekcagiaaGreatMap
import Derived.Test.YtbgcpljekcagiaaGreatZCellB
import Derived.Test.YtbgcpljekcagiaaGreatZRn
/- The contracts of layer 12 (limiter): New. -/
namespace Go.Proofs.YtbgcpljekcagiaaGreat
set_option linter.unusedSimpArgs false
set_option linter.unusedVariables false
set_option maxRecDepth 100000
open Go.ChangeShapes Go.WideShapes Go.ChangeAt Go.RowKit
open Ar (inR)
/-- a limiter as it is made. -/
def lmZ (Ce : Nat) : LmS := ⟨kNew Ce, List.replicate Ce (0, 0, 0, 0), ⟨0, fun _ => 0, fun _ _ _ => 0⟩, [], 0, 0, 0, 0⟩
/-- what a limiter has of its rule. -/
structure LmP (N : LmN) (L Wd Bu : Int) (Sl s k W Ce Tr : Nat) (sm : Bool) (X A B : Nat → Nat) : Prop where
  pU : N.U = unitZ Wd (L + 1 - Bu)
  pW : N.W = Wd
  pB : N.B = Bu
  pL : N.L = L
  pC : N.Q.N.n = Ce
  pT : N.S.N.n = Tr
  pn : N.R.n = Sl + 1
  ps : N.R.s = s
  pRL : N.R.L = L
  psm : N.R.sm = sm
  pk : N.R.k = k
  pRW : N.R.W = W
  pX : N.R.X = X
  pA : N.R.A = A
  pRB : N.R.B = B
set_option maxHeartbeats 4000000 in
theorem lmnew_any (L Wd Bu : Int) (Sl s k W Ce Tr : Nat) (sm : Bool) (hL : 1 ≤ L ∧ L ≤ 9223372036854775000) (hBu : 1 ≤ Bu ∧ Bu ≤ L) (hWd : 0 ≤ Wd ∧ Wd ≤ 9223372036854775807) (hSl : 1 ≤ Sl ∧ Sl ≤ 64) (hs : Wd / (Sl : Int) = (s : Int) ∧ 1 ≤ s) (hk : 1 ≤ k ∧ k ≤ 8) (hW : 1 ≤ W ∧ (Sl + 1) * (8 * (k * W)) ≤ 2147483647)
    (hCe : 1 ≤ Ce ∧ Ce ≤ 1024) (hTr : 1 ≤ Tr ∧ Tr ≤ 64) (A0 : Option Addr) (n0 c0 : Nat) (zs : List Int) (w : World) (hr : RdI w .u64 A0 n0 c0 zs) :
    Calls Tryz.prog 18 #[rlV L Wd Bu Sl Ce k W Tr sm, .slice A0 n0 c0] w fun e w' => ∃ N : LmN, e = .returned (.pointer (some ⟨N.l, 0, none⟩)) ∧ LmAt w' N (lmZ Ce) ∧ LmP N L Wd Bu Sl s k W Ce Tr sm (rX zs) (rA zs) (rB zs) ∧ (∀ b, N.all b → w.heap.size ≤ b) ∧ Below w.heap.size w w' := by
  obtain ⟨w1, hw1, k1, l1, s1⟩ := box_new w (rlC L Wd Bu Sl Ce k W Tr sm) 29
  obtain ⟨rb, hrb⟩ : ∃ rb, rb = w.heap.size := ⟨_, rfl⟩
  rw [← hrb] at k1
  have kr := k1.rd
  have K1 := Lib.hid (And.intro k1 l1)
  have HRB := Lib.hid hrb
  obtain ⟨m, hm⟩ : ∃ m, m = k + 1 := ⟨_, rfl⟩
  have CH := Lib.hid (fun wx (hb : Below w.heap.size w wx) => rows_any wx A0 n0 c0 zs (hr.below hb) m (by omega))
  have CO := Lib.hid (fun wx => of_any L Wd Bu (Sl : Int) (Ce : Int) (k : Int) (W : Int) (Tr : Int) sm (by unfold inR; omega) (by unfold inR; omega) (by unfold inR; omega) wx)
  have e1 : min (k : Int) 8 = (k : Int) := by omega
  have e2 : max 0 (k : Int) = (k : Int) := by omega
  have e3 : IntKind.i64.wrap ((k : Int) + 1) = (m : Int) := by rw [IntKind.wrap_i64]; omega
  have e4 : (k : Int) < (m : Int) := by omega
  have e5 : (k : Int) ≤ (m : Int) := by omega
  have e6 : (0 : Int) ≤ (k : Int) := by omega
  have HM := Lib.hid hm
  obtain ⟨u, hu⟩ : ∃ u, u = unitZ Wd (L + 1 - Bu) := ⟨_, rfl⟩
  rw [← hu] at CO
  have HU := Lib.hid hu
  obtain ⟨Xk, hXk⟩ : ∃ x, x = rX zs k := ⟨_, rfl⟩
  obtain ⟨Ak, hAk⟩ : ∃ x, x = rA zs k := ⟨_, rfl⟩
  obtain ⟨Bk, hBk⟩ : ∃ x, x = rB zs k := ⟨_, rfl⟩
  have hlt := rows_lt zs m
  have hltk := hlt k (by omega)
  rw [← hXk, ← hAk, ← hBk] at hltk
  have HX := Lib.hid (And.intro hXk (And.intro hAk hBk))
  have CP := Lib.hid (fun wx => plnew_any Xk Ak Bk hltk.1 hltk.2.1 hltk.2.2 Ce hCe.1 hCe.2 wx)
  have CS := Lib.hid (fun wx => smnew_any Xk Ak Bk hltk.1 hltk.2.1 hltk.2.2 Tr hTr.1 hTr.2 wx)
  have CR := Lib.hid (fun b0 wx (hx : RowsGe wx b0 k (rX zs) (rA zs) (rB zs)) => show Calls Tryz.prog 39 #[rlV L Wd Bu Sl Ce k W Tr sm, .slice (some ⟨b0, 0, none⟩) k m] wx _ from by rw [hm]; exact rnew_cap L Wd Bu Ce k Tr Sl s k W sm (by unfold inR; omega) hWd hSl hs hk hW b0 (rX zs) (rA zs) (rB zs) wx hx (fun j hj => hlt j (by omega)))
  clear k1 l1 s1 hr hrb hm hu hXk hAk hBk hlt hltk hs hW hL hBu hWd hSl hk hCe hTr
  go_enter Tryz.func18, Tryz.ntmps18
  go_upto_region 1 with (fail)
  rw [← HRB.out]
  clear hw1
  go_upto_region 3 with (go_at_call 36; ((with_reducible refine (CH.out _ K1.out.2).mono ?_); rintro e w2 ⟨rfl, r2, b2⟩; have R2 := Lib.hid r2; have K2 := Lib.hid (K1.out.1.keep b2); have B2 := Lib.hid (below_in K1.out.2 b2); have G2 := Lib.hid (show rb < w1.heap.size from lt_of_block K1.out.1); clear r2 b2))
  clear kr CH
  obtain ⟨rwb, hrw⟩ : ∃ x, x = w1.heap.size := ⟨_, rfl⟩
  rw [← hrw] at R2 G2 ⊢
  have SB := Lib.hid (fun wx (hb : Below w2.heap.size w2 wx) => show (∀ i, wx.cell? ⟨rb, i, none⟩ = (rlC L Wd Bu Sl Ce k W Tr sm)[i]?) ∧ wx.cell? ⟨rwb, k * 3, none⟩ = some (.int .u64 (Xk : Int)) ∧ wx.cell? ⟨rwb, k * 3 + 1, none⟩ = some (.int .u64 (Ak : Int)) ∧ wx.cell? ⟨rwb, k * 3 + 2, none⟩ = some (.int .u64 (Bk : Int)) from by
    obtain ⟨C, hC, _, hj⟩ := (rows_keep R2.out hb).blk
    have h3 := hj k (by have := HM.out; omega)
    rw [Nat.mul_comm 3 k, ← HX.out.1, ← HX.out.2.1, ← HX.out.2.2] at h3
    exact ⟨(K2.out.keep hb).rd, (blk_cell hC).trans h3.1, (blk_cell hC).trans h3.2.1, (blk_cell hC).trans h3.2.2⟩)
  have BN := Lib.hid (show Below w2.heap.size w2 w2.drew from below_draws (Below.refl _ _) 1)
  have st := SB.out _ BN.out
  clear hrw
  refine wp_region_held_drew (S := fun wx => (∀ i, wx.cell? ⟨rb, i, none⟩ = (rlC L Wd Bu Sl Ce k W Tr sm)[i]?) ∧ wx.cell? ⟨rwb, k * 3, none⟩ = some (.int .u64 (Xk : Int)) ∧ wx.cell? ⟨rwb, k * 3 + 1, none⟩ = some (.int .u64 (Ak : Int)) ∧ wx.cell? ⟨rwb, k * 3 + 2, none⟩ = some (.int .u64 (Bk : Int))) (by kernel_rfl) st (fun hHeld => ?_)
  clear st
  refine wpAnyH_take (i := 0) (oi := ?_) (v := ?_) ?_ ?_ ?_ ?_ ?_ ?_ ?_ ?_
  rotate_left 2
  · simp only [List.getElem?_toArray, List.getElem?_cons_succ, List.getElem?_cons_zero]; rfl
  · kernel_rfl
  · kernel_rfl
  · kernel_rfl
  · exact fun _ _ _ h => h
  · refine Or.inl ⟨by rfl, ?_⟩
    intro w' hSw
    (try dsimp only at hSw)
    go_simp
    all_goals (with_reducible rfl)
  · assumption
  try simp only [Act.put, List.setIfInBounds_toArray, List.set_cons_zero, List.set_cons_succ]
  refine wpAnyH_take (i := 2) (oi := ?_) (v := ?_) ?_ ?_ ?_ ?_ ?_ ?_ ?_ ?_
  rotate_left 2
  · simp only [List.getElem?_toArray, List.getElem?_cons_succ, List.getElem?_cons_zero]; rfl
  · kernel_rfl
  · kernel_rfl
  · kernel_rfl
  · exact fun _ _ _ h => h
  · refine Or.inl ⟨by rfl, ?_⟩
    intro w' hSw
    (try dsimp only at hSw)
    go_simp
    all_goals (with_reducible rfl)
  · assumption
  try simp only [Act.put, List.setIfInBounds_toArray, List.set_cons_zero, List.set_cons_succ]
  refine wpAnyH_take (i := 3) (oi := ?_) (v := ?_) ?_ ?_ ?_ ?_ ?_ ?_ ?_ ?_
  rotate_left 2
  · simp only [List.getElem?_toArray, List.getElem?_cons_succ, List.getElem?_cons_zero]; rfl
  · kernel_rfl
  · kernel_rfl
  · kernel_rfl
  · exact fun _ _ _ h => h
  · refine Or.inl ⟨by rfl, ?_⟩
    intro w' hSw
    (try dsimp only at hSw)
    go_simp
    all_goals (with_reducible rfl)
  · assumption
  try simp only [Act.put, List.setIfInBounds_toArray, List.set_cons_zero, List.set_cons_succ]
  refine wpAnyH_take (i := 4) (oi := ?_) (v := ?_) ?_ ?_ ?_ ?_ ?_ ?_ ?_ ?_
  rotate_left 2
  · simp only [List.getElem?_toArray, List.getElem?_cons_succ, List.getElem?_cons_zero]; rfl
  · kernel_rfl
  · kernel_rfl
  · kernel_rfl
  · exact fun _ _ _ h => h
  · refine Or.inl ⟨by rfl, ?_⟩
    intro w' hSw
    (try dsimp only at hSw)
    go_simp
    all_goals (with_reducible rfl)
  · assumption
  try simp only [Act.put, List.setIfInBounds_toArray, List.set_cons_zero, List.set_cons_succ]
  refine wpAnyH_take (i := 5) (oi := ?_) (v := ?_) ?_ ?_ ?_ ?_ ?_ ?_ ?_ ?_
  rotate_left 2
  · simp only [List.getElem?_toArray, List.getElem?_cons_succ, List.getElem?_cons_zero]; rfl
  · kernel_rfl
  · kernel_rfl
  · kernel_rfl
  · exact fun _ _ _ h => h
  · refine Or.inl ⟨by rfl, ?_⟩
    intro w' hSw
    (try dsimp only at hSw)
    go_simp
    all_goals (with_reducible rfl)
  · assumption
  try simp only [Act.put, List.setIfInBounds_toArray, List.set_cons_zero, List.set_cons_succ]
  refine wpAnyH_take (i := 6) (oi := ?_) (v := ?_) ?_ ?_ ?_ ?_ ?_ ?_ ?_ ?_
  rotate_left 2
  · simp only [List.getElem?_toArray, List.getElem?_cons_succ, List.getElem?_cons_zero]; rfl
  · kernel_rfl
  · kernel_rfl
  · kernel_rfl
  · exact fun _ _ _ h => h
  · refine Or.inl ⟨by rfl, ?_⟩
    intro w' hSw
    (try dsimp only at hSw)
    go_simp
    all_goals (with_reducible rfl)
  · assumption
  try simp only [Act.put, List.setIfInBounds_toArray, List.set_cons_zero, List.set_cons_succ]
  refine wpAnyH_take (i := 7) (oi := ?_) (v := ?_) ?_ ?_ ?_ ?_ ?_ ?_ ?_ ?_
  rotate_left 2
  · simp only [List.getElem?_toArray, List.getElem?_cons_succ, List.getElem?_cons_zero]; rfl
  · kernel_rfl
  · kernel_rfl
  · kernel_rfl
  · exact fun _ _ _ h => h
  · refine Or.inl ⟨by rfl, ?_⟩
    intro w' hSw
    (try dsimp only at hSw)
    go_simp
    all_goals (with_reducible rfl)
  · assumption
  try simp only [Act.put, List.setIfInBounds_toArray, List.set_cons_zero, List.set_cons_succ]
  refine wpAnyH_take (i := 8) (oi := ?_) (v := ?_) ?_ ?_ ?_ ?_ ?_ ?_ ?_ ?_
  rotate_left 2
  · simp only [List.getElem?_toArray, List.getElem?_cons_succ, List.getElem?_cons_zero]; rfl
  · kernel_rfl
  · kernel_rfl
  · kernel_rfl
  · exact fun _ _ _ h => h
  · refine Or.inl ⟨by rfl, ?_⟩
    intro w' hSw
    (try dsimp only at hSw)
    go_simp
    all_goals (with_reducible rfl)
  · assumption
  try simp only [Act.put, List.setIfInBounds_toArray, List.set_cons_zero, List.set_cons_succ]
  refine wpAnyH_take (i := 10) (oi := ?_) (v := ?_) ?_ ?_ ?_ ?_ ?_ ?_ ?_ ?_
  rotate_left 2
  · simp only [List.getElem?_toArray, List.getElem?_cons_succ, List.getElem?_cons_zero]; rfl
  · kernel_rfl
  · kernel_rfl
  · kernel_rfl
  · exact fun _ _ _ h => h
  · refine Or.inl ⟨by rfl, ?_⟩
    intro w' hSw
    (try dsimp only at hSw)
    go_simp
    all_goals (with_reducible rfl)
  · assumption
  try simp only [Act.put, List.setIfInBounds_toArray, List.set_cons_zero, List.set_cons_succ]
  refine wpAnyH_take (i := 11) (oi := ?_) (v := ?_) ?_ ?_ ?_ ?_ ?_ ?_ ?_ ?_
  rotate_left 2
  · simp only [List.getElem?_toArray, List.getElem?_cons_succ, List.getElem?_cons_zero]; rfl
  · kernel_rfl
  · kernel_rfl
  · kernel_rfl
  · exact fun _ _ _ h => h
  · refine Or.inl ⟨by rfl, ?_⟩
    intro w' hSw
    (try dsimp only at hSw)
    go_simp
    all_goals (with_reducible rfl)
  · assumption
  try simp only [Act.put, List.setIfInBounds_toArray, List.set_cons_zero, List.set_cons_succ]
  refine wpAnyH_take (i := 12) (oi := ?_) (v := ?_) ?_ ?_ ?_ ?_ ?_ ?_ ?_ ?_
  rotate_left 2
  · simp only [List.getElem?_toArray, List.getElem?_cons_succ, List.getElem?_cons_zero]; rfl
  · kernel_rfl
  · kernel_rfl
  · kernel_rfl
  · exact fun _ _ _ h => h
  · refine Or.inl ⟨by rfl, ?_⟩
    intro w' hSw
    (try dsimp only at hSw)
    go_simp
    all_goals (with_reducible rfl)
  · assumption
  try simp only [Act.put, List.setIfInBounds_toArray, List.set_cons_zero, List.set_cons_succ]
  refine wpAnyH_take (i := 13) (oi := ?_) (v := ?_) ?_ ?_ ?_ ?_ ?_ ?_ ?_ ?_
  rotate_left 2
  · simp only [List.getElem?_toArray, List.getElem?_cons_succ, List.getElem?_cons_zero]; rfl
  · kernel_rfl
  · kernel_rfl
  · kernel_rfl
  · exact fun _ _ _ h => h
  · refine Or.inl ⟨by rfl, ?_⟩
    intro w' hSw
    (try dsimp only at hSw)
    go_simp
    all_goals (with_reducible rfl)
  · assumption
  try simp only [Act.put, List.setIfInBounds_toArray, List.set_cons_zero, List.set_cons_succ]
  refine wpAnyH_take (i := 15) (oi := ?_) (v := ?_) ?_ ?_ ?_ ?_ ?_ ?_ ?_ ?_
  rotate_left 2
  · simp only [List.getElem?_toArray, List.getElem?_cons_succ, List.getElem?_cons_zero]; rfl
  · kernel_rfl
  · kernel_rfl
  · kernel_rfl
  · exact fun _ _ _ h => h
  · refine Or.inl ⟨by rfl, ?_⟩
    intro w' hSw
    (try dsimp only at hSw)
    go_simp
    all_goals (with_reducible rfl)
  · assumption
  try simp only [Act.put, List.setIfInBounds_toArray, List.set_cons_zero, List.set_cons_succ]
  refine wpAnyH_take (i := 16) (oi := ?_) (v := ?_) ?_ ?_ ?_ ?_ ?_ ?_ ?_ ?_
  rotate_left 2
  · simp only [List.getElem?_toArray, List.getElem?_cons_succ, List.getElem?_cons_zero]; rfl
  · kernel_rfl
  · kernel_rfl
  · kernel_rfl
  · exact fun _ _ _ h => h
  · refine Or.inl ⟨by rfl, ?_⟩
    intro w' hSw
    (try dsimp only at hSw)
    go_simp
    all_goals (with_reducible rfl)
  · assumption
  try simp only [Act.put, List.setIfInBounds_toArray, List.set_cons_zero, List.set_cons_succ]
  refine wpAnyH_take (i := 17) (oi := ?_) (v := ?_) ?_ ?_ ?_ ?_ ?_ ?_ ?_ ?_
  rotate_left 2
  · simp only [List.getElem?_toArray, List.getElem?_cons_succ, List.getElem?_cons_zero]; rfl
  · kernel_rfl
  · kernel_rfl
  · kernel_rfl
  · exact fun _ _ _ h => h
  · refine Or.inl ⟨by rfl, ?_⟩
    intro w' hSw
    (try dsimp only at hSw)
    go_simp
    all_goals (with_reducible rfl)
  · assumption
  try simp only [Act.put, List.setIfInBounds_toArray, List.set_cons_zero, List.set_cons_succ]
  refine wpAnyH_take (i := 18) (oi := ?_) (v := ?_) ?_ ?_ ?_ ?_ ?_ ?_ ?_ ?_
  rotate_left 2
  · simp only [List.getElem?_toArray, List.getElem?_cons_succ, List.getElem?_cons_zero]; rfl
  · kernel_rfl
  · kernel_rfl
  · kernel_rfl
  · exact fun _ _ _ h => h
  · refine Or.inl ⟨by rfl, ?_⟩
    intro w' hSw
    (try dsimp only at hSw)
    go_simp
    all_goals (with_reducible rfl)
  · assumption
  try simp only [Act.put, List.setIfInBounds_toArray, List.set_cons_zero, List.set_cons_succ]
  refine wpAnyH_take (i := 19) (oi := ?_) (v := ?_) ?_ ?_ ?_ ?_ ?_ ?_ ?_ ?_
  rotate_left 2
  · simp only [List.getElem?_toArray, List.getElem?_cons_succ, List.getElem?_cons_zero]; rfl
  · kernel_rfl
  · kernel_rfl
  · kernel_rfl
  · exact fun _ _ _ h => h
  · refine Or.inl ⟨by rfl, ?_⟩
    intro w' hSw
    (try dsimp only at hSw)
    go_simp
    all_goals (with_reducible rfl)
  · assumption
  try simp only [Act.put, List.setIfInBounds_toArray, List.set_cons_zero, List.set_cons_succ]
  refine wpAnyH_take (i := 20) (oi := ?_) (v := ?_) ?_ ?_ ?_ ?_ ?_ ?_ ?_ ?_
  rotate_left 2
  · simp only [List.getElem?_toArray, List.getElem?_cons_succ, List.getElem?_cons_zero]; rfl
  · kernel_rfl
  · kernel_rfl
  · kernel_rfl
  · exact fun _ _ _ h => h
  · refine Or.inl ⟨by rfl, ?_⟩
    intro w' hSw
    (try dsimp only at hSw)
    go_simp
    all_goals (with_reducible rfl)
  · assumption
  try simp only [Act.put, List.setIfInBounds_toArray, List.set_cons_zero, List.set_cons_succ]
  refine wpAnyH_ready (rs := [1]) (by kernel_rfl) (by simp) ?_
  refine AllReadyH.cons (o := ?_) ?_ ?_ ?_
  rotate_left 1
  · simp only [List.getElem?_toArray, List.getElem?_cons_succ, List.getElem?_cons_zero]; rfl
  rotate_left 1
  · exact AllReadyH.nil
  intro K hK
  go_simp
  ((with_reducible refine (CO.out _).mono ?_); rintro e w3 ⟨rfl, be⟩; have N1 := Lib.hid (G.below_on BN.out be); clear be)
  refine hK.out _ _ (SB.out _ N1.out) (fun hHeld => ?_)
  clear hK K
  try simp only [Act.put, List.setIfInBounds_toArray, List.set_cons_zero, List.set_cons_succ]
  refine wpAnyH_ready (rs := [9]) (by kernel_rfl) (by simp) ?_
  refine AllReadyH.cons (o := ?_) ?_ ?_ ?_
  rotate_left 1
  · simp only [List.getElem?_toArray, List.getElem?_cons_succ, List.getElem?_cons_zero]; rfl
  rotate_left 1
  · exact AllReadyH.nil
  intro K hK
  go_simp
  ((with_reducible refine (CP.out _).mono ?_); rintro e w4 ⟨Q, rfl, p4, n4, a4, be⟩; have N2 := Lib.hid (G.below_on N1.out be); have Q4 := Lib.hid (And.intro p4 (And.intro n4 (fun k hk => Nat.le_trans N1.out.size (a4 k hk)))); clear p4 n4 a4 be)
  refine hK.out _ _ (SB.out _ N2.out) (fun hHeld => ?_)
  clear hK K
  try simp only [Act.put, List.setIfInBounds_toArray, List.set_cons_zero, List.set_cons_succ]
  refine wpAnyH_ready (rs := [14]) (by kernel_rfl) (by simp) ?_
  refine AllReadyH.cons (o := ?_) ?_ ?_ ?_
  rotate_left 1
  · simp only [List.getElem?_toArray, List.getElem?_cons_succ, List.getElem?_cons_zero]; rfl
  rotate_left 1
  · exact AllReadyH.nil
  intro K hK
  go_simp
  ((with_reducible refine (CR.out _ _ ((rows_keep R2.out N2.out).ge (by have := HM.out; omega))).mono ?_); rintro e w5 ⟨R, rfl, p5, n5, a5, be⟩; have N3 := Lib.hid (G.below_on N2.out be); have Q5 := Lib.hid (Q4.out.1.keep be); have R5 := Lib.hid (And.intro p5 (And.intro n5 (And.intro a5 (show w4.heap.size ≤ w5.heap.size from be.size)))); clear p5 n5 a5 be)
  refine hK.out _ _ (SB.out _ N3.out) (fun hHeld => ?_)
  clear hK K
  try simp only [Act.put, List.setIfInBounds_toArray, List.set_cons_zero, List.set_cons_succ]
  refine wpAnyH_ready (rs := [21]) (by kernel_rfl) (by simp) ?_
  refine AllReadyH.cons (o := ?_) ?_ ?_ ?_
  rotate_left 1
  · simp only [List.getElem?_toArray, List.getElem?_cons_succ, List.getElem?_cons_zero]; rfl
  rotate_left 1
  · exact AllReadyH.nil
  intro K hK
  go_simp
  ((with_reducible refine (CS.out _).mono ?_); rintro e w6 ⟨T, rfl, p6, n6, a6, be⟩; have N4 := Lib.hid (G.below_on N3.out be); have Q6 := Lib.hid (Q5.out.keep be); have R6 := Lib.hid (R5.out.1.keep be); have S6 := Lib.hid (And.intro p6 (And.intro n6 (And.intro a6 be.size))); clear p6 n6 a6 be)
  refine hK.out _ _ (SB.out _ N4.out) (fun hHeld => ?_)
  clear hK K
  try simp only [Act.put, List.setIfInBounds_toArray, List.set_cons_zero, List.set_cons_succ]
  refine wpAnyH_take (i := 22) (oi := ?_) (v := ?_) ?_ ?_ ?_ ?_ ?_ ?_ ?_ ?_
  rotate_left 2
  · simp only [List.getElem?_toArray, List.getElem?_cons_succ, List.getElem?_cons_zero]; rfl
  · kernel_rfl
  · kernel_rfl
  · kernel_rfl
  · exact fun _ _ _ h => h
  · refine Or.inl ⟨by rfl, ?_⟩
    intro w' hSw
    (try dsimp only at hSw)
    go_simp
    all_goals (with_reducible rfl)
  · assumption
  try simp only [Act.put, List.setIfInBounds_toArray, List.set_cons_zero, List.set_cons_succ]
  refine wpAnyH_ready (rs := [23]) (by kernel_rfl) (by simp) ?_
  refine AllReadyH.cons (o := ?_) ?_ ?_ ?_
  rotate_left 1
  · simp only [List.getElem?_toArray, List.getElem?_cons_succ, List.getElem?_cons_zero]; rfl
  rotate_left 1
  · exact AllReadyH.nil
  intro K hK
  go_simp
  (obtain ⟨w7, hw7, k7, l7, s7⟩ := box_new w6 #[.int .i64 u, .int .i64 Wd, .int .i64 Bu, .int .i64 L, .slice (some ⟨rwb, 0, none⟩) m m, .pointer (some ⟨Q.p, 0, none⟩), .pointer (some ⟨R.x, 0, none⟩), .pointer (some ⟨T.s, 0, none⟩), .int .i64 0, .int .i64 0, .int .i64 0, .int .i64 0, .int .i64 0] 92; rw [hw7]; have N5 := Lib.hid (G.below_on N4.out l7); have K7 := Lib.hid (And.intro k7 l7); clear hw7 k7 l7 s7)
  refine hK.out _ _ (SB.out _ N5.out) (fun hHeld => ?_)
  clear hK K
  try simp only [Act.put, List.setIfInBounds_toArray, List.set_cons_zero, List.set_cons_succ]
  refine wpAnyH_take (i := 24) (oi := ?_) (v := ?_) ?_ ?_ ?_ ?_ ?_ ?_ ?_ ?_
  rotate_left 2
  · simp only [List.getElem?_toArray, List.getElem?_cons_succ, List.getElem?_cons_zero]; rfl
  · kernel_rfl
  · kernel_rfl
  · kernel_rfl
  · exact fun _ _ _ h => h
  · refine Or.inl ⟨by rfl, ?_⟩
    intro w' hSw
    (try dsimp only at hSw)
    go_simp
    all_goals (with_reducible rfl)
  · assumption
  try simp only [Act.put, List.setIfInBounds_toArray, List.set_cons_zero, List.set_cons_succ]
  refine wpAnyH_done (by kernel_rfl) ?_ _
  clear hHeld
  go_wp2
  go_ret
  have q4 := Q4.out.1.lt
  have r5 := R5.out.1.lt
  have s6 := S6.out.1.lt
  have z1 := R5.out.2.2.2
  have z2 := S6.out.2.2.2
  have z3 := N4.out.size
  have z4 := B2.out.size
  have a4 := Q4.out.2.2
  have a5 := R5.out.2.2.1
  have a6 := S6.out.2.2.1
  have z5 := N2.out.size
  have hn := R5.out.2.1
  refine ⟨⟨w6.heap.size, .slice (some ⟨rwb, 0, none⟩) m m, u, Wd, Bu, L, Q, R, T⟩, rfl, ⟨K7.out.1, Q6.out.keep K7.out.2, R6.out.keep K7.out.2, ⟨[], _, S6.out.1.keep K7.out.2, rfl⟩, ?_, ?_, ?_⟩, ⟨HU.out, rfl, rfl, rfl, Q4.out.2.1, S6.out.2.1, hn.1, hn.2.1, hn.2.2.1, hn.2.2.2.1, hn.2.2.2.2.1, hn.2.2.2.2.2.1, hn.2.2.2.2.2.2.1, hn.2.2.2.2.2.2.2.1, hn.2.2.2.2.2.2.2.2⟩, ?_, ?_⟩
  · rintro j (hj | hj | hj) e
    · have := q4 j hj
      have e : j = w6.heap.size := e
      omega
    · have := r5 j hj
      have e : j = w6.heap.size := e
      omega
    · have := s6 j hj
      have e : j = w6.heap.size := e
      omega
  · intro j hj
    have h1 := q4 j hj
    exact ⟨fun h => by have := a5 j h; omega, fun h => by have := a6 j h; omega⟩
  · intro j hj h
    have h1 := r5 j hj
    have := a6 j h
    omega
  · rintro j ((hj | hj | hj) | hj)
    · have := a4 j hj; omega
    · have := a5 j hj; omega
    · have := a6 j hj; omega
    · have e : j = w6.heap.size := hj
      omega
  · exact below_in B2.out N5.out
end Go.Proofs.YtbgcpljekcagiaaGreat
/- The laws of layer 12: a plan's rule, and its limiter. -/
namespace Go.Proofs.YtbgcpljekcagiaaGreat
set_option linter.unusedSimpArgs false
set_option linter.unusedVariables false
set_option maxRecDepth 100000
open Go.ChangeShapes Go.WideShapes Go.ChangeAt Go.RowKit
open Ar (inR)
def lqL (a : Int) : Int := a % 32 + 1
def lqS (b : Int) : Nat := (b % 32).toNat + 1
def lqB (a c : Int) : Int := c % 32 % (a % 32 + 1) + 1
def lqN (d : Int) : Nat := (d % 8).toNat + 1
def lqC (e : Int) : Nat := (e % 8).toNat + 1
def lqR (f : Int) : Nat := (f % 4).toNat + 1
def lqW (g : Int) : Nat := (g % 16).toNat + 1
def lqT (h : Int) : Nat := (h % 8).toNat + 1
def lqM (sm : Bool) (d : Int) : Bool := sm && decide ((1 : Int) < (lqN d : Int))
abbrev planV (a b c d e f g h : Int) (sm : Bool) : Value := .agg #[.int .i64 a, .int .i64 b, .int .i64 c, .int .i64 d, .int .i64 e, .int .i64 f, .int .i64 g, .int .i64 h, .bool sm]
abbrev planC (a b c d e f g h : Int) (sm : Bool) : Array Value := #[.int .i64 a, .int .i64 b, .int .i64 c, .int .i64 d, .int .i64 e, .int .i64 f, .int .i64 g, .int .i64 h, .bool sm]
theorem lqB_bd (a c : Int) : 1 ≤ lqB a c ∧ lqB a c ≤ lqL a := by
  unfold lqB lqL
  have h1 := Int.emod_nonneg (c % 32) (show a % 32 + 1 ≠ 0 by omega)
  have h2 := Int.emod_lt_of_pos (c % 32) (show 0 < a % 32 + 1 by omega)
  omega
set_option maxHeartbeats 4000000 in
theorem lmrule_any (a b c d e f g h : Int) (sm : Bool) (w : World) :
    Calls Tryz.prog 17 #[planV a b c d e f g h sm] w fun v w' => v = .returned (rlV (lqL a) ((lqS b * lqN d : Nat) : Int) (lqB a c) (lqN d : Nat) (lqC e : Nat) (lqR f : Nat) (lqW g : Nat) (lqT h : Nat) (lqM sm d)) ∧ Below w.heap.size w w' := by
  obtain ⟨L, hL⟩ : ∃ n, n = lqL a := ⟨_, rfl⟩
  obtain ⟨s, hs⟩ : ∃ n, n = lqS b := ⟨_, rfl⟩
  obtain ⟨Bu, hBu⟩ : ∃ n, n = lqB a c := ⟨_, rfl⟩
  obtain ⟨n, hn⟩ : ∃ n, n = lqN d := ⟨_, rfl⟩
  obtain ⟨Ce, hCe⟩ : ∃ n, n = lqC e := ⟨_, rfl⟩
  obtain ⟨k, hk⟩ : ∃ n, n = lqR f := ⟨_, rfl⟩
  obtain ⟨W, hW⟩ : ∃ n, n = lqW g := ⟨_, rfl⟩
  obtain ⟨Tr, hTr⟩ : ∃ n, n = lqT h := ⟨_, rfl⟩
  have hbb := lqB_bd a c
  have eM : lqM sm d = (sm && decide ((1 : Int) < (n : Int))) := by rw [hn]; rfl
  rw [eM, ← hL, ← hs, ← hBu, ← hn, ← hCe, ← hk, ← hW, ← hTr]
  rw [← hBu, ← hL] at hbb
  unfold lqL at hL
  unfold lqS at hs
  unfold lqB at hBu
  unfold lqN at hn
  unfold lqC at hCe
  unfold lqR at hk
  unfold lqW at hW
  unfold lqT at hTr
  obtain ⟨a0, ha0⟩ : ∃ z, z = a % 32 := ⟨_, rfl⟩
  obtain ⟨b0, hb0⟩ : ∃ z, z = b % 32 := ⟨_, rfl⟩
  obtain ⟨c0, hc0⟩ : ∃ z, z = c % 32 := ⟨_, rfl⟩
  obtain ⟨d0, hd0⟩ : ∃ z, z = d % 8 := ⟨_, rfl⟩
  obtain ⟨e0, he0⟩ : ∃ z, z = e % 8 := ⟨_, rfl⟩
  obtain ⟨f0, hf0⟩ : ∃ z, z = f % 4 := ⟨_, rfl⟩
  obtain ⟨g0, hg0⟩ : ∃ z, z = g % 16 := ⟨_, rfl⟩
  obtain ⟨h0, hh0⟩ : ∃ z, z = h % 8 := ⟨_, rfl⟩
  have e1 : bits .and .i64 a 31 = a0 := by rw [ha0]; exact i64_mask5 a
  have e2 : bits .and .i64 b 31 = b0 := by rw [hb0]; exact i64_mask5 b
  have e3 : bits .and .i64 c 31 = c0 := by rw [hc0]; exact i64_mask5 c
  have e4 : bits .and .i64 d 7 = d0 := by rw [hd0]; exact i64_mask3 d
  have e5 : bits .and .i64 e 7 = e0 := by rw [he0]; exact i64_mask3 e
  have e6 : bits .and .i64 f 3 = f0 := by rw [hf0]; exact i64_mask2 f
  have e7 : bits .and .i64 g 15 = g0 := by rw [hg0]; exact i64_mask4 g
  have e8 : bits .and .i64 h 7 = h0 := by rw [hh0]; exact i64_mask3 h
  rw [← ha0] at hL hBu
  rw [← hc0] at hBu
  have f1 : IntKind.i64.wrap (a0 + 1) = L := by rw [IntKind.wrap_i64]; omega
  have f2 : IntKind.i64.wrap (b0 + 1) = (s : Int) := by rw [IntKind.wrap_i64]; omega
  rw [← hL] at hBu
  have hL0 : ¬ L = 0 := by omega
  obtain ⟨x0, hx0⟩ : ∃ z, z = c0 % L := ⟨_, rfl⟩
  rw [← hx0] at hBu
  have m0 : c0.tmod L = x0 := by rw [hx0]; exact Int.tmod_eq_emod_of_nonneg (by omega)
  have f3 : IntKind.i64.wrap (x0 + 1) = Bu := by clear hx0 m0; rw [IntKind.wrap_i64]; omega
  have f4 : IntKind.i64.wrap (d0 + 1) = (n : Int) := by clear hx0 m0; rw [IntKind.wrap_i64]; omega
  have f5 : IntKind.i64.wrap (e0 + 1) = (Ce : Int) := by clear hx0 m0; rw [IntKind.wrap_i64]; omega
  have f6 : IntKind.i64.wrap (f0 + 1) = (k : Int) := by clear hx0 m0; rw [IntKind.wrap_i64]; omega
  have f7 : IntKind.i64.wrap (g0 + 1) = (W : Int) := by clear hx0 m0; rw [IntKind.wrap_i64]; omega
  have f8 : IntKind.i64.wrap (h0 + 1) = (Tr : Int) := by clear hx0 m0; rw [IntKind.wrap_i64]; omega
  have g1 : n ≤ 8 := by clear hx0 m0; omega
  have g2 : s ≤ 32 := by clear hx0 m0; omega
  obtain ⟨m, hm⟩ : ∃ m, m = s * n := ⟨_, rfl⟩
  have hmb : m ≤ 256 := by rw [hm]; exact Nat.le_trans (Nat.mul_le_mul g2 g1) (by decide)
  have f9 : (s : Int) * (n : Int) = (m : Int) := by rw [hm, Int.natCast_mul]
  have f0' : IntKind.i64.wrap (m : Int) = (m : Int) := by clear hx0 m0; rw [IntKind.wrap_i64]; omega
  rw [← hm]
  obtain ⟨w1, hw1, k1, l1, s1⟩ := box_new w (planC a b c d e f g h sm) 23
  obtain ⟨w2, hw2, k2, l2, s2⟩ := box_new w1 (rlC 0 0 0 0 0 0 0 0 false) 29
  obtain ⟨b1, hb1⟩ : ∃ x, x = w.heap.size := ⟨_, rfl⟩
  obtain ⟨b2, hb2⟩ : ∃ x, x = w1.heap.size := ⟨_, rfl⟩
  have k1' := k1.keep l2
  rw [← hb1] at k1'
  rw [← hb2] at k2
  have kr1 := k1'.rd
  have K1 := Lib.hid k1'
  have K2 := Lib.hid k2
  have BL := Lib.hid (below_in l1 l2)
  have HB := Lib.hid (And.intro hb1 (And.intro hb2 (And.intro s1 s2)))
  clear hL hs hBu hn hCe hk hW hTr ha0 hb0 hc0 hd0 he0 hf0 hg0 hh0 hx0 g1 g2 hm hmb k1 k2 k1' l1 l2 s1 s2 hbb eM
  go_enter Tryz.func17, Tryz.ntmps17
  go_upto_region 1 with (fail)
  rw [← HB.out.1, ← HB.out.2.1]
  clear hw1 hw2 hb1 hb2
  go_upto_region 3 with (fail)
  have BN := Lib.hid (show Below w2.heap.size w2 w2.drew from below_draws (Below.refl _ _) 1)
  have SB := Lib.hid (fun wx (hb : Below w2.heap.size w2 wx) => show ∀ i, wx.cell? ⟨b1, i, none⟩ = (planC a b c d e f g h sm)[i]? from (K1.out.keep hb).rd)
  have st := SB.out _ BN.out
  clear kr1
  obtain ⟨w3, hw3, k3, l3, s3⟩ := box_new w2 (rlC 0 0 0 0 0 0 0 0 false) 29
  have N3 := Lib.hid (show Below w2.heap.size w2 w3.drew from below_draws l3 1)
  have N3' := Lib.hid l3
  have K3 := Lib.hid k3
  have k3r := k3.rd
  have k3w := k3.wr
  have H3 := Lib.hid (show b1 < w2.heap.size ∧ b2 < w2.heap.size from ⟨lt_of_block K1.out, lt_of_block K2.out⟩)
  have SX := Lib.hid (fun o => show ∀ i, (setObj w3 w2.heap.size o).drew.cell? ⟨b1, i, none⟩ = (planC a b c d e f g h sm)[i]? from ((K1.out.keep N3'.out).fr (Fr.setObj (F := fun k => k = w2.heap.size) (Fr.refl _ _) rfl o) (by have := H3.out; omega)).drew.rd)
  clear k3 l3 s3
  refine wp_region_held_drew (S := fun wx => ∀ i, wx.cell? ⟨b1, i, none⟩ = (planC a b c d e f g h sm)[i]?) (by kernel_rfl) st (fun hHeld => ?_)
  clear st
  refine wpAnyH_take (i := 0) (oi := ?_) (v := ?_) ?_ ?_ ?_ ?_ ?_ ?_ ?_ ?_
  rotate_left 2
  · simp only [List.getElem?_toArray, List.getElem?_cons_succ, List.getElem?_cons_zero]; rfl
  · kernel_rfl
  · kernel_rfl
  · kernel_rfl
  · exact fun _ _ _ h => h
  · refine Or.inl ⟨by rfl, ?_⟩
    intro w' hSw
    (try dsimp only at hSw)
    go_simp
    all_goals (with_reducible rfl)
  · assumption
  try simp only [Act.put, List.setIfInBounds_toArray, List.set_cons_zero, List.set_cons_succ]
  refine wpAnyH_take (i := 1) (oi := ?_) (v := ?_) ?_ ?_ ?_ ?_ ?_ ?_ ?_ ?_
  rotate_left 2
  · simp only [List.getElem?_toArray, List.getElem?_cons_succ, List.getElem?_cons_zero]; rfl
  · kernel_rfl
  · kernel_rfl
  · kernel_rfl
  · exact fun _ _ _ h => h
  · refine Or.inl ⟨by rfl, ?_⟩
    intro w' hSw
    (try dsimp only at hSw)
    go_simp
    all_goals (with_reducible rfl)
  · assumption
  try simp only [Act.put, List.setIfInBounds_toArray, List.set_cons_zero, List.set_cons_succ]
  refine wpAnyH_take (i := 2) (oi := ?_) (v := ?_) ?_ ?_ ?_ ?_ ?_ ?_ ?_ ?_
  rotate_left 2
  · simp only [List.getElem?_toArray, List.getElem?_cons_succ, List.getElem?_cons_zero]; rfl
  · kernel_rfl
  · kernel_rfl
  · kernel_rfl
  · exact fun _ _ _ h => h
  · refine Or.inl ⟨by rfl, ?_⟩
    intro w' hSw
    (try dsimp only at hSw)
    go_simp
    all_goals (with_reducible rfl)
  · assumption
  try simp only [Act.put, List.setIfInBounds_toArray, List.set_cons_zero, List.set_cons_succ]
  refine wpAnyH_take (i := 3) (oi := ?_) (v := ?_) ?_ ?_ ?_ ?_ ?_ ?_ ?_ ?_
  rotate_left 2
  · simp only [List.getElem?_toArray, List.getElem?_cons_succ, List.getElem?_cons_zero]; rfl
  · kernel_rfl
  · kernel_rfl
  · kernel_rfl
  · exact fun _ _ _ h => h
  · refine Or.inl ⟨by rfl, ?_⟩
    intro w' hSw
    (try dsimp only at hSw)
    go_simp
    all_goals (with_reducible rfl)
  · assumption
  try simp only [Act.put, List.setIfInBounds_toArray, List.set_cons_zero, List.set_cons_succ]
  refine wpAnyH_take (i := 4) (oi := ?_) (v := ?_) ?_ ?_ ?_ ?_ ?_ ?_ ?_ ?_
  rotate_left 2
  · simp only [List.getElem?_toArray, List.getElem?_cons_succ, List.getElem?_cons_zero]; rfl
  · kernel_rfl
  · kernel_rfl
  · kernel_rfl
  · exact fun _ _ _ h => h
  · refine Or.inl ⟨by rfl, ?_⟩
    intro w' hSw
    (try dsimp only at hSw)
    go_simp
    all_goals (with_reducible rfl)
  · assumption
  try simp only [Act.put, List.setIfInBounds_toArray, List.set_cons_zero, List.set_cons_succ]
  refine wpAnyH_take (i := 5) (oi := ?_) (v := ?_) ?_ ?_ ?_ ?_ ?_ ?_ ?_ ?_
  rotate_left 2
  · simp only [List.getElem?_toArray, List.getElem?_cons_succ, List.getElem?_cons_zero]; rfl
  · kernel_rfl
  · kernel_rfl
  · kernel_rfl
  · exact fun _ _ _ h => h
  · refine Or.inl ⟨by rfl, ?_⟩
    intro w' hSw
    (try dsimp only at hSw)
    go_simp
    all_goals (with_reducible rfl)
  · assumption
  try simp only [Act.put, List.setIfInBounds_toArray, List.set_cons_zero, List.set_cons_succ]
  refine wpAnyH_take (i := 6) (oi := ?_) (v := ?_) ?_ ?_ ?_ ?_ ?_ ?_ ?_ ?_
  rotate_left 2
  · simp only [List.getElem?_toArray, List.getElem?_cons_succ, List.getElem?_cons_zero]; rfl
  · kernel_rfl
  · kernel_rfl
  · kernel_rfl
  · exact fun _ _ _ h => h
  · refine Or.inl ⟨by rfl, ?_⟩
    intro w' hSw
    (try dsimp only at hSw)
    go_simp
    all_goals (with_reducible rfl)
  · assumption
  try simp only [Act.put, List.setIfInBounds_toArray, List.set_cons_zero, List.set_cons_succ]
  refine wpAnyH_take (i := 7) (oi := ?_) (v := ?_) ?_ ?_ ?_ ?_ ?_ ?_ ?_ ?_
  rotate_left 2
  · simp only [List.getElem?_toArray, List.getElem?_cons_succ, List.getElem?_cons_zero]; rfl
  · kernel_rfl
  · kernel_rfl
  · kernel_rfl
  · exact fun _ _ _ h => h
  · refine Or.inl ⟨by rfl, ?_⟩
    intro w' hSw
    (try dsimp only at hSw)
    go_simp
    all_goals (with_reducible rfl)
  · assumption
  try simp only [Act.put, List.setIfInBounds_toArray, List.set_cons_zero, List.set_cons_succ]
  refine wpAnyH_take (i := 8) (oi := ?_) (v := ?_) ?_ ?_ ?_ ?_ ?_ ?_ ?_ ?_
  rotate_left 2
  · simp only [List.getElem?_toArray, List.getElem?_cons_succ, List.getElem?_cons_zero]; rfl
  · kernel_rfl
  · kernel_rfl
  · kernel_rfl
  · exact fun _ _ _ h => h
  · refine Or.inl ⟨by rfl, ?_⟩
    intro w' hSw
    (try dsimp only at hSw)
    go_simp
    all_goals (with_reducible rfl)
  · assumption
  try simp only [Act.put, List.setIfInBounds_toArray, List.set_cons_zero, List.set_cons_succ]
  refine wpAnyH_take (i := 9) (oi := ?_) (v := ?_) ?_ ?_ ?_ ?_ ?_ ?_ ?_ ?_
  rotate_left 2
  · simp only [List.getElem?_toArray, List.getElem?_cons_succ, List.getElem?_cons_zero]; rfl
  · kernel_rfl
  · kernel_rfl
  · kernel_rfl
  · exact fun _ _ _ h => h
  · refine Or.inl ⟨by rfl, ?_⟩
    intro w' hSw
    (try dsimp only at hSw)
    go_simp
    all_goals (with_reducible rfl)
  · assumption
  try simp only [Act.put, List.setIfInBounds_toArray, List.set_cons_zero, List.set_cons_succ]
  refine wpAnyH_take (i := 10) (oi := ?_) (v := ?_) ?_ ?_ ?_ ?_ ?_ ?_ ?_ ?_
  rotate_left 2
  · simp only [List.getElem?_toArray, List.getElem?_cons_succ, List.getElem?_cons_zero]; rfl
  · kernel_rfl
  · kernel_rfl
  · kernel_rfl
  · exact fun _ _ _ h => h
  · refine Or.inl ⟨by rfl, ?_⟩
    intro w' hSw
    (try dsimp only at hSw)
    go_simp
    all_goals (with_reducible rfl)
  · assumption
  try simp only [Act.put, List.setIfInBounds_toArray, List.set_cons_zero, List.set_cons_succ]
  refine wpAnyH_take (i := 11) (oi := ?_) (v := ?_) ?_ ?_ ?_ ?_ ?_ ?_ ?_ ?_
  rotate_left 2
  · simp only [List.getElem?_toArray, List.getElem?_cons_succ, List.getElem?_cons_zero]; rfl
  · kernel_rfl
  · kernel_rfl
  · kernel_rfl
  · exact fun _ _ _ h => h
  · refine Or.inl ⟨by rfl, ?_⟩
    intro w' hSw
    (try dsimp only at hSw)
    go_simp
    all_goals (with_reducible rfl)
  · assumption
  try simp only [Act.put, List.setIfInBounds_toArray, List.set_cons_zero, List.set_cons_succ]
  refine wpAnyH_take (i := 12) (oi := ?_) (v := ?_) ?_ ?_ ?_ ?_ ?_ ?_ ?_ ?_
  rotate_left 2
  · simp only [List.getElem?_toArray, List.getElem?_cons_succ, List.getElem?_cons_zero]; rfl
  · kernel_rfl
  · kernel_rfl
  · kernel_rfl
  · exact fun _ _ _ h => h
  · refine Or.inl ⟨by rfl, ?_⟩
    intro w' hSw
    (try dsimp only at hSw)
    go_simp
    all_goals (with_reducible rfl)
  · assumption
  try simp only [Act.put, List.setIfInBounds_toArray, List.set_cons_zero, List.set_cons_succ]
  refine wpAnyH_take (i := 13) (oi := ?_) (v := ?_) ?_ ?_ ?_ ?_ ?_ ?_ ?_ ?_
  rotate_left 2
  · simp only [List.getElem?_toArray, List.getElem?_cons_succ, List.getElem?_cons_zero]; rfl
  · kernel_rfl
  · kernel_rfl
  · kernel_rfl
  · exact fun _ _ _ h => h
  · refine Or.inl ⟨by rfl, ?_⟩
    intro w' hSw
    (try dsimp only at hSw)
    go_simp
    all_goals (with_reducible rfl)
  · assumption
  try simp only [Act.put, List.setIfInBounds_toArray, List.set_cons_zero, List.set_cons_succ]
  refine wpAnyH_take (i := 14) (oi := ?_) (v := ?_) ?_ ?_ ?_ ?_ ?_ ?_ ?_ ?_
  rotate_left 2
  · simp only [List.getElem?_toArray, List.getElem?_cons_succ, List.getElem?_cons_zero]; rfl
  · kernel_rfl
  · kernel_rfl
  · kernel_rfl
  · exact fun _ _ _ h => h
  · refine Or.inl ⟨by rfl, ?_⟩
    intro w' hSw
    (try dsimp only at hSw)
    go_simp
    all_goals (with_reducible rfl)
  · assumption
  try simp only [Act.put, List.setIfInBounds_toArray, List.set_cons_zero, List.set_cons_succ]
  refine wpAnyH_take (i := 15) (oi := ?_) (v := ?_) ?_ ?_ ?_ ?_ ?_ ?_ ?_ ?_
  rotate_left 2
  · simp only [List.getElem?_toArray, List.getElem?_cons_succ, List.getElem?_cons_zero]; rfl
  · kernel_rfl
  · kernel_rfl
  · kernel_rfl
  · exact fun _ _ _ h => h
  · refine Or.inl ⟨by rfl, ?_⟩
    intro w' hSw
    (try dsimp only at hSw)
    go_simp
    all_goals (with_reducible rfl)
  · assumption
  try simp only [Act.put, List.setIfInBounds_toArray, List.set_cons_zero, List.set_cons_succ]
  refine wpAnyH_take (i := 16) (oi := ?_) (v := ?_) ?_ ?_ ?_ ?_ ?_ ?_ ?_ ?_
  rotate_left 2
  · simp only [List.getElem?_toArray, List.getElem?_cons_succ, List.getElem?_cons_zero]; rfl
  · kernel_rfl
  · kernel_rfl
  · kernel_rfl
  · exact fun _ _ _ h => h
  · refine Or.inl ⟨by rfl, ?_⟩
    intro w' hSw
    (try dsimp only at hSw)
    go_simp
    all_goals (with_reducible rfl)
  · assumption
  try simp only [Act.put, List.setIfInBounds_toArray, List.set_cons_zero, List.set_cons_succ]
  refine wpAnyH_take (i := 17) (oi := ?_) (v := ?_) ?_ ?_ ?_ ?_ ?_ ?_ ?_ ?_
  rotate_left 2
  · simp only [List.getElem?_toArray, List.getElem?_cons_succ, List.getElem?_cons_zero]; rfl
  · kernel_rfl
  · kernel_rfl
  · kernel_rfl
  · exact fun _ _ _ h => h
  · refine Or.inl ⟨by rfl, ?_⟩
    intro w' hSw
    (try dsimp only at hSw)
    go_simp
    all_goals (with_reducible rfl)
  · assumption
  try simp only [Act.put, List.setIfInBounds_toArray, List.set_cons_zero, List.set_cons_succ]
  refine wpAnyH_take (i := 18) (oi := ?_) (v := ?_) ?_ ?_ ?_ ?_ ?_ ?_ ?_ ?_
  rotate_left 2
  · simp only [List.getElem?_toArray, List.getElem?_cons_succ, List.getElem?_cons_zero]; rfl
  · kernel_rfl
  · kernel_rfl
  · kernel_rfl
  · exact fun _ _ _ h => h
  · refine Or.inl ⟨by rfl, ?_⟩
    intro w' hSw
    (try dsimp only at hSw)
    go_simp
    all_goals (with_reducible rfl)
  · assumption
  try simp only [Act.put, List.setIfInBounds_toArray, List.set_cons_zero, List.set_cons_succ]
  refine wpAnyH_take (i := 19) (oi := ?_) (v := ?_) ?_ ?_ ?_ ?_ ?_ ?_ ?_ ?_
  rotate_left 2
  · simp only [List.getElem?_toArray, List.getElem?_cons_succ, List.getElem?_cons_zero]; rfl
  · kernel_rfl
  · kernel_rfl
  · kernel_rfl
  · exact fun _ _ _ h => h
  · refine Or.inl ⟨by rfl, ?_⟩
    intro w' hSw
    (try dsimp only at hSw)
    go_simp
    all_goals (with_reducible rfl)
  · assumption
  try simp only [Act.put, List.setIfInBounds_toArray, List.set_cons_zero, List.set_cons_succ]
  refine wpAnyH_take (i := 20) (oi := ?_) (v := ?_) ?_ ?_ ?_ ?_ ?_ ?_ ?_ ?_
  rotate_left 2
  · simp only [List.getElem?_toArray, List.getElem?_cons_succ, List.getElem?_cons_zero]; rfl
  · kernel_rfl
  · kernel_rfl
  · kernel_rfl
  · exact fun _ _ _ h => h
  · refine Or.inl ⟨by rfl, ?_⟩
    intro w' hSw
    (try dsimp only at hSw)
    go_simp
    all_goals (with_reducible rfl)
  · assumption
  try simp only [Act.put, List.setIfInBounds_toArray, List.set_cons_zero, List.set_cons_succ]
  refine wpAnyH_take (i := 21) (oi := ?_) (v := ?_) ?_ ?_ ?_ ?_ ?_ ?_ ?_ ?_
  rotate_left 2
  · simp only [List.getElem?_toArray, List.getElem?_cons_succ, List.getElem?_cons_zero]; rfl
  · kernel_rfl
  · kernel_rfl
  · kernel_rfl
  · exact fun _ _ _ h => h
  · refine Or.inl ⟨by rfl, ?_⟩
    intro w' hSw
    (try dsimp only at hSw)
    go_simp
    all_goals (with_reducible rfl)
  · assumption
  try simp only [Act.put, List.setIfInBounds_toArray, List.set_cons_zero, List.set_cons_succ]
  refine wpAnyH_take (i := 22) (oi := ?_) (v := ?_) ?_ ?_ ?_ ?_ ?_ ?_ ?_ ?_
  rotate_left 2
  · simp only [List.getElem?_toArray, List.getElem?_cons_succ, List.getElem?_cons_zero]; rfl
  · kernel_rfl
  · kernel_rfl
  · kernel_rfl
  · exact fun _ _ _ h => h
  · refine Or.inl ⟨by rfl, ?_⟩
    intro w' hSw
    (try dsimp only at hSw)
    go_simp
    all_goals (with_reducible rfl)
  · assumption
  try simp only [Act.put, List.setIfInBounds_toArray, List.set_cons_zero, List.set_cons_succ]
  refine wpAnyH_take (i := 23) (oi := ?_) (v := ?_) ?_ ?_ ?_ ?_ ?_ ?_ ?_ ?_
  rotate_left 2
  · simp only [List.getElem?_toArray, List.getElem?_cons_succ, List.getElem?_cons_zero]; rfl
  · kernel_rfl
  · kernel_rfl
  · kernel_rfl
  · exact fun _ _ _ h => h
  · refine Or.inl ⟨by rfl, ?_⟩
    intro w' hSw
    (try dsimp only at hSw)
    go_simp
    all_goals (with_reducible rfl)
  · assumption
  try simp only [Act.put, List.setIfInBounds_toArray, List.set_cons_zero, List.set_cons_succ]
  refine wpAnyH_take (i := 24) (oi := ?_) (v := ?_) ?_ ?_ ?_ ?_ ?_ ?_ ?_ ?_
  rotate_left 2
  · simp only [List.getElem?_toArray, List.getElem?_cons_succ, List.getElem?_cons_zero]; rfl
  · kernel_rfl
  · kernel_rfl
  · kernel_rfl
  · exact fun _ _ _ h => h
  · refine Or.inl ⟨by rfl, ?_⟩
    intro w' hSw
    (try dsimp only at hSw)
    go_simp
    all_goals (with_reducible rfl)
  · assumption
  try simp only [Act.put, List.setIfInBounds_toArray, List.set_cons_zero, List.set_cons_succ]
  refine wpAnyH_take (i := 25) (oi := ?_) (v := ?_) ?_ ?_ ?_ ?_ ?_ ?_ ?_ ?_
  rotate_left 2
  · simp only [List.getElem?_toArray, List.getElem?_cons_succ, List.getElem?_cons_zero]; rfl
  · kernel_rfl
  · kernel_rfl
  · kernel_rfl
  · exact fun _ _ _ h => h
  · refine Or.inl ⟨by rfl, ?_⟩
    intro w' hSw
    (try dsimp only at hSw)
    go_simp
    all_goals (with_reducible rfl)
  · assumption
  try simp only [Act.put, List.setIfInBounds_toArray, List.set_cons_zero, List.set_cons_succ]
  refine wpAnyH_take (i := 26) (oi := ?_) (v := ?_) ?_ ?_ ?_ ?_ ?_ ?_ ?_ ?_
  rotate_left 2
  · simp only [List.getElem?_toArray, List.getElem?_cons_succ, List.getElem?_cons_zero]; rfl
  · kernel_rfl
  · kernel_rfl
  · kernel_rfl
  · exact fun _ _ _ h => h
  · refine Or.inl ⟨by rfl, ?_⟩
    intro w' hSw
    (try dsimp only at hSw)
    go_simp
    all_goals (with_reducible rfl)
  · assumption
  try simp only [Act.put, List.setIfInBounds_toArray, List.set_cons_zero, List.set_cons_succ]
  refine wpAnyH_take (i := 27) (oi := ?_) (v := ?_) ?_ ?_ ?_ ?_ ?_ ?_ ?_ ?_
  rotate_left 2
  · simp only [List.getElem?_toArray, List.getElem?_cons_succ, List.getElem?_cons_zero]; rfl
  · kernel_rfl
  · kernel_rfl
  · kernel_rfl
  · exact fun _ _ _ h => h
  · refine Or.inl ⟨by rfl, ?_⟩
    intro w' hSw
    (try dsimp only at hSw)
    go_simp
    all_goals (with_reducible rfl)
  · assumption
  try simp only [Act.put, List.setIfInBounds_toArray, List.set_cons_zero, List.set_cons_succ]
  refine wpAnyH_take (i := 28) (oi := ?_) (v := ?_) ?_ ?_ ?_ ?_ ?_ ?_ ?_ ?_
  rotate_left 2
  · simp only [List.getElem?_toArray, List.getElem?_cons_succ, List.getElem?_cons_zero]; rfl
  · kernel_rfl
  · kernel_rfl
  · kernel_rfl
  · exact fun _ _ _ h => h
  · refine Or.inl ⟨by rfl, ?_⟩
    intro w' hSw
    (try dsimp only at hSw)
    go_simp
    all_goals (with_reducible rfl)
  · assumption
  try simp only [Act.put, List.setIfInBounds_toArray, List.set_cons_zero, List.set_cons_succ]
  refine wpAnyH_take (i := 29) (oi := ?_) (v := ?_) ?_ ?_ ?_ ?_ ?_ ?_ ?_ ?_
  rotate_left 2
  · simp only [List.getElem?_toArray, List.getElem?_cons_succ, List.getElem?_cons_zero]; rfl
  · kernel_rfl
  · kernel_rfl
  · kernel_rfl
  · exact fun _ _ _ h => h
  · refine Or.inl ⟨by rfl, ?_⟩
    intro w' hSw
    (try dsimp only at hSw)
    go_simp
    all_goals (with_reducible rfl)
  · assumption
  try simp only [Act.put, List.setIfInBounds_toArray, List.set_cons_zero, List.set_cons_succ]
  refine wpAnyH_take (i := 30) (oi := ?_) (v := ?_) ?_ ?_ ?_ ?_ ?_ ?_ ?_ ?_
  rotate_left 2
  · simp only [List.getElem?_toArray, List.getElem?_cons_succ, List.getElem?_cons_zero]; rfl
  · kernel_rfl
  · kernel_rfl
  · kernel_rfl
  · exact fun _ _ _ h => h
  · refine Or.inl ⟨by rfl, ?_⟩
    intro w' hSw
    (try dsimp only at hSw)
    go_simp
    all_goals (with_reducible rfl)
  · assumption
  try simp only [Act.put, List.setIfInBounds_toArray, List.set_cons_zero, List.set_cons_succ]
  refine wpAnyH_ready (rs := [31]) (by kernel_rfl) (by simp) ?_
  refine AllReadyH.cons (o := ?_) ?_ ?_ ?_
  rotate_left 1
  · simp only [List.getElem?_toArray, List.getElem?_cons_succ, List.getElem?_cons_zero]; rfl
  rotate_left 1
  · exact AllReadyH.nil
  intro K hK
  go_simp
  skip
  refine hK.out _ _ (SB.out _ N3.out) (fun hHeld => ?_)
  clear hK K
  try simp only [Act.put, List.setIfInBounds_toArray, List.set_cons_zero, List.set_cons_succ]
  refine wpAnyH_ready (rs := [32]) (by kernel_rfl) (by simp) ?_
  refine AllReadyH.cons (o := ?_) ?_ ?_ ?_
  rotate_left 1
  · simp only [List.getElem?_toArray, List.getElem?_cons_succ, List.getElem?_cons_zero]; rfl
  rotate_left 1
  · exact AllReadyH.nil
  intro K hK
  go_simp
  rw [nine_setR K3.out]
  refine hK.out _ _ (SX.out _) (fun hHeld => ?_)
  clear hK K
  try simp only [Act.put, List.setIfInBounds_toArray, List.set_cons_zero, List.set_cons_succ]
  refine wpAnyH_done (by kernel_rfl) ?_ _
  clear hHeld hw3 k3r k3w
  obtain ⟨b3, hb3⟩ : ∃ x, x = w2.heap.size := ⟨_, rfl⟩
  rw [← hb3] at H3 K3 ⊢
  have f4 : Fr (fun k => k = b3) w3 (setObj w3 b3 (.cells (rlC L m Bu n Ce k W Tr false) 29 (0, 0))) := Fr.setObj (F := fun k => k = b3) (Fr.refl _ _) rfl _
  have k4 : Blk (setObj w3 b3 (.cells (rlC L m Bu n Ce k W Tr false) 29 (0, 0))) b3 29 (rlC L m Bu n Ce k W Tr false) := setObj_at (lt_of_block K3.out) _
  change Exit.then _ _ _ _ (setObj w3 b3 (.cells (rlC L m Bu n Ce k W Tr false) 29 (0, 0))).drew
  generalize setObj w3 b3 (.cells (rlC L m Bu n Ce k W Tr false) 29 (0, 0)) = w4 at f4 k4 ⊢
  have Z4 := Lib.hid (And.intro ((K1.out.keep N3'.out).fr f4 (by have := H3.out; omega)).drew (And.intro ((K2.out.keep N3'.out).fr f4 (by have := H3.out; omega)).drew (show Below w2.heap.size w2 w4.drew from below_draws (N3'.out.trans (f4.below N3'.out.size (fun k hk => by omega))) 1)))
  have k4 := k4.drew
  change Exit.then _ _ _ _ w4.drew
  generalize w4.drew = w4 at k4 Z4 ⊢
  have K4 := Lib.hid k4
  have HB3 := Lib.hid hb3
  have z1 := Z4.out.1.rd
  have z2 := Z4.out.2.1.wr
  have z2r := Z4.out.2.1.rd
  have z4 := k4.rd
  have z4w := k4.wr
  clear f4 k4 hb3
  cases sm
  · go_upto_region 5 with (fail)
    rw [setCell_obj K4.out]
    simp only [List.setIfInBounds_toArray, List.set_cons_zero, List.set_cons_succ]
    clear z4 z4w
    have f5 : Fr (fun k => k = b3) w4 (setObj w4 b3 (.cells (rlC L m Bu n Ce k W Tr false) 29 (0, 0))) := Fr.setObj (F := fun k => k = b3) (Fr.refl _ _) rfl _
    have k5 : Blk (setObj w4 b3 (.cells (rlC L m Bu n Ce k W Tr false) 29 (0, 0))) b3 29 (rlC L m Bu n Ce k W Tr false) := setObj_at (lt_of_block K4.out) _
    generalize setObj w4 b3 (.cells (rlC L m Bu n Ce k W Tr false) 29 (0, 0)) = w5 at f5 k5 ⊢
    have Y2 := Lib.hid (Z4.out.2.1.fr f5 (by have := H3.out; omega))
    have q5 : Below w2.heap.size w4 w5 := f5.below Z4.out.2.2.size (fun k hk => by have h1 := HB3.out; have h2 : k = b3 := hk; omega)
    have B5 := Lib.hid (Z4.out.2.2.trans q5)
    have z5 := k5.rd
    have y2 := Y2.out.rd
    have y2w := Y2.out.wr
    clear f5 k5 z1 z2 z2r q5
    go_wp2
    rw [nine_setR Y2.out]
    rw [show (false && decide ((1 : Int) < (n : Int))) = false from rfl]
    refine bodyPost_ret (results_cell_row rfl _ _ b2 _ _ (0, 0) _ rfl (setObj_at (lt_of_block Y2.out) _) Tryz.underlying29 rfl (by kernel_rfl)) rfl ⟨rfl, ?_⟩
    have hb := HB.out
    have b5 := below_in BL.out B5.out
    exact b5.trans ((Fr.setObj (F := fun k => k = b2) (Fr.refl _ _) rfl _).below b5.size (fun k hk => by omega))
  · go_upto_region 5 with (fail)
    rw [setCell_obj K4.out]
    simp only [List.setIfInBounds_toArray, List.set_cons_zero, List.set_cons_succ]
    clear z4 z4w
    obtain ⟨q, hq⟩ : ∃ q, q = decide ((1 : Int) < (n : Int)) := ⟨_, rfl⟩
    have HQ := Lib.hid (show (true && decide ((1 : Int) < (n : Int))) = q from by rw [hq]; rfl)
    rw [← hq]
    clear hq
    have f5 : Fr (fun k => k = b3) w4 (setObj w4 b3 (.cells (rlC L m Bu n Ce k W Tr q) 29 (0, 0))) := Fr.setObj (F := fun k => k = b3) (Fr.refl _ _) rfl _
    have k5 : Blk (setObj w4 b3 (.cells (rlC L m Bu n Ce k W Tr q) 29 (0, 0))) b3 29 (rlC L m Bu n Ce k W Tr q) := setObj_at (lt_of_block K4.out) _
    generalize setObj w4 b3 (.cells (rlC L m Bu n Ce k W Tr q) 29 (0, 0)) = w5 at f5 k5 ⊢
    have Y2 := Lib.hid (Z4.out.2.1.fr f5 (by have := H3.out; omega))
    have q5 : Below w2.heap.size w4 w5 := f5.below Z4.out.2.2.size (fun k hk => by have h1 := HB3.out; have h2 : k = b3 := hk; omega)
    have B5 := Lib.hid (Z4.out.2.2.trans q5)
    have z5 := k5.rd
    have y2 := Y2.out.rd
    have y2w := Y2.out.wr
    clear f5 k5 z1 z2 z2r q5
    go_wp2
    rw [nine_setR Y2.out]
    rw [HQ.out]
    refine bodyPost_ret (results_cell_row rfl _ _ b2 _ _ (0, 0) _ rfl (setObj_at (lt_of_block Y2.out) _) Tryz.underlying29 rfl (by kernel_rfl)) rfl ⟨rfl, ?_⟩
    have hb := HB.out
    have b5 := below_in BL.out B5.out
    exact b5.trans ((Fr.setObj (F := fun k => k = b2) (Fr.refl _ _) rfl _).below b5.size (fun k hk => by omega))
/-- a plan's limiter. -/
theorem lmplan_new (a b c d e f g h : Int) (sm : Bool) (A0 : Option Addr) (n0 c0 : Nat) (zs : List Int) (w : World) (hr : RdI w .u64 A0 n0 c0 zs) :
    Calls Tryz.prog 18 #[rlV (lqL a) ((lqS b * lqN d : Nat) : Int) (lqB a c) (lqN d : Nat) (lqC e : Nat) (lqR f : Nat) (lqW g : Nat) (lqT h : Nat) sm, .slice A0 n0 c0] w fun v w' => ∃ N : LmN, v = .returned (.pointer (some ⟨N.l, 0, none⟩)) ∧ LmAt w' N (lmZ (lqC e)) ∧ LmP N (lqL a) ((lqS b * lqN d : Nat) : Int) (lqB a c) (lqN d) (lqS b) (lqR f) (lqW g) (lqC e) (lqT h) sm (rX zs) (rA zs) (rB zs) ∧ (∀ b, N.all b → w.heap.size ≤ b) ∧ Below w.heap.size w w' := by
  have h1 : 1 ≤ lqN d ∧ lqN d ≤ 8 := by unfold lqN; omega
  have h2 : 1 ≤ lqS b ∧ lqS b ≤ 32 := by unfold lqS; omega
  have h3 : 1 ≤ lqW g ∧ lqW g ≤ 16 := by unfold lqW; omega
  have h4 : 1 ≤ lqR f ∧ lqR f ≤ 4 := by unfold lqR; omega
  have h5 : 1 ≤ lqC e ∧ lqC e ≤ 8 := by unfold lqC; omega
  have h6 : 1 ≤ lqT h ∧ lqT h ≤ 8 := by unfold lqT; omega
  have h7 : 1 ≤ lqL a ∧ lqL a ≤ 32 := by unfold lqL; omega
  have hm : lqS b * lqN d ≤ 32 * 8 := Nat.mul_le_mul h2.2 h1.2
  have hd : ((lqS b * lqN d : Nat) : Int) / ((lqN d : Nat) : Int) = ((lqS b : Nat) : Int) := by
    rw [← Int.natCast_ediv, Nat.mul_div_cancel _ (by omega)]
  have hkw : lqR f * lqW g ≤ 4 * 16 := Nat.mul_le_mul h4.2 h3.2
  have hall : (lqN d + 1) * (8 * (lqR f * lqW g)) ≤ 9 * (8 * (4 * 16)) := Nat.mul_le_mul (by omega) (by omega)
  exact lmnew_any (lqL a) _ (lqB a c) (lqN d) (lqS b) (lqR f) (lqW g) (lqC e) (lqT h) sm (by omega) (lqB_bd a c) ⟨Int.natCast_nonneg _, by omega⟩ ⟨h1.1, by omega⟩ ⟨hd, h2.1⟩ ⟨h4.1, by omega⟩ ⟨h3.1, Nat.le_trans hall (by decide)⟩ ⟨h5.1, by omega⟩ ⟨h6.1, by omega⟩ A0 n0 c0 zs w hr
theorem unitZ_bd {W n : Int} (hW : 1 ≤ W) (hn : 1 ≤ n) : 1 ≤ unitZ W n ∧ unitZ W n ≤ W := by
  unfold unitZ
  rw [if_neg (by omega)]
  have h1 := Int.mul_ediv_add_emod W n
  have h2 := Int.emod_nonneg W (show n ≠ 0 by omega)
  have h3 := Int.emod_lt_of_pos W (show 0 < n by omega)
  have h4 : 0 ≤ W / n := Int.ediv_nonneg (by omega) (by omega)
  have h5 : W / n ≤ W := Int.ediv_le_self _ (by omega)
  have h6 : 1 * (W / n) ≤ n * (W / n) := Int.mul_le_mul_of_nonneg_right hn h4
  split
  · rename_i h0
    rw [h0] at h1
    refine ⟨?_, h5⟩
    by_cases hz : W / n = 0
    · rw [hz, Int.mul_zero] at h1; omega
    · omega
  · refine ⟨by omega, ?_⟩
    by_cases hz : W / n = 0
    · omega
    · by_cases hn1 : n = 1
      · subst hn1
        omega
      · have h7 : 2 * (W / n) ≤ n * (W / n) := Int.mul_le_mul_of_nonneg_right (by omega) h4
        omega
/-- a plan's limiter, as it is made: its numbers. -/
theorem lmplan_I {N : LmN} {a b c d e f g h : Int} {sm : Bool} {X A B : Nat → Nat} {w : World} (hA : LmAt w N (lmZ (lqC e))) (hp : LmP N (lqL a) ((lqS b * lqN d : Nat) : Int) (lqB a c) (lqN d) (lqS b) (lqR f) (lqW g) (lqC e) (lqT h) sm X A B) : LmI N (lmZ (lqC e)) 0 0 := by
  have h1 : 1 ≤ lqN d ∧ lqN d ≤ 8 := by unfold lqN; omega
  have h2 : 1 ≤ lqS b ∧ lqS b ≤ 32 := by unfold lqS; omega
  have h7 : 1 ≤ lqL a ∧ lqL a ≤ 32 := by unfold lqL; omega
  have hm : lqS b * lqN d ≤ 32 * 8 := Nat.mul_le_mul h2.2 h1.2
  have hm1 : 1 * 1 ≤ lqS b * lqN d := Nat.mul_le_mul h2.1 h1.1
  have hB := lqB_bd a c
  have hu := unitZ_bd (W := ((lqS b * lqN d : Nat) : Int)) (n := lqL a + 1 - lqB a c) (by omega) (by omega)
  refine ⟨⟨w, hA.hr⟩, FewR.new N.R, fun _ _ _ => Int.le_refl _, Int.le_refl _, by omega, fun c hc => ?_, ⟨Int.le_refl _, Int.le_refl _⟩, ⟨Int.le_refl _, Int.le_refl _⟩, ⟨Int.le_refl _, Int.le_refl _⟩, by omega, ?_, ?_, ?_, ?_⟩
  · rw [List.eq_of_mem_replicate hc]
    show (0 ≤ (0 : Int) ∧ (0 : Int) ≤ 0 + 1099511627776) ∧ (0 ≤ (0 : Int) ∧ (0 : Int) ≤ 0) ∧ (0 ≤ (0 : Int) ∧ (0 : Int) ≤ 0) ∧ 0 ≤ (0 : Int) ∧ (0 : Int) ≤ 0
    omega
  · rw [hp.pU]; omega
  · rw [hp.pW]; omega
  · rw [hp.pB]; omega
  · rw [hp.pL]; omega
end Go.Proofs.YtbgcpljekcagiaaGreat
/- The laws of layer 12: their arguments; Light, alike. -/
namespace Go.Proofs.YtbgcpljekcagiaaGreat
set_option linter.unusedSimpArgs false
set_option linter.unusedVariables false
set_option maxRecDepth 100000
open Go.ChangeShapes Go.WideShapes Go.ChangeAt Go.RowKit Go.Deep
open Ar (inR)
/-- a call: how much later, how much, whose, a peek? -/
abbrev Cl := Int × Int × ByteArray × Bool
abbrev encCl (a : Cl) : Nat → Value
  | 0 => .int .i64 a.1
  | 1 => .int .i64 a.2.1
  | 2 => .string a.2.2.1
  | _ => .bool a.2.2.2
def okCl (a : Cl) : Prop := (-9223372036854775808 ≤ a.1 ∧ a.1 ≤ 9223372036854775807) ∧ (-9223372036854775808 ≤ a.2.1 ∧ a.2.1 ≤ 9223372036854775807) ∧ a.2.2.1.size ≤ maxLen
section
variable {H : Type} {enc : TypeId × Value → H} {P : Program}
theorem open_cl {W : World} {base : Nat} {r : Reach} {b0 : Nat} {t e : TypeId} {f0 f1 f2 f3 : Field} {v : Value} {d : DataW H} {p : List MemPlace} (ht : P.underlying t = some (.slice e)) (he : P.underlying e = some (.struct #[f0, f1, f2, f3]))
    (hone : oneCellFields P #[f0, f1, f2, f3] = true) (hC : P.cellsOf e = 4) (k0 : P.underlying f0.type = some (.int .i64)) (k1 : P.underlying f1.type = some (.int .i64)) (k2 : P.underlying f2.type = some .string) (k3 : P.underlying f3.type = some .bool)
    (hv : Value.okWide P W r b0 t v) (h : DataW.Trod enc P W base (fun _ => true) true t v d p) : ∃ A n c L, v = .slice A n c ∧ RdL W A n c 4 encCl L ∧ ∀ a ∈ L, okCl a :=
  open_rdL encCl okCl ht he hone hC (by simp) (fun V hV => by
    obtain ⟨x, h1, h2⟩ := row_i64 k0 (hV 0 f0 rfl)
    obtain ⟨y, h5, h6⟩ := row_i64 k1 (hV 1 f1 rfl)
    obtain ⟨s, h3, h4⟩ := row_str k2 (hV 2 f2 rfl)
    obtain ⟨b, h7⟩ := row_bool k3 (hV 3 f3 rfl)
    refine ⟨(x, y, s, b), ⟨h2, h6, h4⟩, fun j hj => ?_⟩
    match j with
    | 0 => exact h1
    | 1 => exact h5
    | 2 => exact h3
    | 3 => exact h7
    | j + 4 => exact absurd (show j + 4 < 4 from hj) (by omega)) hv h
end
theorem box4C (X : World) (a b c d : Value) : ∃ w1 w2, X.alloc (.cells #[.int .i64 0, .int .i64 0, .string ⟨#[]⟩, .bool false] 36) = w1 ∧
    (∀ j, w1.cell? ⟨X.heap.size, j, none⟩ = (#[.int .i64 0, .int .i64 0, .string ⟨#[]⟩, .bool false] : Array Value)[j]?) ∧ (∀ j, w1.frozen? ⟨X.heap.size, j, none⟩ = false) ∧
    (((w1.setCell ⟨X.heap.size, 0, none⟩ a).setCell ⟨X.heap.size, 1, none⟩ b).setCell ⟨X.heap.size, 2, none⟩ c).setCell ⟨X.heap.size, 3, none⟩ d = w2 ∧
    Below X.heap.size X w2 ∧ Blk w2 X.heap.size 36 #[a, b, c, d] := by
  obtain ⟨w1, hw1, kc1, l1, s1⟩ := box_new X #[.int .i64 0, .int .i64 0, .string ⟨#[]⟩, .bool false] 36
  exact ⟨w1, _, hw1, kc1.rd, kc1.wr, four_setC kc1, l1.trans ((Fr.setObj (F := fun k => k = X.heap.size) (Fr.refl _ _) rfl _).below l1.size (fun k hk => by omega)), setObj_at (lt_of_block kc1) _⟩
/-- are calls light? -/
def lightC (L : List Cl) : Bool := decide (L.length ≤ 150) && L.all fun a => decide (a.2.2.1.size ≤ 64)
theorem lightC_pre {L : List Cl} (h : ¬ 150 < L.length) : lightC L = L.all fun a => decide (a.2.2.1.size ≤ 64) := by
  unfold lightC; rw [decide_eq_true (by omega)]; rfl
theorem lightC_at {L : List Cl} (h : lightC L = true) : L.length ≤ 150 ∧ ∀ a ∈ L, a.2.2.1.size ≤ 64 := by
  unfold lightC at h
  rw [Bool.and_eq_true, decide_eq_true_iff, List.all_eq_true] at h
  exact ⟨h.1, fun a ha => of_decide_eq_true (h.2 a ha)⟩
theorem allC_up {L : List Cl} {i : Nat} {a : Cl} (h : L[i]? = some a) (hs : a.2.2.1.size ≤ 64) (hp : ∀ j b, j < i → L[j]? = some b → b.2.2.1.size ≤ 64) : ∀ j b, j < i + 1 → L[j]? = some b → b.2.2.1.size ≤ 64 := by
  intro j b hj hb
  by_cases e : j = i
  · subst e; rw [h] at hb; cases hb; exact hs
  · exact hp j b (by omega) hb
set_option maxHeartbeats 1000000 in
theorem lmlight_any (A : Option Addr) (n c : Nat) (L : List Cl) (w : World) (hr : RdL w A n c 4 encCl L) (hok : ∀ a ∈ L, okCl a) :
    Calls Tryz.prog 16 #[.slice A n c] w fun e w' => e = .returned (.bool (lightC L)) ∧ Below w.heap.size w w' := by
  have hmx := hr.max
  unfold maxLen at hmx
  have hcp := hr.cap
  have hlen := hr.len
  by_cases hn : 150 < n
  · have e : lightC L = false := by unfold lightC; rw [hlen, decide_eq_false (by omega)]; rfl
    rw [e]
    have t1 : decide ((150 : Int) < (n : Int)) = true := by rw [decide_eq_true_iff]; omega
    clear hr hok hlen e
    go_enter Tryz.func16, Tryz.ntmps16
    go_wp2
    go_ret
    exact ⟨rfl, Below.refl _ _⟩
  have HR := Lib.hid hr
  have HO := Lib.hid hok
  have HE := Lib.hid (lightC_pre (L := L) (by omega))
  have t1 : decide ((150 : Int) < (n : Int)) = false := by rw [decide_eq_false_iff_not]; omega
  have HLn := Lib.hid hlen
  clear hr hok hlen
  go_enter Tryz.func16, Tryz.ntmps16
  go_wp2
  go_loopg [10] n (fun kk si wr => ∃ i : Nat, i ≤ n ∧ Hid (kk = n - i) ∧ si = .int .i64 (i : Int) ∧ Hid (Below w.heap.size w wr) ∧ Hid (∀ j b, j < i → L[j]? = some b → b.2.2.1.size ≤ 64))
  case atStart => exact ⟨0, by omega, Lib.hid rfl, rfl, Lib.hid (Below.refl _ _), Lib.hid (fun j b h => absurd h (by omega))⟩
  case round =>
    obtain ⟨i, hi, HKK, rfl, HB, HA⟩ := hrel
    by_cases hin : i < n
    · obtain ⟨b, off, rfl, hbl, hc⟩ := (HR.out.below HB.out).at_ (by omega)
      obtain ⟨⟨gp, cs, ky, pk⟩, ha⟩ : ∃ a, L[i]? = some a := ⟨_, List.getElem?_eq_getElem (by rw [HLn.out]; exact hin)⟩
      have hoka := HO.out _ (List.mem_of_getElem? ha)
      have kr0 : wr.cell? ⟨b, off + i * 4, none⟩ = some (.int .i64 gp) := hc i _ ha 0 (by omega)
      have kr1 : wr.cell? ⟨b, off + i * 4 + 1, none⟩ = some (.int .i64 cs) := hc i _ ha 1 (by omega)
      have kr2 : wr.cell? ⟨b, off + i * 4 + 2, none⟩ = some (.string ky) := hc i _ ha 2 (by omega)
      have kr3 : wr.cell? ⟨b, off + i * 4 + 3, none⟩ = some (.bool pk) := hc i _ ha 3 (by omega)
      unfold okCl maxLen at hoka
      simp only at hoka
      obtain ⟨_, _, hky⟩ := hoka
      obtain ⟨x1, x2, ex1, kr, kw, ex2, bl2, kc2⟩ := box4C wr (.int .i64 gp) (.int .i64 cs) (.string ky) (.bool pk)
      have BL := Lib.hid (HB.out.trans (bl2.mono HB.out.size))
      have kc3 := kc2.rd
      have t2 : (i : Int) < (n : Int) := by omega
      have t3 : (n : Int) ≤ 150 := by omega
      have HIA := Lib.hid (And.intro ha hin)
      clear hc hbl ha bl2 kc2
      go_upto_region 6 with (fail)
      clear kr kw ex1 kr0 kr1 kr2 kr3 ex2
      by_cases h1 : (64 : Int) < (ky.size : Int)
      · have H1 := Lib.hid h1
        go_wp2
        go_ret
        have e : lightC L = false := by
          rw [HE.out, List.all_eq_false]
          exact ⟨(gp, cs, ky, pk), List.mem_of_getElem? HIA.out.1, by have := H1.out; simp; omega⟩
        exact ⟨by rw [e]; rfl, BL.out⟩
      · have H1 := Lib.hid h1
        go_wp2
        go_roundg (n - (i + 1))
        case measure => have := HKK.out; have := HIA.out.2; omega
        case rel => exact ⟨i + 1, HIA.out.2, Lib.hid rfl, by go_num, BL, Lib.hid (allC_up HIA.out.1 (by show ky.size ≤ 64; have := H1.out; omega) HA.out)⟩
    · have hie : i = n := by omega
      subst hie
      have e : lightC L = true := by
        rw [HE.out, List.all_eq_true]
        intro a ha
        obtain ⟨j, hj, he⟩ := List.getElem_of_mem ha
        have := HA.out j a (by have := HLn.out; omega) (by rw [List.getElem?_eq_getElem hj, he])
        simpa using this
      have HE2 := Lib.hid e
      clear e
      go_wp2
      go_ret
      exact ⟨by rw [HE2.out]; rfl, HB.out⟩
end Go.Proofs.YtbgcpljekcagiaaGreat
/- The laws of layer 12: fit. -/
namespace Go.Proofs.YtbgcpljekcagiaaGreat
set_option linter.unusedSimpArgs false
set_option linter.unusedVariables false
set_option maxRecDepth 100000
open Go.ChangeShapes Go.WideShapes Go.ChangeAt Go.RowKit
open Ar (inR)
theorem lsum_zeroF (R : RgN) (t : Int) (num : Nat → Int) (s : ByteArray) (a b : Int) : ∀ j, lsum R ⟨t, num, fun _ _ _ => 0⟩ s a b j = 0
  | 0 => rfl
  | j + 1 => by
    unfold lsum
    rw [lsum_zeroF R t num s a b j]
    split
    · rw [show (fun (_ : Nat) (_ : Nat) => (0 : Int)) = (fun _ _ => 0) from rfl, least_zero]; rfl
    · rfl
/-- a ring with nothing in it. -/
theorem est_zeroF {R : RgN} (hs : 1 ≤ R.s) (t : Int) (num : Nat → Int) (s : ByteArray) : estZ R ⟨t, num, fun _ _ _ => 0⟩ s = 0 := by
  unfold estZ eldZ
  simp only [lsum_zeroF]
  have h : leftZ R.s t 0 = 0 := by
    unfold leftZ
    rw [Int.zero_mul, Int.zero_add]
    exact Int.ediv_eq_zero_of_lt (by omega) (by omega)
  cases R.sm
  · rfl
  · simp only [if_true, h]; rfl
section
variable {N : LmN} {X A B : Nat → Nat}
def fitK : KSt := ⟨[], fun j => if j = 0 then some ⟨#[97]⟩ else none⟩
def fitA : LmS := ⟨fitK, [(9, 5, 0, 1)], ⟨5, fun _ => 0, fun _ _ _ => 0⟩, [(⟨#[97]⟩, 1, 0)], 1, 1, 0, 0⟩
theorem fit_one (hp : LmP N 3 10 1 1 10 1 1 1 1 false X A B) : (lmZ 1).check N 5 0 ⟨#[97]⟩ 1 = (fitA, (1, 0, 0), [(⟨#[97]⟩, true)]) := by
  have hu : N.U = 4 := by rw [hp.pU]; decide
  have hr : refZ N 5 0 1 = ((0, 0, 0), false) := by unfold refZ; rw [hp.pB]; decide
  have hs : (lmZ 1).seen N 5 ⟨#[97]⟩ 1 = ⟨kNew 1, [(0, 0, 0, 0)], ⟨5, fun _ => 0, fun _ _ _ => 0⟩, [(⟨#[97]⟩, 1, 0)], 1, 0, 0, 0⟩ := by
    unfold LmS.seen
    rw [hp.pT]
    rw [show offerM 1 (lmZ 1).M (lmZ 1).tot ⟨#[97]⟩ 1 = ([(⟨#[97]⟩, 1, 0)], 1) by decide]
    rfl
  have he := fun s => est_zeroF (R := N.R) (by rw [hp.ps]; decide) 5 (fun _ => 0) s
  have ha : LmS.adm ⟨kNew 1, [(0, 0, 0, 0)], ⟨5, fun _ => 0, fun _ _ _ => 0⟩, [(⟨#[97]⟩, 1, 0)], 1, 0, 0, 0⟩ N 5 ⟨#[97]⟩ = (⟨fitK, [(5, 5, 0, 0)], ⟨5, fun _ => 0, fun _ _ _ => 0⟩, [(⟨#[97]⟩, 1, 0)], 1, 0, 0, 0⟩, [(⟨#[97]⟩, true)]) := by
    unfold LmS.adm LmS.full LmS.put
    rw [hp.pC]
    simp only [he]
    rfl
  have hj : LmS.judge ⟨fitK, [(5, 5, 0, 0)], ⟨5, fun _ => 0, fun _ _ _ => 0⟩, [(⟨#[97]⟩, 1, 0)], 1, 0, 0, 0⟩ N 5 ⟨#[97]⟩ 1 = ((1, 0, 0), ⟨fitK, [(9, 5, 0, 1)], ⟨5, fun _ => 0, fun _ _ _ => 0⟩, [(⟨#[97]⟩, 1, 0)], 1, 0, 0, 0⟩) := by
    unfold LmS.judge
    rw [hp.pC, hu, hp.pW, hp.pB, hp.pL]
    rfl
  unfold LmS.check
  rw [hr, hs, ha]
  simp only [Bool.false_eq_true, if_false]
  rw [hj]
  rfl
theorem fit_two (hp : LmP N 3 10 1 1 10 1 1 1 1 false X A B) : ∃ s r, fitA.check N 5 0 ⟨#[98]⟩ 1 = (s, (1, r, 0), []) ∧ s.al = 2 := by
  have hu : N.U = 4 := by rw [hp.pU]; decide
  have hr : refZ N 5 0 1 = ((0, 0, 0), false) := by unfold refZ; rw [hp.pB]; decide
  have hs : fitA.seen N 5 ⟨#[98]⟩ 1 = ⟨fitK, [(9, 5, 0, 1)], ⟨5, fun _ => 0, fun _ _ _ => 0⟩, [(⟨#[98]⟩, 2, 1)], 2, 1, 0, 0⟩ := by
    unfold LmS.seen
    rw [hp.pT]
    rw [show offerM 1 fitA.M fitA.tot ⟨#[98]⟩ 1 = ([(⟨#[98]⟩, 2, 1)], 2) by decide]
    rfl
  have ha : LmS.adm ⟨fitK, [(9, 5, 0, 1)], ⟨5, fun _ => 0, fun _ _ _ => 0⟩, [(⟨#[98]⟩, 2, 1)], 2, 1, 0, 0⟩ N 5 ⟨#[98]⟩ = (⟨fitK, [(9, 5, 0, 1)], ⟨5, fun _ => 0, fun _ _ _ => 0⟩, [(⟨#[98]⟩, 2, 1)], 2, 1, 0, 0⟩, []) := by
    have hg : LmS.giver ⟨fitK, [(9, 5, 0, 1)], ⟨5, fun _ => 0, fun _ _ _ => 0⟩, [(⟨#[98]⟩, 2, 1)], 2, 1, 0, 0⟩ N 5 ⟨#[98]⟩ = none := by
      unfold LmS.giver LmS.light LmS.res
      rw [hp.pC, hp.pW, hp.pT]
      rfl
    unfold LmS.adm LmS.full
    rw [hp.pC, hg]
    rfl
  have he := est_zeroF (R := N.R) (by rw [hp.ps]; decide) 5 (fun _ => 0) ⟨#[98]⟩
  have hj : ∃ r s, LmS.judge ⟨fitK, [(9, 5, 0, 1)], ⟨5, fun _ => 0, fun _ _ _ => 0⟩, [(⟨#[98]⟩, 2, 1)], 2, 1, 0, 0⟩ N 5 ⟨#[98]⟩ 1 = ((1, r, 0), s) ∧ s.al = 1 ∧ s.de = 0 ∧ s.ba = 0 := by
    unfold LmS.judge
    rw [hp.pC]
    show ∃ r s, (if clamp (estZ N.R ⟨5, fun _ => 0, fun _ _ _ => 0⟩ ⟨#[98]⟩ + 1) ≤ N.L then _ else _) = _ ∧ _
    rw [he, hp.pL]
    exact ⟨_, _, rfl, rfl, rfl, rfl⟩
  obtain ⟨r, s, hj, h1, h2, h3⟩ := hj
  refine ⟨s.count 1, r, ?_, ?_⟩
  · unfold LmS.check
    rw [hr, hs, ha]
    simp only [Bool.false_eq_true, if_false]
    rw [hj]
  · show s.al + 1 = 2
    rw [h1]; rfl
theorem fit_A {w : World} (hA : LmAt w N (lmZ 1)) (hp : LmP N 3 10 1 1 10 1 1 1 1 false X A B) : LmI N (lmZ 1) 0 0 := lmplan_I (a := 2) (b := 9) (c := 0) (d := 0) (e := 0) (f := 0) (g := 0) (h := 0) (sm := false) hA hp
theorem fit_AI (hp : LmP N 3 10 1 1 10 1 1 1 1 false X A B) (h : LmI N (lmZ 1) 0 0) : LmI N fitA 5 2097153 := by
  have h1 := (h.mono (t' := 5) (m' := 0) (by omega) (by omega)).check (by omega) 0 ⟨#[97]⟩ 1
  rw [fit_one hp] at h1
  exact h1
set_option maxHeartbeats 4000000 in
theorem lmfit_any (w : World) : Calls Tryz.prog 15 #[] w fun e w' => e = .returned (.bool true) ∧ Below w.heap.size w w' := by
  have CRu := Lib.hid (fun wx => show Calls Tryz.prog 17 #[planV 2 9 0 0 0 0 0 0 false] wx (fun e w' => e = .returned (rlV 3 10 1 1 1 1 1 1 false) ∧ Below wx.heap.size wx w') from lmrule_any 2 9 0 0 0 0 0 0 false wx)
  have CNw := Lib.hid (fun wx => show Calls Tryz.prog 18 #[rlV 3 10 1 1 1 1 1 1 false, .slice none 0 0] wx (fun v w' => ∃ N : LmN, v = .returned (.pointer (some ⟨N.l, 0, none⟩)) ∧ LmAt w' N (lmZ 1) ∧ LmP N 3 10 1 1 10 1 1 1 1 false (rX []) (rA []) (rB []) ∧ (∀ b, N.all b → wx.heap.size ≤ b) ∧ Below wx.heap.size wx w') from lmplan_new 2 9 0 0 0 0 0 0 false none 0 0 [] wx (rdI_none wx _))
  go_enter Tryz.func15, Tryz.ntmps15
  go_upto_region 2 with (first
    | (go_at_call 17; ((with_reducible refine (CRu.out _).mono ?_); rintro e w1 ⟨rfl, b1⟩; have B1 := Lib.hid b1; clear b1))
    | (go_at_call 18; ((with_reducible refine (CNw.out _).mono ?_); rintro e w2 ⟨N, rfl, a2, p2, n2, b2⟩; have A2 := Lib.hid a2; have P2 := Lib.hid p2; have B2 := Lib.hid (below_in B1.out b2); have NW := Lib.hid (show ∀ b, N.all b → w.heap.size ≤ b from fun b hb => Nat.le_trans B1.out.size (n2 b hb)); have I2 := Lib.hid (fit_A a2 p2); clear a2 p2 n2 b2)))
  clear CRu CNw
  have c1 := lmcheckI (N := N) 5 0 ⟨#[97]⟩ 1 (by show 1 ≤ maxLen; unfold maxLen; omega) (by unfold inR; omega) (by unfold inR; omega) w2 A2.out (I2.out.mono (t' := 5) (m' := 0) (by omega) (by omega)) (by omega)
  rw [fit_one P2.out] at c1
  have C1 := Lib.hid c1
  clear c1
  go_upto_region 4 with (fail)
  go_upto_region 5 with (go_at_call 24; ((with_reducible refine C1.out.mono ?_); rintro e w3 ⟨v3, rfl, o3, a3, f3⟩; obtain ⟨x3, c3, rfl, q1, q2, q3⟩ := G.own_at o3; obtain ⟨g3, rfl, _, hg3, hl3, hc3, _⟩ := q3 (by show 0 < 1; omega); have A3 := Lib.hid a3; have B3 := Lib.hid (show Below w.heap.size w w3 from B2.out.trans (f3.below B2.out.size (fun b hb => NW.out b hb))); have O3 := Lib.hid (show g3 < w3.heap.size ∧ w3.cell? ⟨g3, 2, none⟩ = some (.bool true) ∧ ¬ N.all g3 from ⟨hl3, (hc3 2 (by show 2 < 1 * 4; omega)).trans rfl, fun hb => by have := A2.out.lt _ hb; omega⟩); have Q3 := Lib.hid (And.intro q1 q2); clear a3 f3 o3 q1 q2 q3 hc3 hg3 hl3; obtain ⟨x4, w4, ex4, kr4, kw4, ey4, b4, k4⟩ := box3R w3 40 (.int .i64 0) (.int .i64 0) (.int .i64 0) (.int .i64 1) (.int .i64 0) (.int .i64 0)))
  have H4 := Lib.hid (And.intro (A3.out.keep b4) (And.intro (below_in B3.out b4) (And.intro k4 (And.intro (show ∀ b, N.all b → b < w3.heap.size from fun b hb => A3.out.lt b hb) ((b4.cell (p := ⟨g3, 2, none⟩) O3.out.1).trans O3.out.2.1)))))
  clear ex4 kr4 kw4 ey4 b4 k4
  obtain ⟨b5, hb5⟩ : ∃ x, x = w3.heap.size := ⟨_, rfl⟩
  rw [← hb5] at H4 ⊢
  have HB5 := Lib.hid (show g3 < b5 from by rw [hb5]; exact O3.out.1)
  clear hb5
  have I4 := Lib.hid (fit_AI P2.out I2.out)
  obtain ⟨s6, r6, e6, al6⟩ := fit_two P2.out
  have c2 := lmcheckI (N := N) 5 0 ⟨#[98]⟩ 1 (by show 1 ≤ maxLen; unfold maxLen; omega) (by unfold inR; omega) (by unfold inR; omega) w4 H4.out.1 I4.out (by omega)
  rw [e6] at c2
  have C2 := Lib.hid c2
  have HAL := Lib.hid al6
  clear c2 e6 al6
  go_upto_region 6 with (go_at_call 24; ((with_reducible refine C2.out.mono ?_); rintro e w5 ⟨v5, rfl, o5, a5, f5⟩; obtain ⟨x5, c5, rfl, q1, q2, q3⟩ := G.own_at o5; have A5 := Lib.hid a5; have B5 := Lib.hid (show Below w.heap.size w w5 from H4.out.2.1.trans (f5.below H4.out.2.1.size (fun b hb => NW.out b hb))); clear o5 q1 q2 q3; obtain ⟨x6, w6, ex6, kr6, kw6, ey6, b6, k6⟩ := box3R w5 40 (.int .i64 0) (.int .i64 0) (.int .i64 0) (.int .i64 1) (.int .i64 r6) (.int .i64 0)))
  have K6 := Lib.hid ((H4.out.2.2.1.fr f5 (fun hb => by have := H4.out.2.2.2.1 _ hb; omega)).keep b6)
  have kg : w6.cell? ⟨g3, 2, none⟩ = some (.bool true) := (b6.cell (p := ⟨g3, 2, none⟩) (Nat.lt_of_lt_of_le (Nat.lt_trans HB5.out (lt_of_block H4.out.2.2.1)) f5.size)).trans ((f5.cell (Nat.lt_trans HB5.out (lt_of_block H4.out.2.2.1)) O3.out.2.2).trans H4.out.2.2.2.2)
  have c3' := lmtotals_any w6 (A5.out.keep b6)
  rw [HAL.out] at c3'
  have C3 := Lib.hid c3'
  have B6 := Lib.hid (below_in B5.out b6)
  have k5 := K6.out.rd
  obtain ⟨z1, hz1⟩ : ∃ z, z = s6.de := ⟨_, rfl⟩
  obtain ⟨z2, hz2⟩ : ∃ z, z = s6.ba := ⟨_, rfl⟩
  obtain ⟨z3, hz3⟩ : ∃ z, z = s6.len N := ⟨_, rfl⟩
  obtain ⟨z4, hz4⟩ : ∃ z, z = s6.tot := ⟨_, rfl⟩
  rw [← hz1, ← hz2, ← hz3, ← hz4] at C3
  have hfld : ∀ w, Sem.run Tryz.prog (Instr.field 47 (totV 2 z1 z2 z3 z4) 0) w = .ok (.int .i64 2) w := fun w => rfl
  clear hz1 hz2 hz3 hz4 c3' a5 f5 ex6 kr6 kw6 ey6 b6 k6
  go_wp2_with (go_at_call 27; ((with_reducible refine C3.out.mono ?_); rintro e w7 ⟨rfl, b7⟩; have B7 := Lib.hid (below_in B6.out b7); clear b7))
  go_ret
  exact ⟨rfl, B7.out⟩
end
end Go.Proofs.YtbgcpljekcagiaaGreat
/- The laws of layer 12: a limiter of the law's own. -/
namespace Go.Proofs.YtbgcpljekcagiaaGreat
set_option linter.unusedSimpArgs false
set_option linter.unusedVariables false
set_option maxRecDepth 100000
open Go.ChangeShapes Go.WideShapes Go.ChangeAt Go.RowKit
open Ar (inR)
structure LmLaw (W w : World) (N : LmN) (s : LmS) (t m : Int) : Prop where
  at_ : LmAt w N s
  I : LmI N s t m
  lo : ∀ b, N.all b → W.heap.size ≤ b
  bl : Below W.heap.size W w
section
variable {W w w' : World} {N : LmN} {s s' : LmS} {t t' m m' : Int}
theorem LmLaw.keep (h : LmLaw W w N s t m) (hb : Below w.heap.size w w') : LmLaw W w' N s t m := ⟨h.at_.keep hb, h.I, h.lo, below_in h.bl hb⟩
theorem LmLaw.op {F : Nat → Prop} (h : LmLaw W w N s t m) (h1 : LmAt w' N s') (hI : LmI N s' t' m') (hf : Fr F w w') (hF : ∀ b, F b → N.all b) : LmLaw W w' N s' t' m' := ⟨h1, hI, h.lo, h.bl.trans (hf.below h.bl.size (fun b hb => h.lo b (hF b hb)))⟩
theorem LmLaw.mono (h : LmLaw W w N s t m) (ht : t ≤ t' ∧ t' ≤ 4611686018427387904) (hm : m ≤ m' ∧ m' ≤ 576460752303423488) : LmLaw W w N s t' m' := ⟨h.at_, h.I.mono ht hm, h.lo, h.bl⟩
theorem LmLaw.ne (h : LmLaw W w N s t m) {b : Nat} (hb : w.heap.size ≤ b) : ¬ N.all b := fun g => by have := h.at_.lt b g; omega
end
/-- what the laws know of a plan's limiter. -/
theorem lmplan_B {N : LmN} {a b c d e f g h : Int} {sm : Bool} {X A B : Nat → Nat} (hp : LmP N (lqL a) ((lqS b * lqN d : Nat) : Int) (lqB a c) (lqN d) (lqS b) (lqR f) (lqW g) (lqC e) (lqT h) sm X A B) : LmB N ∧ N.B = lqB a c ∧ 1 ≤ lqB a c ∧ lqB a c ≤ 32 := by
  have h1 : 1 ≤ lqN d ∧ lqN d ≤ 8 := by unfold lqN; omega
  have h2 : 1 ≤ lqS b ∧ lqS b ≤ 32 := by unfold lqS; omega
  have h7 : 1 ≤ lqL a ∧ lqL a ≤ 32 := by unfold lqL; omega
  have hm : (lqN d + 1) * lqS b ≤ 9 * 32 := Nat.mul_le_mul (by omega) h2.2
  have hB := lqB_bd a c
  refine ⟨⟨?_, ?_, ?_⟩, hp.pB, hB.1, by omega⟩
  · rw [hp.pB, hp.pL]; exact hB.2
  · rw [hp.pRL, hp.pL]
  · rw [hp.pn, hp.ps, ← Int.natCast_mul]; omega
/-- a call's answer, laid in a box. -/
theorem boxA (X : World) (a b c : Int) : ∃ w1 w2, X.alloc (.cells #[.int .i64 0, .int .i64 0, .int .i64 0] 40) = w1 ∧
    (∀ j, w1.cell? ⟨X.heap.size, j, none⟩ = (#[.int .i64 0, .int .i64 0, .int .i64 0] : Array Value)[j]?) ∧ (∀ j, w1.frozen? ⟨X.heap.size, j, none⟩ = false) ∧
    ((w1.setCell ⟨X.heap.size, 0, none⟩ (.int .i64 a)).setCell ⟨X.heap.size, 1, none⟩ (.int .i64 b)).setCell ⟨X.heap.size, 2, none⟩ (.int .i64 c) = w2 ∧
    Below X.heap.size X w2 ∧ Blk w2 X.heap.size 40 #[.int .i64 a, .int .i64 b, .int .i64 c] := box3R X 40 _ _ _ _ _ _
end Go.Proofs.YtbgcpljekcagiaaGreat
/- The laws of layer 12: what rows have at least; limiters of one rule; peeks of residents. -/
namespace Go.Proofs.YtbgcpljekcagiaaGreat
set_option linter.unusedSimpArgs false
set_option linter.unusedVariables false
set_option maxRecDepth 100000
open Go.ChangeShapes Go.WideShapes Go.ChangeAt Go.RowKit
open Ar (inR)
/-- two rings of one rule and one row of functions. -/
structure RgE (R1 R2 : RgN) : Prop where
  n : R1.n = R2.n
  s : R1.s = R2.s
  rl : R1.L = R2.L
  sm : R1.sm = R2.sm
  k : R1.k = R2.k
  w : R1.W = R2.W
  x : R1.X = R2.X
  a : R1.A = R2.A
  b : R1.B = R2.B
section
variable {R1 R2 : RgN}
theorem RgE.P (h : RgE R1 R2) : R1.P = R2.P := by unfold RgN.P; rw [h.w, h.x, h.a, h.b]
theorem RgE.now (h : RgE R1 R2) (σ : RgS) : σ.now R1 = σ.now R2 := by unfold RgS.now; rw [h.s]
theorem RgE.lsum (h : RgE R1 R2) (σ : RgS) (s : ByteArray) (a b : Int) : ∀ j, lsum R1 σ s a b j = lsum R2 σ s a b j
  | 0 => rfl
  | j + 1 => by
    unfold Go.Proofs.YtbgcpljekcagiaaGreat.lsum
    rw [RgE.lsum h σ s a b j, h.P, h.k]
theorem RgE.est (h : RgE R1 R2) (σ : RgS) (s : ByteArray) : estZ R1 σ s = estZ R2 σ s := by
  unfold estZ eldZ
  simp only [h.lsum, h.now, h.n, h.sm, h.s]
theorem RgE.room (h : RgE R1 R2) (σ : RgS) (s : ByteArray) (c x : Int) : roomAt R1 σ s c x ↔ roomAt R2 σ s c x := by
  unfold roomAt
  simp only [h.lsum, h.now, h.n, h.rl]
theorem RgE.next (h : RgE R1 R2) (σ : RgS) (s : ByteArray) (c : Int) : ∀ (j : Nat) (x : Int), nextR R1 σ s c j x = nextR R2 σ s c j x
  | 0, _ => rfl
  | j + 1, x => by
    unfold nextR
    rw [RgE.next h σ s c j (x + 1)]
    by_cases hr : roomAt R1 σ s c x
    · rw [if_pos hr, if_pos ((h.room σ s c x).1 hr)]
    · rw [if_neg hr, if_neg (fun g => hr ((h.room σ s c x).2 g))]
theorem RgE.wait (h : RgE R1 R2) (σ : RgS) (s : ByteArray) (c : Int) : waitR R1 σ s c = waitR R2 σ s c := by
  unfold waitR
  simp only [h.est, h.next, h.now, h.n, h.rl, h.s]
theorem RgE.add (h : RgE R1 R2) (σ : RgS) (s : ByteArray) (c : Int) : σ.add R1 s c = σ.add R2 s c := by
  unfold RgS.add RgS.pl
  rw [h.now, h.n, h.P, h.k]
end
/-- two limiters of one rule and one pair of draws. -/
structure LmE (N1 N2 : LmN) : Prop where
  U : N1.U = N2.U
  W : N1.W = N2.W
  B : N1.B = N2.B
  L : N1.L = N2.L
  q : N1.Q.N.n = N2.Q.N.n
  t : N1.S.N.n = N2.S.N.n
  n : N1.R.n = N2.R.n
  s : N1.R.s = N2.R.s
  rl : N1.R.L = N2.R.L
  sm : N1.R.sm = N2.R.sm
  k : N1.R.k = N2.R.k
  rw_ : N1.R.W = N2.R.W
  x : N1.R.X = N2.R.X
  a : N1.R.A = N2.R.A
  b : N1.R.B = N2.R.B
section
variable {N1 N2 : LmN}
theorem LmE.r (h : LmE N1 N2) : RgE N1.R N2.R := ⟨h.n, h.s, h.rl, h.sm, h.k, h.rw_, h.x, h.a, h.b⟩
theorem LmE.ref (h : LmE N1 N2) (now held cost : Int) : refZ N1 now held cost = refZ N2 now held cost := by unfold refZ; rw [h.B]
theorem LmE.left (h : LmE N1 N2) (s : LmS) (key : ByteArray) : s.left N1 key = s.left N2 key := by unfold LmS.left; rw [h.L, h.B, h.r.est]
theorem LmE.judge (h : LmE N1 N2) (s : LmS) (now : Int) (key : ByteArray) (cost : Int) : s.judge N1 now key cost = s.judge N2 now key cost := by
  unfold LmS.judge
  simp only [h.q, h.U, h.W, h.B, h.L, h.r.est, h.r.add, h.r.wait, h.left]
theorem LmE.res (h : LmE N1 N2) (s : LmS) : s.res N1 = s.res N2 := by unfold LmS.res; rw [h.q]
theorem LmE.giver (h : LmE N1 N2) (s : LmS) (now : Int) (key : ByteArray) : s.giver N1 now key = s.giver N2 now key := by
  unfold LmS.giver LmS.light
  have ht : N1.S.N.n = N2.S.N.n := h.t
  simp only [h.res, h.W, ht]
theorem LmE.evict (h : LmE N1 N2) (s : LmS) (now : Int) (key : ByteArray) : s.evict N1 now key = s.evict N2 now key := by
  unfold LmS.evict
  simp only [h.q, h.U, h.W, h.L, h.r.add]
theorem LmE.put (h : LmE N1 N2) (s : LmS) (now : Int) (key : ByteArray) : s.put N1 now key = s.put N2 now key := by
  unfold LmS.put
  simp only [h.q, h.r.est]
theorem LmE.adm (h : LmE N1 N2) (s : LmS) (now : Int) (key : ByteArray) : s.adm N1 now key = s.adm N2 now key := by
  unfold LmS.adm LmS.full
  simp only [h.q, h.giver, h.evict, h.put]
theorem LmE.seen (h : LmE N1 N2) (s : LmS) (now : Int) (key : ByteArray) (cost : Int) : s.seen N1 now key cost = s.seen N2 now key cost := by
  unfold LmS.seen
  rw [h.t]
theorem LmE.check (h : LmE N1 N2) (s : LmS) (now held : Int) (key : ByteArray) (cost : Int) : s.check N1 now held key cost = s.check N2 now held key cost := by
  unfold LmS.check
  rw [h.ref, h.seen, h.adm, h.judge]
theorem LmE.resi (h : LmE N1 N2) (s : LmS) (now : Int) (key : ByteArray) : s.resi N1 now key = s.resi N2 now key := by
  unfold LmS.resi LmS.full
  simp only [h.q, h.res, h.W, h.r.est]
theorem LmE.peek (h : LmE N1 N2) (s : LmS) (now held : Int) (key : ByteArray) (cost : Int) : s.peek N1 now held key cost = s.peek N2 now held key cost := by
  unfold LmS.peek
  simp only [h.ref, h.resi, h.U, h.W, h.B, h.L, h.r.wait, h.left]
theorem LmE.len (h : LmE N1 N2) (s : LmS) : s.len N1 = s.len N2 := by unfold LmS.len; rw [h.q]
end
/-- what two limiters that were made alike have of one rule. -/
theorem LmP.same {N1 N2 : LmN} {L Wd Bu : Int} {Sl s k W Ce Tr : Nat} {sm : Bool} {X A B : Nat → Nat} (h1 : LmP N1 L Wd Bu Sl s k W Ce Tr sm X A B) (h2 : LmP N2 L Wd Bu Sl s k W Ce Tr sm X A B) : LmE N1 N2 :=
  ⟨h1.pU.trans h2.pU.symm, h1.pW.trans h2.pW.symm, h1.pB.trans h2.pB.symm, h1.pL.trans h2.pL.symm, h1.pC.trans h2.pC.symm, h1.pT.trans h2.pT.symm, h1.pn.trans h2.pn.symm, h1.ps.trans h2.ps.symm, h1.pRL.trans h2.pRL.symm, h1.psm.trans h2.psm.symm, h1.pk.trans h2.pk.symm, h1.pRW.trans h2.pRW.symm, h1.pX.trans h2.pX.symm, h1.pA.trans h2.pA.symm, h1.pRB.trans h2.pRB.symm⟩
/-! #### what a key without a cell is answered -/
section
variable {N : LmN} {s : LmS} {now m cost : Int}
end
end Go.Proofs.YtbgcpljekcagiaaGreat
/- The laws of layer 12: two limiters; what peeks leave and tell. -/
namespace Go.Proofs.YtbgcpljekcagiaaGreat
set_option linter.unusedSimpArgs false
set_option linter.unusedVariables false
set_option maxRecDepth 100000
open Go.ChangeShapes Go.WideShapes Go.ChangeAt Go.RowKit
open Ar (inR)
/-- two limiters of the law's own. -/
structure LmTwo (W w : World) (N1 N2 : LmN) (s1 s2 : LmS) (t1 t2 m : Int) : Prop where
  a : LmLaw W w N1 s1 t1 m
  b : LmLaw W w N2 s2 t2 m
  ap : ∀ k, N1.all k → ¬ N2.all k
section
variable {W w w' : World} {N1 N2 : LmN} {s1 s2 s' : LmS} {t1 t2 t1' t2' m m' : Int}
theorem LmTwo.keep (h : LmTwo W w N1 N2 s1 s2 t1 t2 m) (hb : Below w.heap.size w w') : LmTwo W w' N1 N2 s1 s2 t1 t2 m := ⟨h.a.keep hb, h.b.keep hb, h.ap⟩
theorem LmTwo.mono (h : LmTwo W w N1 N2 s1 s2 t1 t2 m) (ht1 : t1 ≤ t1' ∧ t1' ≤ 4611686018427387904) (ht2 : t2 ≤ t2' ∧ t2' ≤ 4611686018427387904) (hm : m ≤ m' ∧ m' ≤ 576460752303423488) : LmTwo W w N1 N2 s1 s2 t1' t2' m' := ⟨h.a.mono ht1 hm, h.b.mono ht2 hm, h.ap⟩
end
theorem answer_equal (a b c a' b' c' : Int) (w : World) :
    (Op.equalIn 10000 40 (.agg #[.int .i64 a, .int .i64 b, .int .i64 c]) (.agg #[.int .i64 a', .int .i64 b', .int .i64 c'])).run Tryz.prog w = .ok (decide (a = a' ∧ b = b' ∧ c = c')) w := by
  have hS : Tryz.prog.underlying 40 = some (.struct (Tryz.prog.fieldsOf 40)) := by kernel_rfl
  have hp : Tryz.prog.stoodInHeld 40 = false := by kernel_rfl
  rw [show (10000 : Nat) = 9999 + 1 from rfl, run_equalIn_agg w 9999 40 _ _ hS hp]
  simp only [Program.fieldsOf, Tryz.underlying40]
  go_simp
  by_cases h1 : a = a' <;> by_cases h2 : b = b' <;> by_cases h3 : c = c' <;> simp [h1, h2, h3]
/-- a limiter whose ring's time is another. -/
def LmS.at (s : LmS) (x : Int) : LmS := { s with r := ⟨x, s.r.num, s.r.F⟩ }
section
variable {N : LmN} {s : LmS} {now m cost x : Int}
theorem admit_t (key : ByteArray) : (s.adm N now key).1.r.t = s.r.t := by
  unfold LmS.adm
  split
  · rfl
  · split
    · split <;> rfl
    · rfl
end
end Go.Proofs.YtbgcpljekcagiaaGreat
/- The law LimiterPeeks of layer 12 (limiter), walked. -/
namespace Go.Proofs.YtbgcpljekcagiaaGreat
set_option linter.unusedSimpArgs false
set_option linter.unusedVariables false
set_option maxRecDepth 100000
open Go.ChangeShapes Go.WideShapes Go.ChangeAt Go.RowKit
open Ar (inR)
end Go.Proofs.YtbgcpljekcagiaaGreat
/- The law LimiterEvents of layer 12 (limiter): the plain side: which keys get and lose cells. -/
namespace Go.Proofs.YtbgcpljekcagiaaGreat
set_option linter.unusedSimpArgs false
set_option linter.unusedVariables false
set_option maxRecDepth 100000
open Go.ChangeShapes Go.WideShapes Go.ChangeAt Go.RowKit
open Ar (inR)
/-- a pool's keys and free places, and what becomes of them. -/
structure KsOk (n : Nat) (σ : KSt) : Prop where
  pl : Places n σ.fl σ.K
  inj : ∀ i j s, σ.K i = some s → σ.K j = some s → i = j
  bd : ∀ i s, σ.K i = some s → i < n ∧ s.size ≤ 64
theorem LmAt.ks {w : World} {N : LmN} {s : LmS} (h : LmAt w N s) : KsOk N.Q.N.n s.σ := by
  have u := h.hp.ix.uni
  exact ⟨u.2.2.2, u.1, u.2.1⟩
section
variable {n : Nat} {σ : KSt}
theorem posN_iff {K : Nat → Option ByteArray} {k : ByteArray} : (posN n K k).isSome = true ↔ ∃ i, i < n ∧ K i = some k := by
  constructor
  · intro h
    obtain ⟨i, hi⟩ := Option.isSome_iff_exists.1 h
    exact ⟨i, posN_some hi⟩
  · rintro ⟨i, hi, hk⟩
    cases hp : posN n K k with
    | some j => rfl
    | none => exact absurd hk (posN_none hp i hi)
end
section
variable {N : LmN} {s : LmS} {now held cost : Int}
theorem light_in (f : ByteArray → Int) : ∀ (l : List (ByteArray × Cel)) (a : ByteArray × Int × Bool), (l.foldl (fun a x => lightS f a x.1) a).2.2 = true → (l.foldl (fun a x => lightS f a x.1) a) = a ∧ a.2.2 = true ∨ ∃ x ∈ l, x.1 = (l.foldl (fun a x => lightS f a x.1) a).1
  | [], a, h => Or.inl ⟨rfl, h⟩
  | x :: r, a, h => by
    rw [List.foldl_cons] at h ⊢
    rcases light_in f r (lightS f a x.1) h with ⟨h1, h2⟩ | ⟨y, hy, h1⟩
    · rw [h1]
      unfold lightS at h1 h2 ⊢
      split at h2
      · rename_i hc
        rw [if_pos hc]
        exact Or.inr ⟨x, List.mem_cons_self, rfl⟩
      · rename_i hc
        rw [if_neg hc]
        exact Or.inl ⟨rfl, h2⟩
    · exact Or.inr ⟨y, List.mem_cons_of_mem _ hy, h1⟩
/-- who gives a cell has one. -/
theorem giver_res {key o : ByteArray} (h : s.giver N now key = some o) : ∃ i, i < N.Q.N.n ∧ s.σ.K i = some o := by
  have hm : ∃ x ∈ s.res N, x.1 = o := by
    unfold LmS.giver at h
    cases hp : plIdle (s.res N) N.W now with
    | some x =>
      rw [hp] at h
      injection h with h
      exact ⟨x, List.mem_of_find?_eq_some hp, h⟩
    | none =>
      rw [hp] at h
      dsimp only at h
      split at h
      · cases h
      · split at h
        · cases h
        · rename_i hl
          injection h with h
          have h2 : (s.light N).2.2 = true := by
            cases hq : (s.light N).2.2
            · exact absurd (Or.inl hq) hl
            · rfl
          rcases light_in (mostM N.S.N.n s.M) (s.res N) (⟨#[]⟩, 0, false) h2 with ⟨_, h3⟩ | ⟨x, hx, h3⟩
          · cases h3
          · exact ⟨x, hx, h3.trans h⟩
  obtain ⟨x, hx, rfl⟩ := hm
  obtain ⟨i, hi, he⟩ := List.mem_filterMap.1 hx
  refine ⟨i, List.mem_range.1 hi, ?_⟩
  cases hk : s.σ.K i with
  | none => rw [hk] at he; cases he
  | some y =>
    rw [hk] at he
    injection he with he
    rw [← he]
end
end Go.Proofs.YtbgcpljekcagiaaGreat
/- The law LimiterLimit of layer 12 (limiter): the plain side: what all keys were let through. -/
namespace Go.Proofs.YtbgcpljekcagiaaGreat
set_option linter.unusedSimpArgs false
set_option linter.unusedVariables false
set_option maxRecDepth 100000
open Go.ChangeShapes Go.WideShapes Go.ChangeAt Go.RowKit
open Ar (inR)
/-- what the law knows of a limiter's rule. -/
structure LimN (N : LmN) (span : Int) : Prop where
  U : 1 ≤ N.U
  B : 1 ≤ N.B ∧ N.B ≤ 32
  L : N.B ≤ N.L ∧ N.L ≤ 255
  w : N.W ≤ N.U * (N.L + 1 - N.B)
  sp : span = (N.R.s : Int) * ((N.R.n : Int) - 1) - (if N.R.sm then (N.R.s : Int) else 0)
  le : span ≤ N.W
  k : 1 ≤ N.R.k
/-- a limiter, what its ring was told (P), and what each key was let through ahead of its cell (O) and by it (T). -/
structure LmL (N : LmN) (s : LmS) (t span : Int) (P : List (Int × Int × ByteArray)) (O T : ByteArray → List (Int × Int)) : Prop where
  ov : OvR N.R s.r P
  ot : ∀ k, small (O k) ∧ ∀ x ∈ O k, x.1 ≤ t
  rg : ∀ k x, t - N.W ≤ x → sumGt x (O k) ≤ wsum k x P
  cl : ∀ k i, posN N.Q.N.n s.σ.K k = some i → CelL (s.C.getD i (0, 0, 0, 0)).1 (s.C.getD i (0, 0, 0, 0)).2.1 (s.C.getD i (0, 0, 0, 0)).2.2.1 (s.C.getD i (0, 0, 0, 0)).2.2.2 N.U N.W N.B N.L span t (O k) (T k)
  no : ∀ k, posN N.Q.N.n s.σ.K k = none → T k = []
def updK (f : ByteArray → List (Int × Int)) (k : ByteArray) (v : List (Int × Int)) : ByteArray → List (Int × Int) := fun j => if j = k then v else f j
theorem updK_self (f : ByteArray → List (Int × Int)) (k : ByteArray) (v : List (Int × Int)) : updK f k v k = v := if_pos rfl
theorem updK_ne (f : ByteArray → List (Int × Int)) {k j : ByteArray} (v : List (Int × Int)) (h : j ≠ k) : updK f k v j = f j := if_neg h
section
variable {N : LmN} {s : LmS} {t span now m cost : Int} {P : List (Int × Int × ByteArray)} {O T : ByteArray → List (Int × Int)}
/-- a time has come, and a key was offered a cost. -/
theorem LmL.seen (h : LmL N s t span P O T) (I : LmI N s now m) (ht : t ≤ now) (key : ByteArray) : LmL N (s.seen N now key cost) now span P O T := by
  have hs : 1 ≤ N.R.s := by obtain ⟨w, hw⟩ := I.rg; exact hw.bd.2.1.1
  refine ⟨h.ov.to I.few hs (by show s.r.t ≤ max s.r.t now; omega), fun k => ⟨(h.ot k).1, fun x hx => Int.le_trans ((h.ot k).2 x hx) ht⟩, fun k x hx => h.rg k x (by omega), fun k i hi => (h.cl k i hi).later ht, h.no⟩
/-- the ring tells a key no less than it was let through in the window. -/
theorem LmL.est (h : LmL N s now span P O T) (Q : LimN N span) (I : LmI N s now m) (ht : s.r.t = now) (key : ByteArray) : sumGt (now - span) (O key) ≤ estZ N.R s.r key := by
  have hm := I.m
  obtain ⟨w, hw⟩ := I.rg
  have h1 := est_over h.ov I.few hw (by omega) key (z := now - span) (by rw [ht, Q.sp])
  have h2 := h.rg key (now - span) (by have := Q.le; omega)
  omega
/-- a cell is gone: the ring is told what it owes. -/
theorem LmL.evict (h : LmL N s now span P O T) (Q : LimN N span) (I : LmI N s now m) (ht : s.r.t = now) (ks : KsOk N.Q.N.n s.σ) {o : ByteArray} {i : Nat} (hp : posN N.Q.N.n s.σ.K o = some i) :
    ∃ P', LmL N (s.evict N now o) now span P' (updK O o (O o ++ T o)) (updK T o []) := by
  obtain ⟨hin, hK⟩ := posN_some hp
  have hc := h.cl o i hp
  have hb0 := bound_in (I.g.rem (some i))
  have hdel : s.σ.del N.Q.N.n o = (⟨s.σ.fl ++ [i], fun j => if j = i then none else s.σ.K j⟩, some i) := by unfold KSt.del; rw [hp]
  have hev : s.evict N now o = { s with σ := ⟨s.σ.fl ++ [i], fun j => if j = i then none else s.σ.K j⟩, r := s.r.add N.R o (boundP (s.C.getD i (0, 0, 0, 0)).1 (s.C.getD i (0, 0, 0, 0)).2.1 (s.C.getD i (0, 0, 0, 0)).2.2.2 N.U N.W N.L now) } := by
    unfold LmS.evict; rw [hdel]; rfl
  have hbd := fun x (hx : now - N.W ≤ x) => hc.bound Q.U (by have := Q.L; have := Q.B; omega) (by
    have hmem : s.C.getD i (0, 0, 0, 0) ∈ s.C ∨ s.C.getD i (0, 0, 0, 0) = (0, 0, 0, 0) := by
      rw [List.getD_eq_getElem?_getD]
      cases hq : s.C[i]? with
      | none => exact Or.inr rfl
      | some y => exact Or.inl (List.mem_of_getElem? hq)
    rcases hmem with g | g
    · exact (I.c _ g).2.2.1.1
    · rw [g]; exact Int.le_refl _) Q.w hx
  rw [hev]
  have hb0' : 0 ≤ boundP (s.C.getD i (0, 0, 0, 0)).1 (s.C.getD i (0, 0, 0, 0)).2.1 (s.C.getD i (0, 0, 0, 0)).2.2.2 N.U N.W N.L now := hb0.1
  have hbL : boundP (s.C.getD i (0, 0, 0, 0)).1 (s.C.getD i (0, 0, 0, 0)).2.1 (s.C.getD i (0, 0, 0, 0)).2.2.2 N.U N.W N.L now ≤ 255 := by
    have := Q.L
    unfold boundP
    omega
  generalize boundP (s.C.getD i (0, 0, 0, 0)).1 (s.C.getD i (0, 0, 0, 0)).2.1 (s.C.getD i (0, 0, 0, 0)).2.2.2 N.U N.W N.L now = bd at *
  have hm := I.m
  obtain ⟨w, hw⟩ := I.rg
  refine ⟨P ++ [(s.r.t, bd, o)], h.ov.add I.few hw Q.k o ⟨hb0', hbL⟩ (by omega), fun k => ?_, fun k x hx => ?_, fun k j hj => ?_, fun k hk => ?_⟩
  · by_cases e : k = o
    · subst e
      rw [updK_self]
      refine ⟨small_app (h.ot k).1 hc.tk.sm, fun x hx => ?_⟩
      rcases List.mem_append.1 hx with g | g
      · exact (h.ot k).2 x g
      · exact hc.tk.le x g
    · rw [updK_ne _ _ e]; exact h.ot k
  · rw [wsum_app]
    dsimp only
    have h1 := h.rg k x hx
    by_cases e : k = o
    · subst e
      rw [updK_self, sumGt_app, ht]
      by_cases g : x < now
      · rw [if_pos ⟨rfl, g⟩]
        have := hbd x hx
        omega
      · rw [if_neg (fun q => g q.2), sumGt_zero x (T k) (fun y hy => by have := hc.tk.le y hy; omega)]
        omega
    · rw [updK_ne _ _ e, if_neg (fun q => e q.1.symm)]
      omega
  · have hcut := posN_cut (n := N.Q.N.n) (K := s.σ.K) hK ks.inj k
    have hj' : (if k = o then none else posN N.Q.N.n s.σ.K k) = some j := by rw [← hcut]; exact hj
    by_cases e : k = o
    · rw [if_pos e] at hj'; cases hj'
    · rw [if_neg e] at hj'
      rw [updK_ne _ _ e, updK_ne _ _ e]
      exact h.cl k j hj'
  · have hcut := posN_cut (n := N.Q.N.n) (K := s.σ.K) hK ks.inj k
    have hk' : (if k = o then none else posN N.Q.N.n s.σ.K k) = none := by rw [← hcut]; exact hk
    by_cases e : k = o
    · rw [e, updK_self]
    · rw [if_neg e] at hk'
      rw [updK_ne _ _ e]
      exact h.no k hk'
/-- a key gets a cell, at a free place. -/
theorem LmL.put (h : LmL N s now span P O T) (Q : LimN N span) (I : LmI N s now m) (ht : s.r.t = now) (hlen : s.C.length = N.Q.N.n) (hfl : ∀ i ∈ s.σ.fl, i < N.Q.N.n ∧ s.σ.K i = none) (hbd : ∀ i k, s.σ.K i = some k → i < N.Q.N.n) (key : ByteArray) :
    LmL N (s.put N now key) now span P O T := by
  unfold LmS.put
  cases hp : posN N.Q.N.n s.σ.K key with
  | some i =>
    have e : s.σ.put N.Q.N.n key = (s.σ, none) := by unfold KSt.put; rw [hp]
    rw [e]; exact h
  | none =>
    by_cases h64 : 64 < key.size
    · have e : s.σ.put N.Q.N.n key = (s.σ, none) := by unfold KSt.put; rw [hp]; simp only; rw [if_pos h64]
      rw [e]; exact h
    · by_cases hf : s.σ.fl = []
      · have e : s.σ.put N.Q.N.n key = (s.σ, none) := by unfold KSt.put; rw [hp]; simp only; rw [if_neg h64, hf]; rfl
        rw [e]; exact h
      · obtain ⟨j, hj⟩ : ∃ j, j = s.σ.fl.getLast hf := ⟨_, rfl⟩
        have hjm : j ∈ s.σ.fl := by rw [hj]; exact List.getLast_mem hf
        obtain ⟨hjn, hjK⟩ := hfl j hjm
        have e : s.σ.put N.Q.N.n key = (⟨s.σ.fl.dropLast, fun q => if q = j then some key else s.σ.K q⟩, some j) := by
          unfold KSt.put
          rw [hp]
          dsimp only
          rw [if_neg h64, List.getLast?_eq_some_getLast hf, ← hj]
        rw [e]
        have hno : ∀ q, s.σ.K q ≠ some key := fun q hq => posN_none hp q (hbd q key hq) hq
        have hup := fun k => posN_upd (n := N.Q.N.n) (K := s.σ.K) hjn hjK hno k
        have hT : T key = [] := h.no key hp
        refine ⟨h.ov, h.ot, h.rg, fun k i hi => ?_, fun k hk => ?_⟩
        · have hi' : (if k = key then some j else posN N.Q.N.n s.σ.K k) = some i := by rw [← hup k]; exact hi
          show CelL ((s.C.set j (now, now, estZ N.R s.r key, 0)).getD i (0, 0, 0, 0)).1 ((s.C.set j (now, now, estZ N.R s.r key, 0)).getD i (0, 0, 0, 0)).2.1 ((s.C.set j (now, now, estZ N.R s.r key, 0)).getD i (0, 0, 0, 0)).2.2.1 ((s.C.set j (now, now, estZ N.R s.r key, 0)).getD i (0, 0, 0, 0)).2.2.2 N.U N.W N.B N.L span now (O k) (T k)
          by_cases ek : k = key
          · rw [if_pos ek] at hi'
            injection hi' with hi'
            subst hi'
            have g : (s.C.set j (now, now, estZ N.R s.r key, 0)).getD j (0, 0, 0, 0) = (now, now, estZ N.R s.r key, 0) := by
              rw [List.getD_eq_getElem?_getD, List.getElem?_set_self (by rw [hlen]; exact hjn)]; rfl
            rw [g, ek, hT]
            exact CelL.new (h.ot key).1 (Int.mul_nonneg (by have := Q.B; omega) (by have := Q.U; omega)) (h.ot key).2 (h.est Q I ht key)
          · rw [if_neg ek] at hi'
            have hij : i ≠ j := fun q => by
              have := (posN_some hi').2
              rw [q, hjK] at this
              cases this
            have g : (s.C.set j (now, now, estZ N.R s.r key, 0)).getD i (0, 0, 0, 0) = s.C.getD i (0, 0, 0, 0) := by
              rw [List.getD_eq_getElem?_getD, List.getElem?_set_ne (Ne.symm hij), ← List.getD_eq_getElem?_getD]
            rw [g]
            exact h.cl k i hi'
        · have hk' : (if k = key then some j else posN N.Q.N.n s.σ.K k) = none := by rw [← hup k]; exact hk
          by_cases ek : k = key
          · rw [ek]; exact hT
          · rw [if_neg ek] at hk'
            exact h.no k hk'
end
end Go.Proofs.YtbgcpljekcagiaaGreat
/- The law LimiterLimit of layer 12 (limiter): the plain side: no check lets a key through beyond the limit. -/
namespace Go.Proofs.YtbgcpljekcagiaaGreat
set_option linter.unusedSimpArgs false
set_option linter.unusedVariables false
set_option maxRecDepth 100000
open Go.ChangeShapes Go.WideShapes Go.ChangeAt Go.RowKit
open Ar (inR)
section
variable {N : LmN} {s : LmS} {t span now m cost : Int} {P : List (Int × Int × ByteArray)} {O T : ByteArray → List (Int × Int)}
theorem updK_app (k j : ByteArray) : updK O k (O k ++ T k) j ++ updK T k [] j = O j ++ T j := by
  by_cases e : j = k
  · rw [e, updK_self, updK_self, List.append_nil]
  · rw [updK_ne _ _ e, updK_ne _ _ e]
theorem put_len (key : ByteArray) : (s.put N now key).C.length = s.C.length := by
  show (plSet s.C _ (s.σ.put N.Q.N.n key).2).length = _
  cases (s.σ.put N.Q.N.n key).2 with
  | none => rfl
  | some i => exact List.length_set
theorem LmL.adm (h : LmL N s now span P O T) (Q : LimN N span) (I : LmI N s now m) (hm : m + 1048576 ≤ 576460752303423488) (ht : s.r.t = now) (hlen : s.C.length = N.Q.N.n) (ks : KsOk N.Q.N.n s.σ) (key : ByteArray) :
    (s.adm N now key).1.C.length = N.Q.N.n ∧ ∃ P' O' T', LmL N (s.adm N now key).1 now span P' O' T' ∧ ∀ k, O' k ++ T' k = O k ++ T k := by
  unfold LmS.adm
  split
  · exact ⟨hlen, P, O, T, h, fun _ => rfl⟩
  · split
    · split
      · rename_i o ho
        obtain ⟨i0, hi0, hK0⟩ := giver_res ho
        obtain ⟨i, hi⟩ := Option.isSome_iff_exists.1 (posN_iff.2 ⟨i0, hi0, hK0⟩)
        obtain ⟨hin, hK⟩ := posN_some hi
        obtain ⟨P', h'⟩ := h.evict Q I ht ks hi
        have hdel : s.σ.del N.Q.N.n o = (⟨s.σ.fl ++ [i], fun j => if j = i then none else s.σ.K j⟩, some i) := by unfold KSt.del; rw [hi]
        have hev : (s.evict N now o).σ = ⟨s.σ.fl ++ [i], fun j => if j = i then none else s.σ.K j⟩ := by unfold LmS.evict; rw [hdel]
        have hlen' : (s.evict N now o).C.length = N.Q.N.n := hlen
        refine ⟨by rw [put_len]; exact hlen, P', _, _, h'.put Q (I.evict hm o) ht hlen' (fun j hj => ?_) (fun j k hj => ?_) key, updK_app o⟩
        · rw [hev] at hj ⊢
          rcases List.mem_append.1 hj with g | g
          · have hf := ks.pl.free g
            refine ⟨hf.1, ?_⟩
            show (if j = i then none else s.σ.K j) = none
            rw [hf.2]; split <;> rfl
          · rw [List.mem_singleton.1 g]
            exact ⟨hin, if_pos rfl⟩
        · rw [hev] at hj
          have hj' : (if j = i then none else s.σ.K j) = some k := hj
          by_cases e : j = i
          · rw [e]; exact hin
          · rw [if_neg e] at hj'
            exact (ks.bd j k hj').1
      · exact ⟨hlen, P, O, T, h, fun _ => rfl⟩
    · exact ⟨by rw [put_len]; exact hlen, P, O, T, h.put Q I ht hlen (fun j hj => ks.pl.free hj) (fun j k hj => (ks.bd j k hj).1) key, fun _ => rfl⟩
/-- what a cost does to what a key was let through. -/
def LetOK (span now L : Int) (key : ByteArray) (cost v : Int) (H H' : ByteArray → List (Int × Int)) : Prop :=
  (∀ k, k ≠ key → H' k = H k) ∧ (v = 1 → H' key = H key ++ [(now, cost)] ∧ sumGt (now - span) (H' key) ≤ L) ∧ (v ≠ 1 → H' key = H key)
theorem LetOK.no {span now L : Int} {key : ByteArray} {cost v : Int} {H H' : ByteArray → List (Int × Int)} (hv : v ≠ 1) (h : ∀ k, H' k = H k) : LetOK span now L key cost v H H' := ⟨fun k _ => h k, fun g => absurd g hv, fun _ => h key⟩
theorem LmL.judge (h : LmL N s now span P O T) (Q : LimN N span) (I : LmI N s now m) (ht : s.r.t = now) (hlen : s.C.length = N.Q.N.n) (hc : 1 ≤ cost ∧ cost ≤ N.B) (key : ByteArray) :
    ∃ P' O' T', LmL N (s.judge N now key cost).2 now span P' O' T' ∧ LetOK span now N.L key cost (s.judge N now key cost).1.1 (fun k => O k ++ T k) (fun k => O' k ++ T' k) := by
  have hB := Q.B
  have hL := Q.L
  unfold LmS.judge
  cases hp : posN N.Q.N.n s.σ.K key with
  | some i =>
    dsimp only
    obtain ⟨hin, hK⟩ := posN_some hp
    have hcl := h.cl key i hp
    by_cases hle : cost ≤ celR (s.C.getD i (0, 0, 0, 0)) N.U N.W N.B N.L now
    · rw [if_pos hle]
      obtain ⟨c1, c2⟩ := hcl.take Q.U Q.B.2 (by omega) Q.w Q.le hc.1 hle
      refine ⟨P, O, updK T key (T key ++ [(now, cost)]), ⟨h.ov, h.ot, h.rg, fun k j hj => ?_, fun k hk => ?_⟩, fun k hk => ?_, fun _ => ⟨?_, ?_⟩, fun g => absurd rfl g⟩
      · have hj : posN N.Q.N.n s.σ.K k = some j := hj
        show CelL ((s.C.set i (celT (s.C.getD i (0, 0, 0, 0)) N.U now cost)).getD j (0, 0, 0, 0)).1 ((s.C.set i (celT (s.C.getD i (0, 0, 0, 0)) N.U now cost)).getD j (0, 0, 0, 0)).2.1 ((s.C.set i (celT (s.C.getD i (0, 0, 0, 0)) N.U now cost)).getD j (0, 0, 0, 0)).2.2.1 ((s.C.set i (celT (s.C.getD i (0, 0, 0, 0)) N.U now cost)).getD j (0, 0, 0, 0)).2.2.2 N.U N.W N.B N.L span now (O k) _
        by_cases e : k = key
        · rw [e, hp] at hj
          injection hj with hj
          subst hj
          have g : (s.C.set i (celT (s.C.getD i (0, 0, 0, 0)) N.U now cost)).getD i (0, 0, 0, 0) = celT (s.C.getD i (0, 0, 0, 0)) N.U now cost := by
            rw [List.getD_eq_getElem?_getD, List.getElem?_set_self (by rw [hlen]; exact hin)]; rfl
          rw [g, e, updK_self]
          exact c1
        · have hij : j ≠ i := fun q => by
            have h2 := (posN_some hj).2
            rw [q, hK] at h2
            injection h2 with h2
            exact e h2.symm
          have g : (s.C.set i (celT (s.C.getD i (0, 0, 0, 0)) N.U now cost)).getD j (0, 0, 0, 0) = s.C.getD j (0, 0, 0, 0) := by
            rw [List.getD_eq_getElem?_getD, List.getElem?_set_ne (Ne.symm hij), ← List.getD_eq_getElem?_getD]
          rw [g, updK_ne _ _ e]
          exact h.cl k j hj
      · have hk : posN N.Q.N.n s.σ.K k = none := hk
        by_cases e : k = key
        · rw [e, hp] at hk; cases hk
        · rw [updK_ne _ _ e]; exact h.no k hk
      · dsimp only
        rw [updK_ne _ _ hk]
      · dsimp only
        rw [updK_self, List.append_assoc]
      · dsimp only
        rw [updK_self]
        exact c2
    · rw [if_neg hle]
      exact ⟨P, O, T, h, LetOK.no (show (2 : Int) ≠ 1 by decide) (fun _ => rfl)⟩
  | none =>
    dsimp only
    by_cases hle : clamp (estZ N.R s.r key + cost) ≤ N.L
    · rw [if_pos hle]
      have he := I.est key
      have hm := I.m
      have hle2 : estZ N.R s.r key + cost ≤ N.L := (clamp_le _ (by omega) (by omega)).1 hle
      have hT := h.no key hp
      have hov : OvR N.R (s.r.add N.R key cost) (P ++ [(s.r.t, cost, key)]) := by
        obtain ⟨w, hw⟩ := I.rg
        exact h.ov.add I.few hw Q.k key (by omega) (by omega)
      have hest := h.est Q I ht key
      have hsp : 1 ≤ N.R.s ∧ 2 ≤ N.R.n := by obtain ⟨w, hw⟩ := I.rg; exact ⟨hw.bd.2.1.1, hw.bd.1.1⟩
      refine ⟨P ++ [(s.r.t, cost, key)], updK O key (O key ++ [(now, cost)]), T, ⟨hov, fun k => ?_, fun k x hx => ?_, fun k j hj => ?_, h.no⟩, fun k hk => ?_, fun _ => ⟨?_, ?_⟩, fun g => absurd rfl g⟩
      · by_cases e : k = key
        · subst e
          rw [updK_self]
          refine ⟨small_app (h.ot k).1 (fun x hx => ?_), fun x hx => ?_⟩
          · rw [List.mem_singleton.1 hx]
            show 1 ≤ cost ∧ cost ≤ 32
            omega
          · rcases List.mem_append.1 hx with g | g
            · exact (h.ot k).2 x g
            · rw [List.mem_singleton.1 g]; exact Int.le_refl _
        · rw [updK_ne _ _ e]; exact h.ot k
      · rw [wsum_app]
        dsimp only
        have h1 := h.rg k x hx
        by_cases e : k = key
        · subst e
          rw [updK_self, sumGt_snoc, ht]
          dsimp only
          by_cases g : x < now
          · rw [if_pos g, if_pos ⟨rfl, g⟩]; omega
          · rw [if_neg g, if_neg (fun q => g q.2)]; omega
        · rw [updK_ne _ _ e, if_neg (fun q => e q.1.symm)]
          omega
      · have hj : posN N.Q.N.n s.σ.K k = some j := hj
        have e : k ≠ key := fun q => by rw [q, hp] at hj; cases hj
        rw [updK_ne _ _ e]
        exact h.cl k j hj
      · dsimp only
        rw [updK_ne _ _ hk]
      · dsimp only
        rw [updK_self, hT, List.append_nil, List.append_nil]
      · dsimp only
        rw [updK_self, hT, List.append_nil, sumGt_snoc]
        dsimp only
        split <;> omega
    · rw [if_neg hle]
      exact ⟨P, O, T, h, LetOK.no (show (2 : Int) ≠ 1 by decide) (fun _ => rfl)⟩
theorem count_eq (v : Int) : ∃ a d b, s.count v = { s with al := a, de := d, ba := b } := by
  unfold LmS.count
  split
  · exact ⟨_, _, _, rfl⟩
  · split
    · exact ⟨_, _, _, rfl⟩
    · split
      · exact ⟨_, _, _, rfl⟩
      · exact ⟨s.al, s.de, s.ba, rfl⟩
theorem LmL.count (h : LmL N s t span P O T) (v : Int) : LmL N (s.count v) t span P O T := by
  obtain ⟨a, d, b, e⟩ := count_eq (s := s) v
  rw [e]
  exact ⟨h.ov, h.ot, h.rg, h.cl, h.no⟩
theorem refZ_ne (held : Int) (h : (refZ N now held cost).2 = true) : (refZ N now held cost).1.1 ≠ 1 := by
  unfold refZ at h ⊢
  by_cases h1 : cost < 1 ∨ N.B < cost
  · rw [if_pos h1]; decide
  · rw [if_neg h1] at h ⊢
    by_cases h2 : 4611686018427387904 ≤ now
    · rw [if_pos h2]; decide
    · rw [if_neg h2] at h ⊢
      by_cases h3 : 0 < held
      · rw [if_pos h3]
        show (2 : Int) ≠ 1
        decide
      · rw [if_neg h3] at h; cases h
theorem LmL.later (h : LmL N s t span P O T) (ht : t ≤ now) : LmL N s now span P O T :=
  ⟨h.ov, fun k => ⟨(h.ot k).1, fun x hx => Int.le_trans ((h.ot k).2 x hx) ht⟩, fun k x hx => h.rg k x (by omega), fun k i hi => (h.cl k i hi).later ht, h.no⟩
/-- a check: what it lets through stays within the limit. -/
theorem LmL.check (h : LmL N s t span P O T) (Q : LimN N span) (I : LmI N s now m) (hm : m + 2097153 ≤ 576460752303423488) (htn : t ≤ now) (hlen : s.C.length = N.Q.N.n) (ks : KsOk N.Q.N.n s.σ) (key : ByteArray) :
    ∃ P' O' T', LmL N (s.check N now 0 key cost).1 now span P' O' T' ∧ LetOK span now N.L key cost (s.check N now 0 key cost).2.1.1 (fun k => O k ++ T k) (fun k => O' k ++ T' k) := by
  unfold LmS.check
  by_cases hr : (refZ N now 0 cost).2 = true
  · rw [if_pos hr]
    exact ⟨P, O, T, (h.later htn).count _, LetOK.no (refZ_ne 0 hr) (fun _ => rfl)⟩
  · rw [if_neg hr]
    have hc := (refZ_no N now 0 cost (by cases hq : (refZ N now 0 cost).2; rfl; exact absurd hq hr)).1
    have i1 := I.seen key cost
    have h1 := h.seen (cost := cost) I htn key
    have ht1 : (s.seen N now key cost).r.t = now := by
      have := I.t1
      show max s.r.t now = now
      omega
    obtain ⟨hl2, P2, O2, T2, h2, hs2⟩ := h1.adm Q i1 (by omega) ht1 hlen ks key
    have i2 := i1.adm (by omega) key
    obtain ⟨P3, O3, T3, h3, g1, g2, g3⟩ := h2.judge Q i2 (by rw [admit_t]; exact ht1) hl2 hc key
    refine ⟨P3, O3, T3, h3.count _, fun k hk => (g1 k hk).trans (hs2 k), fun g => ?_, fun g => (g3 g).trans (hs2 key)⟩
    obtain ⟨q1, q2⟩ := g2 g
    refine ⟨?_, q2⟩
    dsimp only at q1 ⊢
    rw [q1, hs2 key]
/-- a new limiter. -/
theorem LmL.new (n : Nat) (N : LmN) : LmL N (lmZ n) 0 span [] (fun _ => []) (fun _ => []) := by
  refine ⟨OvR.new N.R, fun k => ⟨(fun x hx => by cases hx), (fun x hx => by cases hx)⟩, fun k x _ => Int.le_refl _, fun k i hi => ?_, fun _ _ => rfl⟩
  have := (posN_some hi).2
  cases this
end
end Go.Proofs.YtbgcpljekcagiaaGreat
/- The law LimiterLimit of layer 12 (limiter): the law's own rule. -/
namespace Go.Proofs.YtbgcpljekcagiaaGreat
set_option linter.unusedSimpArgs false
set_option linter.unusedVariables false
set_option maxRecDepth 100000
open Go.ChangeShapes Go.WideShapes Go.ChangeAt Go.RowKit
open Ar (inR)
/-- the window that the law looks at. -/
def lspan (b d : Int) (sm : Bool) : Int := ((lqS b * lqN d : Nat) : Int) - (if sm then ((lqS b : Nat) : Int) else 0)
theorem lmplan_N {N : LmN} {a b c d e f g h : Int} {sm : Bool} {X A B : Nat → Nat} (hp : LmP N (lqL a) ((lqS b * lqN d : Nat) : Int) (lqB a c) (lqN d) (lqS b) (lqR f) (lqW g) (lqC e) (lqT h) sm X A B) : LimN N (lspan b d sm) := by
  have h1 : 1 ≤ lqN d ∧ lqN d ≤ 8 := by unfold lqN; omega
  have h2 : 1 ≤ lqS b ∧ lqS b ≤ 32 := by unfold lqS; omega
  have h7 : 1 ≤ lqL a ∧ lqL a ≤ 32 := by unfold lqL; omega
  have h8 := lqB_bd a c
  have h9 : 1 ≤ lqR f := by unfold lqR; omega
  have hm : 1 * 1 ≤ lqS b * lqN d := Nat.mul_le_mul h2.1 h1.1
  have hu := cunit_facts (W := ((lqS b * lqN d : Nat) : Int)) (n := lqL a + 1 - lqB a c) (by omega) (by omega)
  refine ⟨by rw [hp.pU]; exact hu.1, by rw [hp.pB]; omega, by rw [hp.pB, hp.pL]; omega, by rw [hp.pU, hp.pW, hp.pL, hp.pB]; exact hu.2.2.1, ?_, ?_, by rw [hp.pk]; exact h9⟩
  · rw [hp.ps, hp.pn, hp.psm]
    unfold lspan
    rw [Int.natCast_mul, show ((lqN d + 1 : Nat) : Int) - 1 = (lqN d : Int) by omega]
  · rw [hp.pW]
    unfold lspan
    have h3 : ((lqS b : Nat) : Int) ≤ ((lqS b * lqN d : Nat) : Int) := by
      have := Nat.mul_le_mul (Nat.le_refl (lqS b)) h1.1
      omega
    split <;> omega
end Go.Proofs.YtbgcpljekcagiaaGreat
/- The law LimiterExact of layer 12 (limiter): the plain side: while there are cells for all keys, each is judged by its cell alone. -/
namespace Go.Proofs.YtbgcpljekcagiaaGreat
set_option linter.unusedSimpArgs false
set_option linter.unusedVariables false
set_option maxRecDepth 100000
open Go.ChangeShapes Go.WideShapes Go.ChangeAt Go.RowKit
open Ar (inR)
/-- a limiter whose ring was told nothing: each key's cell owes nothing, and is full as it was told (G). -/
structure LmX (N : LmN) (s : LmS) (c : Nat) (G : ByteArray → Option Int) : Prop where
  few : FewR N.R s.r 0
  no : ∀ k, posN N.Q.N.n s.σ.K k = none → G k = none
  cl : ∀ k i, posN N.Q.N.n s.σ.K k = some i → ∃ F S D, G k = some F ∧ s.C.getD i (0, 0, 0, 0) = (F, S, 0, D) ∧ CelE F S D N.U
  ct : c + s.σ.fl.length = N.Q.N.n
def updG (f : ByteArray → Option Int) (k : ByteArray) (v : Int) : ByteArray → Option Int := fun j => if j = k then some v else f j
theorem updG_self (f : ByteArray → Option Int) (k : ByteArray) (v : Int) : updG f k v k = some v := if_pos rfl
theorem updG_ne (f : ByteArray → Option Int) {k j : ByteArray} (v : Int) (h : j ≠ k) : updG f k v j = f j := if_neg h
/-- how long it is to a cost; a cell behind it. -/
def exW (F U B t cost : Int) : Int := max t (F - (B - cost) * U) - t
def exF (F U B t cost : Int) : Int := if cost ≤ baseP F U B t then max F t + cost * U else F
theorem exW_lo (F U B t cost : Int) : 0 ≤ exW F U B t cost := by unfold exW; omega
theorem exW_zero {F U B t cost : Int} (hU : 1 ≤ U) (hc : 1 ≤ cost ∧ cost ≤ B) : cost ≤ baseP F U B t ↔ exW F U B t cost = 0 := by
  have h := base_iff (F := F) (U := U) (B := B) (t := t) hU hc.1
  have e1 : (B - cost) * U = B * U - cost * U := Int.sub_mul _ _ _
  have e2 : 0 ≤ (B - cost) * U := Int.mul_nonneg (by omega) (by omega)
  unfold exW
  rw [h]
  omega
theorem base_new {U B t : Int} (hU : 1 ≤ U) (hB : 1 ≤ B) : baseP t U B t = B := by
  have h := base_iff (F := t) (U := U) (B := B) (t := t) hU hB
  have h1 := h.2 ⟨Int.le_refl _, by omega⟩
  have h2 : baseP t U B t ≤ B := by unfold baseP; omega
  omega
/-- what is told of a cell. -/
def exA (F U B t cost : Int) : Int × Int × Int := (if cost ≤ baseP F U B t then 1 else 2, baseP F U B t, exW F U B t cost)
def exC (F U B t cost : Int) : Int × Int × Int := (if cost ≤ baseP F U B t then 1 else 2, baseP (exF F U B t cost) U B t, exW F U B t cost)
section
variable {N : LmN} {s : LmS} {t span now m cost : Int} {c : Nat} {G : ByteArray → Option Int}
theorem LmX.est (h : LmX N s c G) (I : LmI N s now m) (key : ByteArray) : estZ N.R s.r key = 0 := by
  have := I.rg.est h.few (by omega) key
  omega
theorem LmX.to (h : LmX N s c G) (I : LmI N s now m) : LmX N { s with r := ⟨max s.r.t now, s.r.num, s.r.F⟩ } c G := by
  have hs : 1 ≤ N.R.s := by obtain ⟨w, hw⟩ := I.rg; exact hw.bd.2.1.1
  exact ⟨h.few.to hs (by omega), h.no, h.cl, h.ct⟩
theorem LmX.seen (h : LmX N s c G) (I : LmI N s now m) (key : ByteArray) : LmX N (s.seen N now key cost) c G := by
  have h1 := h.to I
  exact ⟨h1.few, h1.no, h1.cl, h1.ct⟩
/-- what a peek is told. -/
theorem LmX.peek (h : LmX N s c G) (Q : LimN N span) (I : LmI N s now m) (hb : N.R.L = N.L) (hn : now < 4611686018427387904) (key : ByteArray) (hc : 1 ≤ cost ∧ cost ≤ N.B) :
    s.peek N now 0 key cost = exA ((G key).getD now) N.U N.B now cost := by
  have hr : (refZ N now 0 cost).2 = false := by
    unfold refZ
    rw [if_neg (by omega), if_neg (by omega), if_neg (by omega)]
  have hB := Q.B
  have hL := Q.L
  have hU := Q.U
  have h1 := h.to I
  have e1 : ({ s with r := ⟨max s.r.t now, s.r.num, s.r.F⟩ } : LmS).left N key = N.B := by
    unfold LmS.left
    rw [h1.est I.to]
    omega
  have e0 := h1.est I.to key
  have hnew : exA now N.U N.B now cost = (1, N.B, 0) := by
    unfold exA
    rw [base_new hU hB.1, if_pos hc.2, (exW_zero hU hc).1 (by rw [base_new hU hB.1]; exact hc.2)]
  unfold LmS.peek
  rw [if_neg (by rw [hr]; decide)]
  unfold LmS.resi
  dsimp only
  cases hp : posN N.Q.N.n s.σ.K key with
  | some i =>
    obtain ⟨F, S, D, g1, g2, g3⟩ := h.cl key i hp
    dsimp only
    rw [g1, g2]
    show (if waitP F S 0 D N.U N.W N.B N.L now cost = 0 then 1 else 2, roomP F S 0 D N.U N.W N.B N.L now, waitP F S 0 D N.U N.W N.B N.L now cost) = _
    rw [g3.room hU Q.w, g3.wait hU Q.w]
    unfold exA
    have hz := exW_zero (F := F) (t := now) hU hc
    show (if exW F N.U N.B now cost = 0 then (1 : Int) else 2, baseP F N.U N.B now, exW F N.U N.B now cost) = _
    simp only [Option.getD_some, hz]
  | none =>
    rw [h.no key hp]
    dsimp only
    show _ = exA now N.U N.B now cost
    rw [hnew]
    split
    · rename_i cc hcc
      split at hcc
      · cases hcc
      · injection hcc with hcc
        subst hcc
        have hce : CelE now now 0 N.U := CelE.new now N.U
        show (if waitP now now (estZ N.R _ key) 0 N.U N.W N.B N.L now cost = 0 then 1 else 2, roomP now now (estZ N.R _ key) 0 N.U N.W N.B N.L now, waitP now now (estZ N.R _ key) 0 N.U N.W N.B N.L now cost) = _
        rw [e0, hce.room hU Q.w, hce.wait hU Q.w, base_new hU hB.1]
        have hz := (exW_zero (F := now) (t := now) hU hc).1 (by rw [base_new hU hB.1]; exact hc.2)
        unfold exW at hz
        rw [hz, if_pos rfl]
    · have hw : waitR N.R ⟨max s.r.t now, s.r.num, s.r.F⟩ key cost = 0 := by
        unfold waitR
        have e2 : clamp (estZ N.R ⟨max s.r.t now, s.r.num, s.r.F⟩ key + cost) = cost := by
          have e0' : estZ N.R ⟨max s.r.t now, s.r.num, s.r.F⟩ key = 0 := e0
          rw [e0']
          unfold clamp
          rw [if_neg (by omega), if_neg (by omega)]
          omega
        rw [e2, if_pos (by rw [hb]; omega)]
      rw [hw, if_pos rfl, e1]
theorem LmX.count (h : LmX N s c G) (v : Int) : LmX N (s.count v) c G := by
  obtain ⟨a, d, b, e⟩ := count_eq (s := s) v
  rw [e]
  exact ⟨h.few, h.no, h.cl, h.ct⟩
/-- a key that has none gets a cell. -/
theorem LmX.adm (h : LmX N s c G) (I : LmI N s now m) (hlen : s.C.length = N.Q.N.n) (ks : KsOk N.Q.N.n s.σ) (key : ByteArray) (h64 : key.size ≤ 64) (hroom : G key ≠ none ∨ c < N.Q.N.n) :
    (s.adm N now key).1.C.length = N.Q.N.n ∧ (∃ i, posN N.Q.N.n (s.adm N now key).1.σ.K key = some i) ∧ LmX N (s.adm N now key).1 (if (G key).isSome then c else c + 1) (updG G key ((G key).getD now)) := by
  unfold LmS.adm
  cases hp : posN N.Q.N.n s.σ.K key with
  | some i =>
    obtain ⟨F, S, D, g1, g2, g3⟩ := h.cl key i hp
    have eG : updG G key ((G key).getD now) = G := by
      funext k
      by_cases e : k = key
      · rw [e, updG_self, g1]; rfl
      · rw [updG_ne _ _ e]
    rw [if_pos (show (some i).isSome = true ∨ 64 < key.size from Or.inl rfl), eG, g1]
    exact ⟨hlen, ⟨i, hp⟩, h⟩
  | none =>
    have hG := h.no key hp
    have hct := h.ct
    have hcn : c < N.Q.N.n := by
      rcases hroom with g | g
      · exact absurd hG g
      · exact g
    have hfull : s.full N = false := by
      unfold LmS.full
      rw [decide_eq_false_iff_not]
      omega
    rw [if_neg (show ¬ ((none : Option Nat).isSome = true ∨ 64 < key.size) from by intro g; rcases g with g | g; cases g; omega), hfull, if_neg (by decide), hG]
    show (s.put N now key).C.length = _ ∧ _
    have hf : s.σ.fl ≠ [] := fun e => by rw [e] at hct; simp at hct; omega
    obtain ⟨j, hj⟩ : ∃ j, j = s.σ.fl.getLast hf := ⟨_, rfl⟩
    have hjm : j ∈ s.σ.fl := by rw [hj]; exact List.getLast_mem hf
    obtain ⟨hjn, hjK⟩ := ks.pl.free hjm
    have e : s.σ.put N.Q.N.n key = (⟨s.σ.fl.dropLast, fun q => if q = j then some key else s.σ.K q⟩, some j) := by
      unfold KSt.put
      rw [hp]
      dsimp only
      rw [if_neg (by omega), List.getLast?_eq_some_getLast hf, ← hj]
    have hno : ∀ q, s.σ.K q ≠ some key := fun q hq => posN_none hp q (ks.bd q key hq).1 hq
    have hup := fun k => posN_upd (n := N.Q.N.n) (K := s.σ.K) hjn hjK hno k
    have eput : s.put N now key = { s with σ := ⟨s.σ.fl.dropLast, fun q => if q = j then some key else s.σ.K q⟩, C := s.C.set j (now, now, 0, 0) } := by
      unfold LmS.put
      rw [e, h.est I key]
      rfl
    show (s.put N now key).C.length = _ ∧ (∃ i, posN N.Q.N.n (s.put N now key).σ.K key = some i) ∧ LmX N (s.put N now key) (c + 1) (updG G key now)
    rw [eput]
    refine ⟨by rw [List.length_set]; exact hlen, ⟨j, ?_⟩, ⟨h.few, fun k hk => ?_, fun k i hi => ?_, ?_⟩⟩
    · have := hup key
      rw [if_pos rfl] at this
      exact this
    · have hk' : (if k = key then some j else posN N.Q.N.n s.σ.K k) = none := by rw [← hup k]; exact hk
      by_cases ek : k = key
      · rw [if_pos ek] at hk'; cases hk'
      · rw [if_neg ek] at hk'
        rw [updG_ne _ _ ek]
        exact h.no k hk'
    · have hi' : (if k = key then some j else posN N.Q.N.n s.σ.K k) = some i := by rw [← hup k]; exact hi
      show ∃ F S D, updG G key now k = some F ∧ (s.C.set j (now, now, 0, 0)).getD i (0, 0, 0, 0) = (F, S, 0, D) ∧ CelE F S D N.U
      by_cases ek : k = key
      · rw [if_pos ek] at hi'
        injection hi' with hi'
        subst hi'
        refine ⟨now, now, 0, by rw [ek, updG_self], ?_, CelE.new now N.U⟩
        rw [List.getD_eq_getElem?_getD, List.getElem?_set_self (by rw [hlen]; exact hjn)]; rfl
      · rw [if_neg ek] at hi'
        have hij : i ≠ j := fun q => by
          have := (posN_some hi').2
          rw [q, hjK] at this
          cases this
        rw [updG_ne _ _ ek, List.getD_eq_getElem?_getD, List.getElem?_set_ne (Ne.symm hij), ← List.getD_eq_getElem?_getD]
        exact h.cl k i hi'
    · show c + 1 + s.σ.fl.dropLast.length = _
      rw [List.length_dropLast]
      have : s.σ.fl.length ≠ 0 := fun q => hf (List.eq_nil_of_length_eq_zero q)
      omega
/-- a key with a cell is judged by it. -/
theorem LmX.judge (h : LmX N s c G) (Q : LimN N span) (hlen : s.C.length = N.Q.N.n) (key : ByteArray) (hc : 1 ≤ cost ∧ cost ≤ N.B) {i : Nat} (hp : posN N.Q.N.n s.σ.K key = some i) {F0 : Int} (hF : G key = some F0) :
    (s.judge N now key cost).1 = exC F0 N.U N.B now cost ∧ LmX N (s.judge N now key cost).2 c (updG G key (exF F0 N.U N.B now cost)) := by
  have hU := Q.U
  obtain ⟨F, S, D, g1, g2, g3⟩ := h.cl key i hp
  rw [hF] at g1
  injection g1 with g1
  subst g1
  obtain ⟨hin, hK⟩ := posN_some hp
  unfold LmS.judge
  rw [hp]
  dsimp only
  rw [g2]
  have er : celR (F0, S, 0, D) N.U N.W N.B N.L now = baseP F0 N.U N.B now := g3.room hU Q.w
  have ew : celW (F0, S, 0, D) N.U N.W N.B N.L now cost = exW F0 N.U N.B now cost := g3.wait hU Q.w
  have hz := exW_zero (F := F0) (t := now) hU hc
  rw [er, ew]
  by_cases hle : cost ≤ baseP F0 N.U N.B now
  · have g4 := g3.take (t := now) (cost := cost) (by omega)
    have er2 : celR (celT (F0, S, 0, D) N.U now cost) N.U N.W N.B N.L now = baseP (max F0 now + cost * N.U) N.U N.B now := g4.room hU Q.w
    have ef : exF F0 N.U N.B now cost = max F0 now + cost * N.U := if_pos hle
    rw [if_pos hle, er2]
    refine ⟨?_, h.few, fun k hk => ?_, fun k j hj => ?_, h.ct⟩
    · unfold exC
      rw [if_pos hle, ef, hz.1 hle]
    · have hk : posN N.Q.N.n s.σ.K k = none := hk
      by_cases e : k = key
      · rw [e, hp] at hk; cases hk
      · rw [updG_ne _ _ e]; exact h.no k hk
    · have hj : posN N.Q.N.n s.σ.K k = some j := hj
      show ∃ F S' D', updG G key (exF F0 N.U N.B now cost) k = some F ∧ (s.C.set i (celT (F0, S, 0, D) N.U now cost)).getD j (0, 0, 0, 0) = (F, S', 0, D') ∧ CelE F S' D' N.U
      by_cases e : k = key
      · rw [e, hp] at hj
        injection hj with hj
        subst hj
        refine ⟨max F0 now + cost * N.U, S, D + cost, by rw [e, updG_self, ef], ?_, g4⟩
        rw [List.getD_eq_getElem?_getD, List.getElem?_set_self (by rw [hlen]; exact hin)]; rfl
      · have hij : j ≠ i := fun q => by
          have h2 := (posN_some hj).2
          rw [q, hK] at h2
          injection h2 with h2
          exact e h2.symm
        rw [updG_ne _ _ e, List.getD_eq_getElem?_getD, List.getElem?_set_ne (Ne.symm hij), ← List.getD_eq_getElem?_getD]
        exact h.cl k j hj
  · have ef : exF F0 N.U N.B now cost = F0 := if_neg hle
    have eG : updG G key F0 = G := by
      funext k
      by_cases e : k = key
      · rw [e, updG_self, hF]
      · rw [updG_ne _ _ e]
    rw [if_neg hle, ef, eG]
    refine ⟨?_, h⟩
    unfold exC
    rw [if_neg hle, ef]
theorem updG_twice (k : ByteArray) (a b : Int) : updG (updG G k a) k b = updG G k b := by
  funext j
  unfold updG
  split <;> rfl
/-- a check. -/
theorem LmX.check (h : LmX N s c G) (Q : LimN N span) (I : LmI N s now m) (hn : now < 4611686018427387904) (hlen : s.C.length = N.Q.N.n) (ks : KsOk N.Q.N.n s.σ) (key : ByteArray) (h64 : key.size ≤ 64) (hc : 1 ≤ cost ∧ cost ≤ N.B) (hroom : G key ≠ none ∨ c < N.Q.N.n) :
    (s.check N now 0 key cost).2.1 = exC ((G key).getD now) N.U N.B now cost ∧ LmX N (s.check N now 0 key cost).1 (if (G key).isSome then c else c + 1) (updG G key (exF ((G key).getD now) N.U N.B now cost)) := by
  have hr : (refZ N now 0 cost).2 = false := by
    unfold refZ
    rw [if_neg (by omega), if_neg (by omega), if_neg (by omega)]
  unfold LmS.check
  rw [if_neg (by rw [hr]; decide)]
  have i1 := I.seen key cost
  obtain ⟨hl2, ⟨i, hi⟩, h2⟩ := (h.seen (cost := cost) I key).adm i1 hlen ks key h64 hroom
  obtain ⟨g1, g2⟩ := h2.judge (now := now) Q hl2 key hc hi (updG_self _ _ _)
  rw [updG_twice] at g2
  exact ⟨g1, g2.count _⟩
/-- a new limiter. -/
theorem LmX.new (n : Nat) {N : LmN} (hn : N.Q.N.n = n) : LmX N (lmZ n) 0 (fun _ => none) := by
  refine ⟨FewR.new N.R, fun _ _ => rfl, fun k i hi => ?_, ?_⟩
  · have := (posN_some hi).2
    cases this
  · show 0 + ((List.range n).reverse).length = _
    rw [List.length_reverse, List.length_range, hn]; omega
end
end Go.Proofs.YtbgcpljekcagiaaGreat
/- The law LimiterExact of layer 12 (limiter): a map of strings to the reference's cells, each in a block of its own. -/
namespace Go.Proofs.YtbgcpljekcagiaaGreat
set_option linter.unusedSimpArgs false
set_option linter.unusedVariables false
set_option maxRecDepth 100000
open Go.ChangeShapes Go.WideShapes Go.ChangeAt Go.RowKit
open Ar (inR)
abbrev pcV (g : Nat) : Value := .pointer (some ⟨g, 0, none⟩)
/-- the map lies in block b (ahead of base); its cells lie behind base. -/
structure GapM (w : World) (b base c : Nat) (V : ByteArray → Option Value) (G : ByteArray → Option Int) : Prop where
  mp : Mp.MapS Tryz.prog 9 w b c V
  lo : b < base ∧ base ≤ w.heap.size
  no : ∀ k, V k = none → G k = none
  row : ∀ k v, V k = some v → ∃ g F S D, v = pcV g ∧ G k = some F ∧ base ≤ g ∧ R9.CAt w g F S 0 D
  ap : ∀ k k' g, k ≠ k' → V k = some (pcV g) → V k' ≠ some (pcV g)
theorem pcV_inj {g g' : Nat} (h : pcV g = pcV g') : g = g' := by
  injection h with h
  injection h with h
  injection h
section
variable {w w' : World} {b base c : Nat} {V : ByteArray → Option Value} {G : ByteArray → Option Int}
/-- another's blocks change. -/
theorem GapM.fr {F : Nat → Prop} (h : GapM w b base c V G) (hf : Fr F w w') (hF : ∀ k, F k → k ≠ b ∧ (k < base ∨ w.heap.size ≤ k)) : GapM w' b base c V G := by
  refine ⟨h.mp.fr hf (fun g => (hF b g).1 rfl), ⟨h.lo.1, Nat.le_trans h.lo.2 hf.size⟩, h.no, fun k v hv => ?_, h.ap⟩
  obtain ⟨g, F, S, D, h1, h2, h3, h4⟩ := h.row k v hv
  refine ⟨g, F, S, D, h1, h2, h3, Blk.fr h4 hf (fun e => ?_)⟩
  have h5 := lt_of_block h4
  have h6 := (hF g e).2
  omega
theorem GapM.keep (h : GapM w b base c V G) (hb : Below w.heap.size w w') : GapM w' b base c V G := h.fr (F := fun _ => False) (Fr.of_below hb) (fun _ e => e.elim)
/-- a key's cell, and its block. -/
theorem GapM.get (h : GapM w b base c V G) {k : ByteArray} {v : Value} (hv : V k = some v) : ∃ g F S D, v = pcV g ∧ G k = some F ∧ base ≤ g ∧ R9.CAt w g F S 0 D := h.row k v hv
/-- a key's cell has changed, but for where it is full. -/
theorem GapM.poke (h : GapM w b base c V G) {k : ByteArray} {g : Nat} {F S D : Int} (hv : V k = some (pcV g)) (hG : G k = some F) (hf : Fr (fun j => j = g) w w') (hc : R9.CAt w' g F S 0 D) : GapM w' b base c V G := by
  obtain ⟨g0, F0, S0, D0, e1, e2, e3, e4⟩ := h.row k _ hv
  have := pcV_inj e1
  subst this
  refine ⟨h.mp.fr hf (fun e => by have := h.lo.1; omega), ⟨h.lo.1, Nat.le_trans h.lo.2 hf.size⟩, h.no, fun x v hx => ?_, h.ap⟩
  by_cases ex : x = k
  · subst ex
    rw [hv] at hx
    injection hx with hx
    exact ⟨g, F, S, D, hx.symm, hG, e3, hc⟩
  · obtain ⟨g1, F1, S1, D1, h1, h2, h3, h4⟩ := h.row x v hx
    exact ⟨g1, F1, S1, D1, h1, h2, h3, Blk.fr h4 hf (fun e => h.ap k x g (Ne.symm ex) hv (by rw [hx, h1, e]))⟩
/-- a key's cell (or a fresh one) has changed, but for where it is full. -/
theorem GapM.touch (h : GapM w b base c V G) {k : ByteArray} {g : Nat} {F S D z : Int} (hv : V k = some (pcV g) ∨ (V k = none ∧ w.heap.size ≤ g)) (hF : F = (G k).getD z) (hf : Fr (fun j => j = g) w w') (hc : R9.CAt w' g F S 0 D) : GapM w' b base c V G := by
  rcases hv with q | ⟨q, q2⟩
  · obtain ⟨g0, F0, S0, D0, e1, e2, e3, e4⟩ := h.row k _ q
    exact h.poke q (by rw [hF, e2]; rfl) hf hc
  · exact h.fr hf (fun j hj => ⟨by have := h.lo; omega, Or.inr (by omega)⟩)
/-- a key's cell is laid into the map, or anew. -/
theorem GapM.put (h : GapM w b base c V G) {k : ByteArray} {g : Nat} (hv : V k = some (pcV g) ∨ (V k = none ∧ w.heap.size ≤ g)) {F S D : Int} {c' : Nat}
    (hm : Mp.MapS Tryz.prog 9 w' b c' (fun x => if x = k then some (pcV g) else V x)) (hf : Fr (fun j => j = g ∨ j = b) w w') (hc : R9.CAt w' g F S 0 D) : GapM w' b base c' (fun x => if x = k then some (pcV g) else V x) (updG G k F) := by
  have hgb : base ≤ g := by
    rcases hv with q | ⟨_, q⟩
    · obtain ⟨g0, _, _, _, e1, _, e3, _⟩ := h.row k _ q
      rw [pcV_inj e1]; exact e3
    · have := h.lo.2; omega
  have hne : ∀ x v, x ≠ k → V x = some v → v ≠ pcV g := by
    intro x v hx hv' e
    rcases hv with q | ⟨_, q⟩
    · exact h.ap k x g (Ne.symm hx) q (by rw [hv', e])
    · obtain ⟨g0, _, _, _, e1, _, _, e4⟩ := h.row x v hv'
      have h5 := lt_of_block e4
      rw [e] at e1
      have := pcV_inj e1
      omega
  refine ⟨hm, ⟨h.lo.1, Nat.le_trans h.lo.2 hf.size⟩, fun x hx => ?_, fun x v hx => ?_, fun x x' g' hxx hx hx' => ?_⟩
  · by_cases e : x = k
    · rw [if_pos e] at hx; cases hx
    · rw [if_neg e] at hx
      rw [updG_ne _ _ e]; exact h.no x hx
  · by_cases e : x = k
    · rw [if_pos e] at hx
      injection hx with hx
      exact ⟨g, F, S, D, hx.symm, by rw [e, updG_self], hgb, hc⟩
    · rw [if_neg e] at hx
      obtain ⟨g1, F1, S1, D1, h1, h2, h3, h4⟩ := h.row x v hx
      refine ⟨g1, F1, S1, D1, h1, by rw [updG_ne _ _ e]; exact h2, h3, Blk.fr h4 hf (fun q => ?_)⟩
      rcases q with q | q
      · exact hne x v e hx (by rw [h1, q])
      · have := h.lo.1; omega
  · by_cases e1 : x = k
    · rw [if_pos e1] at hx
      injection hx with hx
      have e2 : x' ≠ k := fun q => hxx (by rw [e1, q])
      rw [if_neg e2] at hx'
      exact hne x' _ e2 hx' hx.symm
    · rw [if_neg e1] at hx
      by_cases e2 : x' = k
      · rw [if_pos e2] at hx'
        injection hx' with hx'
        exact hne x _ e1 hx hx'.symm
      · rw [if_neg e2] at hx'
        exact h.ap x x' g' hxx hx hx'
end
theorem unit_eq9 {W n : Int} (hW : 1 ≤ W) (hn : 1 ≤ n) : unitZ W n = R9.unit9 W n := by
  unfold unitZ R9.unit9
  rw [if_neg (by omega), Int.tdiv_eq_ediv_of_nonneg (by omega)]
  have h1 : W / n * n + W % n = W := by rw [Int.mul_comm]; exact Int.mul_ediv_add_emod W n
  have h2 := Int.emod_nonneg W (show n ≠ 0 by omega)
  by_cases q : W % n = 0
  · rw [if_pos q, if_neg (by omega)]
  · rw [if_neg q, if_pos (by omega)]
section
variable {F S D U W B L t cost : Int} {x1 x2 x3 x4 x5 : Int} {sm : Bool}
/-- the reference's cell, with nothing that counts but its units. -/
structure R9o (F D U W B L t : Int) : Prop where
  r : R9.Ru U W B L
  F : 0 ≤ F ∧ F ≤ 6000000000000000000
  D : 0 ≤ D ∧ D ≤ 1048576
  t : 0 ≤ t ∧ t ≤ 4611686018427387904
theorem R9o.ce (h : R9o F D U W B L t) : R9.Ce F (t - W) 0 D t := by
  have h1 := h.F
  have h2 := h.D
  have h3 := h.t
  have h4 := h.r.W
  exact ⟨by omega, by omega, by omega, by omega, by omega⟩
theorem R9o.room (h : R9o F D U W B L t) (w : World) : Calls Tryz.prog 31 #[R9.cvV F (t - W) 0 D, R9.rvV L W B x1 x2 x3 x4 x5 sm, .int .i64 t] w fun e w' => e = .returned (.int .i64 (baseP F U B t)) ∧ Below w.heap.size w w' := by
  have := R9.room_any x1 x2 x3 x4 x5 sm h.r h.ce w
  rw [show R9.room F (t - W) 0 D U W B L t = baseP F U B t from room_old (by omega)] at this
  exact this
theorem R9o.wait (h : R9o F D U W B L t) (hc : 1 ≤ cost ∧ cost ≤ B) (w : World) : Calls Tryz.prog 32 #[R9.cvV F (t - W) 0 D, R9.rvV L W B x1 x2 x3 x4 x5 sm, .int .i64 t, .int .i64 cost] w fun e w' => e = .returned (.int .i64 (exW F U B t cost)) ∧ Below w.heap.size w w' := by
  have := R9.wait_any x1 x2 x3 x4 x5 sm h.r h.ce hc w
  rw [show R9.wait F (t - W) 0 D U W B L t cost = exW F U B t cost from wait_old (by omega)] at this
  exact this
theorem R9o.take (h : R9o F 0 U W B L t) (h0 : F ≤ 5000000000000000000) (hc : 1 ≤ cost ∧ cost ≤ B) (b : Nat) (w : World) (ha : R9.CAt w b F (t - W) 0 0) : Calls Tryz.prog 33 #[.pointer (some ⟨b, 0, none⟩), R9.rvV L W B x1 x2 x3 x4 x5 sm, .int .i64 t, .int .i64 cost] w fun e w' => ∃ (bb : Bool) (D' : Int), e = .returned (.bool bb) ∧ R9.CAt w' b (exF F U B t cost) (t - W) 0 D' ∧ R9o (exF F U B t cost) D' U W B L t ∧ Fr (fun k => k = b) w w' := by
  have er : R9.room F (t - W) 0 0 U W B L t = baseP F U B t := room_old (by omega)
  have hF := h.F
  have ht := h.t
  have hb := h.r.bu (k := cost) (by omega) hc.2
  have hL := h.r.L
  have hBL := h.r.B
  by_cases hle : cost ≤ baseP F U B t
  · refine (R9.take_yes x1 x2 x3 x4 x5 sm h.r h.ce hc.1 (by rw [er]; exact hle) b w ha).mono ?_
    rintro e w' ⟨rfl, h1, h2⟩
    have ef : exF F U B t cost = max F t + cost * U := if_pos hle
    rw [ef]
    exact ⟨true, 0 + cost, rfl, h1, ⟨h.r, by omega, by omega, ht⟩, h2⟩
  · refine (R9.take_no x1 x2 x3 x4 x5 sm h.r h.ce hc.1 (by rw [er]; omega) b w ha).mono ?_
    rintro e w' ⟨rfl, h1⟩
    have ef : exF F U B t cost = F := if_neg hle
    rw [ef]
    exact ⟨false, 0, rfl, Blk.keep ha h1, h, Fr.of_below h1⟩
theorem set13 {w : World} {b : Nat} {t : TypeId} {c0 c1 c2 c3 : Value} (h : Blk w b t #[c0, c1, c2, c3]) (v1 v3 : Value) :
    ∃ w', (w.setCell ⟨b, 1, none⟩ v1).setCell ⟨b, 3, none⟩ v3 = w' ∧ Blk w' b t #[c0, v1, c2, v3] ∧ Fr (fun k => k = b) w w' := by
  have hb := lt_of_block h
  refine ⟨_, rfl, ?_, ?_⟩
  · rw [setCell_obj h, setCell_in hb]
    exact setObj_at hb _
  · rw [setCell_obj h, setCell_in hb]
    exact Fr.setObj (F := fun k => k = b) (Fr.refl _ _) rfl _
end
theorem set1a {w : World} {b : Nat} {t : TypeId} {c0 c1 c2 : Value} (h : Blk w b t #[c0, c1, c2]) (v0 : Value) :
    ∃ w', w.setCell ⟨b, 0, none⟩ v0 = w' ∧ Blk w' b t #[v0, c1, c2] ∧ Fr (fun k => k = b) w w' := by
  have hb := lt_of_block h
  refine ⟨_, rfl, ?_, ?_⟩
  · rw [setCell_obj h]
    exact setObj_at hb _
  · rw [setCell_obj h]
    exact Fr.setObj (F := fun k => k = b) (Fr.refl _ _) rfl _
theorem set1b {w : World} {b : Nat} {t : TypeId} {c0 c1 c2 : Value} (h : Blk w b t #[c0, c1, c2]) (v1 : Value) :
    ∃ w', w.setCell ⟨b, 1, none⟩ v1 = w' ∧ Blk w' b t #[c0, v1, c2] ∧ Fr (fun k => k = b) w w' := by
  have hb := lt_of_block h
  refine ⟨_, rfl, ?_, ?_⟩
  · rw [setCell_obj h]
    exact setObj_at hb _
  · rw [setCell_obj h]
    exact Fr.setObj (F := fun k => k = b) (Fr.refl _ _) rfl _
theorem GapM.ge {w : World} {b base c : Nat} {V : ByteArray → Option Value} {G : ByteArray → Option Int} (h : GapM w b base c V G) {k : ByteArray} {g : Nat} (hv : V k = some (pcV g) ∨ (V k = none ∧ w.heap.size ≤ g)) : base ≤ g := by
  rcases hv with q | ⟨_, q⟩
  · obtain ⟨g0, _, _, _, e1, _, e3, _⟩ := h.row k _ q
    rw [pcV_inj e1]; exact e3
  · have := h.lo.2; omega
theorem LmLaw.frZ {W w w' : World} {N : LmN} {s : LmS} {t m : Int} {F : Nat → Prop} (h : LmLaw W w N s t m) (hf : Fr F w w') (hF : ∀ b, F b → ¬ N.all b ∧ W.heap.size ≤ b) : LmLaw W w' N s t m :=
  ⟨h.at_.fr hf (fun k hk g => (hF k g).1 hk), h.I, h.lo, h.bl.trans (hf.below h.bl.size (fun b hb => (hF b hb).2))⟩
theorem LmX.peeked {N : LmN} {s : LmS} {c : Nat} {now m : Int} {G : ByteArray → Option Int} (h : LmX N s c G) (I : LmI N s now m) (held cost : Int) : LmX N (s.peeked N now held cost) c G := by
  unfold LmS.peeked
  split
  · exact h
  · exact h.to I
/-- where a key's cell is full. -/
theorem LmX.bd {N : LmN} {s : LmS} {c : Nat} {t m : Int} {G : ByteArray → Option Int} (h : LmX N s c G) (I : LmI N s t m) (hlen : s.C.length = N.Q.N.n) {k : ByteArray} {F : Int} (hF : G k = some F) : 0 ≤ F ∧ F ≤ t + 1099511627776 := by
  cases hp : posN N.Q.N.n s.σ.K k with
  | none => rw [h.no k hp] at hF; cases hF
  | some i =>
    obtain ⟨F', S, D, g1, g2, _⟩ := h.cl k i hp
    rw [hF] at g1
    injection g1 with g1
    have hi : i < s.C.length := by rw [hlen]; exact (posN_some hp).1
    have hm : s.C.getD i (0, 0, 0, 0) ∈ s.C := by
      rw [List.getD_eq_getElem?_getD, List.getElem?_eq_getElem hi]
      exact List.getElem_mem hi
    have := (I.c _ hm).1
    rw [g2] at this
    rw [g1]; exact this
end Go.Proofs.YtbgcpljekcagiaaGreat
