import Derived.Test.YtbgcpljekcagiaaGreatZLm
import Derived.Test.YtbgcpljekcagiaaGreatZSlL
import Derived.Test.YtbgcpljekcagiaaGreatZSlN
import Derived.Test.YtbgcpljekcagiaaGreatZLiftS
import Derived.Laws.StructEq
import Derived.WalkKit
import Derived.Test.YtbgcpljekcagiaaGreatZCellB
import Derived.Lib.SmallJoins
/- The contracts of layer 12 (limiter): New. -/
namespace Go.Proofs.YtbgcpljekcagiaaGreat
set_option linter.unusedSimpArgs false
set_option linter.unusedVariables false
set_option maxRecDepth 100000
open Go.ChangeShapes Go.WideShapes Go.ChangeAt Go.RowKit
open Ar (inR)
/-- a limiter as it is made. -/
def lmZ (Ce : Nat) : LmS := ⟨kNew Ce, List.replicate Ce (0, 0, 0, 0), ⟨0, fun _ => 0, fun _ _ _ => 0⟩, [], 0, 0, 0, 0⟩
/-- what a limiter has of its rule. -/
structure LmP (N : LmN) (L Wd Bu : Int) (Sl s k W Ce Tr : Nat) (sm : Bool) (X A B : Nat → Nat) : Prop where
  pU : N.U = unitZ Wd (L + 1 - Bu)
  pW : N.W = Wd
  pB : N.B = Bu
  pL : N.L = L
  pC : N.Q.N.n = Ce
  pT : N.S.N.n = Tr
  pn : N.R.n = Sl + 1
  ps : N.R.s = s
  pRL : N.R.L = L
  psm : N.R.sm = sm
  pk : N.R.k = k
  pRW : N.R.W = W
  pX : N.R.X = X
  pA : N.R.A = A
  pRB : N.R.B = B
set_option maxHeartbeats 4000000 in
theorem lmnew_any (L Wd Bu : Int) (Sl s k W Ce Tr : Nat) (sm : Bool) (hL : 1 ≤ L ∧ L ≤ 9223372036854775000) (hBu : 1 ≤ Bu ∧ Bu ≤ L) (hWd : 0 ≤ Wd ∧ Wd ≤ 9223372036854775807) (hSl : 1 ≤ Sl ∧ Sl ≤ 64) (hs : Wd / (Sl : Int) = (s : Int) ∧ 1 ≤ s) (hk : 1 ≤ k ∧ k ≤ 8) (hW : 1 ≤ W ∧ (Sl + 1) * (8 * (k * W)) ≤ 2147483647)
    (hCe : 1 ≤ Ce ∧ Ce ≤ 1024) (hTr : 1 ≤ Tr ∧ Tr ≤ 64) (A0 : Option Addr) (n0 c0 : Nat) (zs : List Int) (w : World) (hr : RdI w .u64 A0 n0 c0 zs) :
    Calls Tryz.prog 18 #[rlV L Wd Bu Sl Ce k W Tr sm, .slice A0 n0 c0] w fun e w' => ∃ N : LmN, e = .returned (.pointer (some ⟨N.l, 0, none⟩)) ∧ LmAt w' N (lmZ Ce) ∧ LmP N L Wd Bu Sl s k W Ce Tr sm (rX zs) (rA zs) (rB zs) ∧ (∀ b, N.all b → w.heap.size ≤ b) ∧ Below w.heap.size w w' := by
  obtain ⟨w1, hw1, k1, l1, s1⟩ := box_new w (rlC L Wd Bu Sl Ce k W Tr sm) 29
  obtain ⟨rb, hrb⟩ : ∃ rb, rb = w.heap.size := ⟨_, rfl⟩
  rw [← hrb] at k1
  have kr := k1.rd
  have K1 := Lib.hid (And.intro k1 l1)
  have HRB := Lib.hid hrb
  obtain ⟨m, hm⟩ : ∃ m, m = k + 1 := ⟨_, rfl⟩
  have CH := Lib.hid (fun wx (hb : Below w.heap.size w wx) => rows_any wx A0 n0 c0 zs (hr.below hb) m (by omega))
  have CO := Lib.hid (fun wx => of_any L Wd Bu (Sl : Int) (Ce : Int) (k : Int) (W : Int) (Tr : Int) sm (by unfold inR; omega) (by unfold inR; omega) (by unfold inR; omega) wx)
  have e1 : min (k : Int) 8 = (k : Int) := by omega
  have e2 : max 0 (k : Int) = (k : Int) := by omega
  have e3 : IntKind.i64.wrap ((k : Int) + 1) = (m : Int) := by rw [IntKind.wrap_i64]; omega
  have e4 : (k : Int) < (m : Int) := by omega
  have e5 : (k : Int) ≤ (m : Int) := by omega
  have e6 : (0 : Int) ≤ (k : Int) := by omega
  have HM := Lib.hid hm
  obtain ⟨u, hu⟩ : ∃ u, u = unitZ Wd (L + 1 - Bu) := ⟨_, rfl⟩
  rw [← hu] at CO
  have HU := Lib.hid hu
  obtain ⟨Xk, hXk⟩ : ∃ x, x = rX zs k := ⟨_, rfl⟩
  obtain ⟨Ak, hAk⟩ : ∃ x, x = rA zs k := ⟨_, rfl⟩
  obtain ⟨Bk, hBk⟩ : ∃ x, x = rB zs k := ⟨_, rfl⟩
  have hlt := rows_lt zs m
  have hltk := hlt k (by omega)
  rw [← hXk, ← hAk, ← hBk] at hltk
  have HX := Lib.hid (And.intro hXk (And.intro hAk hBk))
  have CP := Lib.hid (fun wx => plnew_any Xk Ak Bk hltk.1 hltk.2.1 hltk.2.2 Ce hCe.1 hCe.2 wx)
  have CS := Lib.hid (fun wx => smnew_any Xk Ak Bk hltk.1 hltk.2.1 hltk.2.2 Tr hTr.1 hTr.2 wx)
  have CR := Lib.hid (fun b0 wx (hx : RowsGe wx b0 k (rX zs) (rA zs) (rB zs)) => show Calls Tryz.prog 39 #[rlV L Wd Bu Sl Ce k W Tr sm, .slice (some ⟨b0, 0, none⟩) k m] wx _ from by rw [hm]; exact rnew_cap L Wd Bu Ce k Tr Sl s k W sm (by unfold inR; omega) hWd hSl hs hk hW b0 (rX zs) (rA zs) (rB zs) wx hx (fun j hj => hlt j (by omega)))
  clear k1 l1 s1 hr hrb hm hu hXk hAk hBk hlt hltk hs hW hL hBu hWd hSl hk hCe hTr
  go_enter Tryz.func18, Tryz.ntmps18
  go_upto_region 1 with (fail)
  rw [← HRB.out]
  clear hw1
  go_upto_region 3 with (go_at_call 36; ((with_reducible refine (CH.out _ K1.out.2).mono ?_); rintro e w2 ⟨rfl, r2, b2⟩; have R2 := Lib.hid r2; have K2 := Lib.hid (K1.out.1.keep b2); have B2 := Lib.hid (below_in K1.out.2 b2); have G2 := Lib.hid (show rb < w1.heap.size from lt_of_block K1.out.1); clear r2 b2))
  clear kr CH
  obtain ⟨rwb, hrw⟩ : ∃ x, x = w1.heap.size := ⟨_, rfl⟩
  rw [← hrw] at R2 G2 ⊢
  have SB := Lib.hid (fun wx (hb : Below w2.heap.size w2 wx) => show (∀ i, wx.cell? ⟨rb, i, none⟩ = (rlC L Wd Bu Sl Ce k W Tr sm)[i]?) ∧ wx.cell? ⟨rwb, k * 3, none⟩ = some (.int .u64 (Xk : Int)) ∧ wx.cell? ⟨rwb, k * 3 + 1, none⟩ = some (.int .u64 (Ak : Int)) ∧ wx.cell? ⟨rwb, k * 3 + 2, none⟩ = some (.int .u64 (Bk : Int)) from by
    obtain ⟨C, hC, _, hj⟩ := (rows_keep R2.out hb).blk
    have h3 := hj k (by have := HM.out; omega)
    rw [Nat.mul_comm 3 k, ← HX.out.1, ← HX.out.2.1, ← HX.out.2.2] at h3
    exact ⟨(K2.out.keep hb).rd, (blk_cell hC).trans h3.1, (blk_cell hC).trans h3.2.1, (blk_cell hC).trans h3.2.2⟩)
  have BN := Lib.hid (show Below w2.heap.size w2 w2.drew from below_draws (Below.refl _ _) 1)
  have st := SB.out _ BN.out
  clear hrw
  refine wp_region_held_drew (S := fun wx => (∀ i, wx.cell? ⟨rb, i, none⟩ = (rlC L Wd Bu Sl Ce k W Tr sm)[i]?) ∧ wx.cell? ⟨rwb, k * 3, none⟩ = some (.int .u64 (Xk : Int)) ∧ wx.cell? ⟨rwb, k * 3 + 1, none⟩ = some (.int .u64 (Ak : Int)) ∧ wx.cell? ⟨rwb, k * 3 + 2, none⟩ = some (.int .u64 (Bk : Int))) (by kernel_rfl) st (fun hHeld => ?_)
  clear st
  refine wpAnyH_take (i := 0) (oi := ?_) (v := ?_) ?_ ?_ ?_ ?_ ?_ ?_ ?_ ?_
  rotate_left 2
  · simp only [List.getElem?_toArray, List.getElem?_cons_succ, List.getElem?_cons_zero]; rfl
  · kernel_rfl
  · kernel_rfl
  · kernel_rfl
  · exact fun _ _ _ h => h
  · refine Or.inl ⟨by rfl, ?_⟩
    intro w' hSw
    (try dsimp only at hSw)
    go_simp
    all_goals (with_reducible rfl)
  · assumption
  try simp only [Act.put, List.setIfInBounds_toArray, List.set_cons_zero, List.set_cons_succ]
  refine wpAnyH_take (i := 2) (oi := ?_) (v := ?_) ?_ ?_ ?_ ?_ ?_ ?_ ?_ ?_
  rotate_left 2
  · simp only [List.getElem?_toArray, List.getElem?_cons_succ, List.getElem?_cons_zero]; rfl
  · kernel_rfl
  · kernel_rfl
  · kernel_rfl
  · exact fun _ _ _ h => h
  · refine Or.inl ⟨by rfl, ?_⟩
    intro w' hSw
    (try dsimp only at hSw)
    go_simp
    all_goals (with_reducible rfl)
  · assumption
  try simp only [Act.put, List.setIfInBounds_toArray, List.set_cons_zero, List.set_cons_succ]
  refine wpAnyH_take (i := 3) (oi := ?_) (v := ?_) ?_ ?_ ?_ ?_ ?_ ?_ ?_ ?_
  rotate_left 2
  · simp only [List.getElem?_toArray, List.getElem?_cons_succ, List.getElem?_cons_zero]; rfl
  · kernel_rfl
  · kernel_rfl
  · kernel_rfl
  · exact fun _ _ _ h => h
  · refine Or.inl ⟨by rfl, ?_⟩
    intro w' hSw
    (try dsimp only at hSw)
    go_simp
    all_goals (with_reducible rfl)
  · assumption
  try simp only [Act.put, List.setIfInBounds_toArray, List.set_cons_zero, List.set_cons_succ]
  refine wpAnyH_take (i := 4) (oi := ?_) (v := ?_) ?_ ?_ ?_ ?_ ?_ ?_ ?_ ?_
  rotate_left 2
  · simp only [List.getElem?_toArray, List.getElem?_cons_succ, List.getElem?_cons_zero]; rfl
  · kernel_rfl
  · kernel_rfl
  · kernel_rfl
  · exact fun _ _ _ h => h
  · refine Or.inl ⟨by rfl, ?_⟩
    intro w' hSw
    (try dsimp only at hSw)
    go_simp
    all_goals (with_reducible rfl)
  · assumption
  try simp only [Act.put, List.setIfInBounds_toArray, List.set_cons_zero, List.set_cons_succ]
  refine wpAnyH_take (i := 5) (oi := ?_) (v := ?_) ?_ ?_ ?_ ?_ ?_ ?_ ?_ ?_
  rotate_left 2
  · simp only [List.getElem?_toArray, List.getElem?_cons_succ, List.getElem?_cons_zero]; rfl
  · kernel_rfl
  · kernel_rfl
  · kernel_rfl
  · exact fun _ _ _ h => h
  · refine Or.inl ⟨by rfl, ?_⟩
    intro w' hSw
    (try dsimp only at hSw)
    go_simp
    all_goals (with_reducible rfl)
  · assumption
  try simp only [Act.put, List.setIfInBounds_toArray, List.set_cons_zero, List.set_cons_succ]
  refine wpAnyH_take (i := 6) (oi := ?_) (v := ?_) ?_ ?_ ?_ ?_ ?_ ?_ ?_ ?_
  rotate_left 2
  · simp only [List.getElem?_toArray, List.getElem?_cons_succ, List.getElem?_cons_zero]; rfl
  · kernel_rfl
  · kernel_rfl
  · kernel_rfl
  · exact fun _ _ _ h => h
  · refine Or.inl ⟨by rfl, ?_⟩
    intro w' hSw
    (try dsimp only at hSw)
    go_simp
    all_goals (with_reducible rfl)
  · assumption
  try simp only [Act.put, List.setIfInBounds_toArray, List.set_cons_zero, List.set_cons_succ]
  refine wpAnyH_take (i := 7) (oi := ?_) (v := ?_) ?_ ?_ ?_ ?_ ?_ ?_ ?_ ?_
  rotate_left 2
  · simp only [List.getElem?_toArray, List.getElem?_cons_succ, List.getElem?_cons_zero]; rfl
  · kernel_rfl
  · kernel_rfl
  · kernel_rfl
  · exact fun _ _ _ h => h
  · refine Or.inl ⟨by rfl, ?_⟩
    intro w' hSw
    (try dsimp only at hSw)
    go_simp
    all_goals (with_reducible rfl)
  · assumption
  try simp only [Act.put, List.setIfInBounds_toArray, List.set_cons_zero, List.set_cons_succ]
  refine wpAnyH_take (i := 8) (oi := ?_) (v := ?_) ?_ ?_ ?_ ?_ ?_ ?_ ?_ ?_
  rotate_left 2
  · simp only [List.getElem?_toArray, List.getElem?_cons_succ, List.getElem?_cons_zero]; rfl
  · kernel_rfl
  · kernel_rfl
  · kernel_rfl
  · exact fun _ _ _ h => h
  · refine Or.inl ⟨by rfl, ?_⟩
    intro w' hSw
    (try dsimp only at hSw)
    go_simp
    all_goals (with_reducible rfl)
  · assumption
  try simp only [Act.put, List.setIfInBounds_toArray, List.set_cons_zero, List.set_cons_succ]
  refine wpAnyH_take (i := 10) (oi := ?_) (v := ?_) ?_ ?_ ?_ ?_ ?_ ?_ ?_ ?_
  rotate_left 2
  · simp only [List.getElem?_toArray, List.getElem?_cons_succ, List.getElem?_cons_zero]; rfl
  · kernel_rfl
  · kernel_rfl
  · kernel_rfl
  · exact fun _ _ _ h => h
  · refine Or.inl ⟨by rfl, ?_⟩
    intro w' hSw
    (try dsimp only at hSw)
    go_simp
    all_goals (with_reducible rfl)
  · assumption
  try simp only [Act.put, List.setIfInBounds_toArray, List.set_cons_zero, List.set_cons_succ]
  refine wpAnyH_take (i := 11) (oi := ?_) (v := ?_) ?_ ?_ ?_ ?_ ?_ ?_ ?_ ?_
  rotate_left 2
  · simp only [List.getElem?_toArray, List.getElem?_cons_succ, List.getElem?_cons_zero]; rfl
  · kernel_rfl
  · kernel_rfl
  · kernel_rfl
  · exact fun _ _ _ h => h
  · refine Or.inl ⟨by rfl, ?_⟩
    intro w' hSw
    (try dsimp only at hSw)
    go_simp
    all_goals (with_reducible rfl)
  · assumption
  try simp only [Act.put, List.setIfInBounds_toArray, List.set_cons_zero, List.set_cons_succ]
  refine wpAnyH_take (i := 12) (oi := ?_) (v := ?_) ?_ ?_ ?_ ?_ ?_ ?_ ?_ ?_
  rotate_left 2
  · simp only [List.getElem?_toArray, List.getElem?_cons_succ, List.getElem?_cons_zero]; rfl
  · kernel_rfl
  · kernel_rfl
  · kernel_rfl
  · exact fun _ _ _ h => h
  · refine Or.inl ⟨by rfl, ?_⟩
    intro w' hSw
    (try dsimp only at hSw)
    go_simp
    all_goals (with_reducible rfl)
  · assumption
  try simp only [Act.put, List.setIfInBounds_toArray, List.set_cons_zero, List.set_cons_succ]
  refine wpAnyH_take (i := 13) (oi := ?_) (v := ?_) ?_ ?_ ?_ ?_ ?_ ?_ ?_ ?_
  rotate_left 2
  · simp only [List.getElem?_toArray, List.getElem?_cons_succ, List.getElem?_cons_zero]; rfl
  · kernel_rfl
  · kernel_rfl
  · kernel_rfl
  · exact fun _ _ _ h => h
  · refine Or.inl ⟨by rfl, ?_⟩
    intro w' hSw
    (try dsimp only at hSw)
    go_simp
    all_goals (with_reducible rfl)
  · assumption
  try simp only [Act.put, List.setIfInBounds_toArray, List.set_cons_zero, List.set_cons_succ]
  refine wpAnyH_take (i := 15) (oi := ?_) (v := ?_) ?_ ?_ ?_ ?_ ?_ ?_ ?_ ?_
  rotate_left 2
  · simp only [List.getElem?_toArray, List.getElem?_cons_succ, List.getElem?_cons_zero]; rfl
  · kernel_rfl
  · kernel_rfl
  · kernel_rfl
  · exact fun _ _ _ h => h
  · refine Or.inl ⟨by rfl, ?_⟩
    intro w' hSw
    (try dsimp only at hSw)
    go_simp
    all_goals (with_reducible rfl)
  · assumption
  try simp only [Act.put, List.setIfInBounds_toArray, List.set_cons_zero, List.set_cons_succ]
  refine wpAnyH_take (i := 16) (oi := ?_) (v := ?_) ?_ ?_ ?_ ?_ ?_ ?_ ?_ ?_
  rotate_left 2
  · simp only [List.getElem?_toArray, List.getElem?_cons_succ, List.getElem?_cons_zero]; rfl
  · kernel_rfl
  · kernel_rfl
  · kernel_rfl
  · exact fun _ _ _ h => h
  · refine Or.inl ⟨by rfl, ?_⟩
    intro w' hSw
    (try dsimp only at hSw)
    go_simp
    all_goals (with_reducible rfl)
  · assumption
  try simp only [Act.put, List.setIfInBounds_toArray, List.set_cons_zero, List.set_cons_succ]
  refine wpAnyH_take (i := 17) (oi := ?_) (v := ?_) ?_ ?_ ?_ ?_ ?_ ?_ ?_ ?_
  rotate_left 2
  · simp only [List.getElem?_toArray, List.getElem?_cons_succ, List.getElem?_cons_zero]; rfl
  · kernel_rfl
  · kernel_rfl
  · kernel_rfl
  · exact fun _ _ _ h => h
  · refine Or.inl ⟨by rfl, ?_⟩
    intro w' hSw
    (try dsimp only at hSw)
    go_simp
    all_goals (with_reducible rfl)
  · assumption
  try simp only [Act.put, List.setIfInBounds_toArray, List.set_cons_zero, List.set_cons_succ]
  refine wpAnyH_take (i := 18) (oi := ?_) (v := ?_) ?_ ?_ ?_ ?_ ?_ ?_ ?_ ?_
  rotate_left 2
  · simp only [List.getElem?_toArray, List.getElem?_cons_succ, List.getElem?_cons_zero]; rfl
  · kernel_rfl
  · kernel_rfl
  · kernel_rfl
  · exact fun _ _ _ h => h
  · refine Or.inl ⟨by rfl, ?_⟩
    intro w' hSw
    (try dsimp only at hSw)
    go_simp
    all_goals (with_reducible rfl)
  · assumption
  try simp only [Act.put, List.setIfInBounds_toArray, List.set_cons_zero, List.set_cons_succ]
  refine wpAnyH_take (i := 19) (oi := ?_) (v := ?_) ?_ ?_ ?_ ?_ ?_ ?_ ?_ ?_
  rotate_left 2
  · simp only [List.getElem?_toArray, List.getElem?_cons_succ, List.getElem?_cons_zero]; rfl
  · kernel_rfl
  · kernel_rfl
  · kernel_rfl
  · exact fun _ _ _ h => h
  · refine Or.inl ⟨by rfl, ?_⟩
    intro w' hSw
    (try dsimp only at hSw)
    go_simp
    all_goals (with_reducible rfl)
  · assumption
  try simp only [Act.put, List.setIfInBounds_toArray, List.set_cons_zero, List.set_cons_succ]
  refine wpAnyH_take (i := 20) (oi := ?_) (v := ?_) ?_ ?_ ?_ ?_ ?_ ?_ ?_ ?_
  rotate_left 2
  · simp only [List.getElem?_toArray, List.getElem?_cons_succ, List.getElem?_cons_zero]; rfl
  · kernel_rfl
  · kernel_rfl
  · kernel_rfl
  · exact fun _ _ _ h => h
  · refine Or.inl ⟨by rfl, ?_⟩
    intro w' hSw
    (try dsimp only at hSw)
    go_simp
    all_goals (with_reducible rfl)
  · assumption
  try simp only [Act.put, List.setIfInBounds_toArray, List.set_cons_zero, List.set_cons_succ]
  refine wpAnyH_ready (rs := [1]) (by kernel_rfl) (by simp) ?_
  refine AllReadyH.cons (o := ?_) ?_ ?_ ?_
  rotate_left 1
  · simp only [List.getElem?_toArray, List.getElem?_cons_succ, List.getElem?_cons_zero]; rfl
  rotate_left 1
  · exact AllReadyH.nil
  intro K hK
  go_simp
  ((with_reducible refine (CO.out _).mono ?_); rintro e w3 ⟨rfl, be⟩; have N1 := Lib.hid (G.below_on BN.out be); clear be)
  refine hK.out _ _ (SB.out _ N1.out) (fun hHeld => ?_)
  clear hK K
  try simp only [Act.put, List.setIfInBounds_toArray, List.set_cons_zero, List.set_cons_succ]
  refine wpAnyH_ready (rs := [9]) (by kernel_rfl) (by simp) ?_
  refine AllReadyH.cons (o := ?_) ?_ ?_ ?_
  rotate_left 1
  · simp only [List.getElem?_toArray, List.getElem?_cons_succ, List.getElem?_cons_zero]; rfl
  rotate_left 1
  · exact AllReadyH.nil
  intro K hK
  go_simp
  ((with_reducible refine (CP.out _).mono ?_); rintro e w4 ⟨Q, rfl, p4, n4, a4, be⟩; have N2 := Lib.hid (G.below_on N1.out be); have Q4 := Lib.hid (And.intro p4 (And.intro n4 (fun k hk => Nat.le_trans N1.out.size (a4 k hk)))); clear p4 n4 a4 be)
  refine hK.out _ _ (SB.out _ N2.out) (fun hHeld => ?_)
  clear hK K
  try simp only [Act.put, List.setIfInBounds_toArray, List.set_cons_zero, List.set_cons_succ]
  refine wpAnyH_ready (rs := [14]) (by kernel_rfl) (by simp) ?_
  refine AllReadyH.cons (o := ?_) ?_ ?_ ?_
  rotate_left 1
  · simp only [List.getElem?_toArray, List.getElem?_cons_succ, List.getElem?_cons_zero]; rfl
  rotate_left 1
  · exact AllReadyH.nil
  intro K hK
  go_simp
  ((with_reducible refine (CR.out _ _ ((rows_keep R2.out N2.out).ge (by have := HM.out; omega))).mono ?_); rintro e w5 ⟨R, rfl, p5, n5, a5, be⟩; have N3 := Lib.hid (G.below_on N2.out be); have Q5 := Lib.hid (Q4.out.1.keep be); have R5 := Lib.hid (And.intro p5 (And.intro n5 (And.intro a5 (show w4.heap.size ≤ w5.heap.size from be.size)))); clear p5 n5 a5 be)
  refine hK.out _ _ (SB.out _ N3.out) (fun hHeld => ?_)
  clear hK K
  try simp only [Act.put, List.setIfInBounds_toArray, List.set_cons_zero, List.set_cons_succ]
  refine wpAnyH_ready (rs := [21]) (by kernel_rfl) (by simp) ?_
  refine AllReadyH.cons (o := ?_) ?_ ?_ ?_
  rotate_left 1
  · simp only [List.getElem?_toArray, List.getElem?_cons_succ, List.getElem?_cons_zero]; rfl
  rotate_left 1
  · exact AllReadyH.nil
  intro K hK
  go_simp
  ((with_reducible refine (CS.out _).mono ?_); rintro e w6 ⟨T, rfl, p6, n6, a6, be⟩; have N4 := Lib.hid (G.below_on N3.out be); have Q6 := Lib.hid (Q5.out.keep be); have R6 := Lib.hid (R5.out.1.keep be); have S6 := Lib.hid (And.intro p6 (And.intro n6 (And.intro a6 be.size))); clear p6 n6 a6 be)
  refine hK.out _ _ (SB.out _ N4.out) (fun hHeld => ?_)
  clear hK K
  try simp only [Act.put, List.setIfInBounds_toArray, List.set_cons_zero, List.set_cons_succ]
  refine wpAnyH_take (i := 22) (oi := ?_) (v := ?_) ?_ ?_ ?_ ?_ ?_ ?_ ?_ ?_
  rotate_left 2
  · simp only [List.getElem?_toArray, List.getElem?_cons_succ, List.getElem?_cons_zero]; rfl
  · kernel_rfl
  · kernel_rfl
  · kernel_rfl
  · exact fun _ _ _ h => h
  · refine Or.inl ⟨by rfl, ?_⟩
    intro w' hSw
    (try dsimp only at hSw)
    go_simp
    all_goals (with_reducible rfl)
  · assumption
  try simp only [Act.put, List.setIfInBounds_toArray, List.set_cons_zero, List.set_cons_succ]
  refine wpAnyH_ready (rs := [23]) (by kernel_rfl) (by simp) ?_
  refine AllReadyH.cons (o := ?_) ?_ ?_ ?_
  rotate_left 1
  · simp only [List.getElem?_toArray, List.getElem?_cons_succ, List.getElem?_cons_zero]; rfl
  rotate_left 1
  · exact AllReadyH.nil
  intro K hK
  go_simp
  (obtain ⟨w7, hw7, k7, l7, s7⟩ := box_new w6 #[.int .i64 u, .int .i64 Wd, .int .i64 Bu, .int .i64 L, .slice (some ⟨rwb, 0, none⟩) m m, .pointer (some ⟨Q.p, 0, none⟩), .pointer (some ⟨R.x, 0, none⟩), .pointer (some ⟨T.s, 0, none⟩), .int .i64 0, .int .i64 0, .int .i64 0, .int .i64 0, .int .i64 0] 92; rw [hw7]; have N5 := Lib.hid (G.below_on N4.out l7); have K7 := Lib.hid (And.intro k7 l7); clear hw7 k7 l7 s7)
  refine hK.out _ _ (SB.out _ N5.out) (fun hHeld => ?_)
  clear hK K
  try simp only [Act.put, List.setIfInBounds_toArray, List.set_cons_zero, List.set_cons_succ]
  refine wpAnyH_take (i := 24) (oi := ?_) (v := ?_) ?_ ?_ ?_ ?_ ?_ ?_ ?_ ?_
  rotate_left 2
  · simp only [List.getElem?_toArray, List.getElem?_cons_succ, List.getElem?_cons_zero]; rfl
  · kernel_rfl
  · kernel_rfl
  · kernel_rfl
  · exact fun _ _ _ h => h
  · refine Or.inl ⟨by rfl, ?_⟩
    intro w' hSw
    (try dsimp only at hSw)
    go_simp
    all_goals (with_reducible rfl)
  · assumption
  try simp only [Act.put, List.setIfInBounds_toArray, List.set_cons_zero, List.set_cons_succ]
  refine wpAnyH_done (by kernel_rfl) ?_ _
  clear hHeld
  go_wp2
  go_ret
  have q4 := Q4.out.1.lt
  have r5 := R5.out.1.lt
  have s6 := S6.out.1.lt
  have z1 := R5.out.2.2.2
  have z2 := S6.out.2.2.2
  have z3 := N4.out.size
  have z4 := B2.out.size
  have a4 := Q4.out.2.2
  have a5 := R5.out.2.2.1
  have a6 := S6.out.2.2.1
  have z5 := N2.out.size
  have hn := R5.out.2.1
  refine ⟨⟨w6.heap.size, .slice (some ⟨rwb, 0, none⟩) m m, u, Wd, Bu, L, Q, R, T⟩, rfl, ⟨K7.out.1, Q6.out.keep K7.out.2, R6.out.keep K7.out.2, ⟨[], _, S6.out.1.keep K7.out.2, rfl⟩, ?_, ?_, ?_⟩, ⟨HU.out, rfl, rfl, rfl, Q4.out.2.1, S6.out.2.1, hn.1, hn.2.1, hn.2.2.1, hn.2.2.2.1, hn.2.2.2.2.1, hn.2.2.2.2.2.1, hn.2.2.2.2.2.2.1, hn.2.2.2.2.2.2.2.1, hn.2.2.2.2.2.2.2.2⟩, ?_, ?_⟩
  · rintro j (hj | hj | hj) e
    · have := q4 j hj
      have e : j = w6.heap.size := e
      omega
    · have := r5 j hj
      have e : j = w6.heap.size := e
      omega
    · have := s6 j hj
      have e : j = w6.heap.size := e
      omega
  · intro j hj
    have h1 := q4 j hj
    exact ⟨fun h => by have := a5 j h; omega, fun h => by have := a6 j h; omega⟩
  · intro j hj h
    have h1 := r5 j hj
    have := a6 j h
    omega
  · rintro j ((hj | hj | hj) | hj)
    · have := a4 j hj; omega
    · have := a5 j hj; omega
    · have := a6 j hj; omega
    · have e : j = w6.heap.size := hj
      omega
  · exact below_in B2.out N5.out
end Go.Proofs.YtbgcpljekcagiaaGreat
/- The laws of layer 12: a plan's rule, and its limiter. -/
namespace Go.Proofs.YtbgcpljekcagiaaGreat
set_option linter.unusedSimpArgs false
set_option linter.unusedVariables false
set_option maxRecDepth 100000
open Go.ChangeShapes Go.WideShapes Go.ChangeAt Go.RowKit
open Ar (inR)
def lqL (a : Int) : Int := a % 32 + 1
def lqS (b : Int) : Nat := (b % 32).toNat + 1
def lqB (a c : Int) : Int := c % 32 % (a % 32 + 1) + 1
def lqN (d : Int) : Nat := (d % 8).toNat + 1
def lqC (e : Int) : Nat := (e % 8).toNat + 1
def lqR (f : Int) : Nat := (f % 4).toNat + 1
def lqW (g : Int) : Nat := (g % 16).toNat + 1
def lqT (h : Int) : Nat := (h % 8).toNat + 1
def lqM (sm : Bool) (d : Int) : Bool := sm && decide ((1 : Int) < (lqN d : Int))
abbrev planV (a b c d e f g h : Int) (sm : Bool) : Value := .agg #[.int .i64 a, .int .i64 b, .int .i64 c, .int .i64 d, .int .i64 e, .int .i64 f, .int .i64 g, .int .i64 h, .bool sm]
abbrev planC (a b c d e f g h : Int) (sm : Bool) : Array Value := #[.int .i64 a, .int .i64 b, .int .i64 c, .int .i64 d, .int .i64 e, .int .i64 f, .int .i64 g, .int .i64 h, .bool sm]
theorem lqB_bd (a c : Int) : 1 ≤ lqB a c ∧ lqB a c ≤ lqL a := by
  unfold lqB lqL
  have h1 := Int.emod_nonneg (c % 32) (show a % 32 + 1 ≠ 0 by omega)
  have h2 := Int.emod_lt_of_pos (c % 32) (show 0 < a % 32 + 1 by omega)
  omega
set_option maxHeartbeats 4000000 in
theorem lmrule_any (a b c d e f g h : Int) (sm : Bool) (w : World) :
    Calls Tryz.prog 17 #[planV a b c d e f g h sm] w fun v w' => v = .returned (rlV (lqL a) ((lqS b * lqN d : Nat) : Int) (lqB a c) (lqN d : Nat) (lqC e : Nat) (lqR f : Nat) (lqW g : Nat) (lqT h : Nat) (lqM sm d)) ∧ Below w.heap.size w w' := by
  obtain ⟨L, hL⟩ : ∃ n, n = lqL a := ⟨_, rfl⟩
  obtain ⟨s, hs⟩ : ∃ n, n = lqS b := ⟨_, rfl⟩
  obtain ⟨Bu, hBu⟩ : ∃ n, n = lqB a c := ⟨_, rfl⟩
  obtain ⟨n, hn⟩ : ∃ n, n = lqN d := ⟨_, rfl⟩
  obtain ⟨Ce, hCe⟩ : ∃ n, n = lqC e := ⟨_, rfl⟩
  obtain ⟨k, hk⟩ : ∃ n, n = lqR f := ⟨_, rfl⟩
  obtain ⟨W, hW⟩ : ∃ n, n = lqW g := ⟨_, rfl⟩
  obtain ⟨Tr, hTr⟩ : ∃ n, n = lqT h := ⟨_, rfl⟩
  have hbb := lqB_bd a c
  have eM : lqM sm d = (sm && decide ((1 : Int) < (n : Int))) := by rw [hn]; rfl
  rw [eM, ← hL, ← hs, ← hBu, ← hn, ← hCe, ← hk, ← hW, ← hTr]
  rw [← hBu, ← hL] at hbb
  unfold lqL at hL
  unfold lqS at hs
  unfold lqB at hBu
  unfold lqN at hn
  unfold lqC at hCe
  unfold lqR at hk
  unfold lqW at hW
  unfold lqT at hTr
  obtain ⟨a0, ha0⟩ : ∃ z, z = a % 32 := ⟨_, rfl⟩
  obtain ⟨b0, hb0⟩ : ∃ z, z = b % 32 := ⟨_, rfl⟩
  obtain ⟨c0, hc0⟩ : ∃ z, z = c % 32 := ⟨_, rfl⟩
  obtain ⟨d0, hd0⟩ : ∃ z, z = d % 8 := ⟨_, rfl⟩
  obtain ⟨e0, he0⟩ : ∃ z, z = e % 8 := ⟨_, rfl⟩
  obtain ⟨f0, hf0⟩ : ∃ z, z = f % 4 := ⟨_, rfl⟩
  obtain ⟨g0, hg0⟩ : ∃ z, z = g % 16 := ⟨_, rfl⟩
  obtain ⟨h0, hh0⟩ : ∃ z, z = h % 8 := ⟨_, rfl⟩
  have e1 : bits .and .i64 a 31 = a0 := by rw [ha0]; exact i64_mask5 a
  have e2 : bits .and .i64 b 31 = b0 := by rw [hb0]; exact i64_mask5 b
  have e3 : bits .and .i64 c 31 = c0 := by rw [hc0]; exact i64_mask5 c
  have e4 : bits .and .i64 d 7 = d0 := by rw [hd0]; exact i64_mask3 d
  have e5 : bits .and .i64 e 7 = e0 := by rw [he0]; exact i64_mask3 e
  have e6 : bits .and .i64 f 3 = f0 := by rw [hf0]; exact i64_mask2 f
  have e7 : bits .and .i64 g 15 = g0 := by rw [hg0]; exact i64_mask4 g
  have e8 : bits .and .i64 h 7 = h0 := by rw [hh0]; exact i64_mask3 h
  rw [← ha0] at hL hBu
  rw [← hc0] at hBu
  have f1 : IntKind.i64.wrap (a0 + 1) = L := by rw [IntKind.wrap_i64]; omega
  have f2 : IntKind.i64.wrap (b0 + 1) = (s : Int) := by rw [IntKind.wrap_i64]; omega
  rw [← hL] at hBu
  have hL0 : ¬ L = 0 := by omega
  obtain ⟨x0, hx0⟩ : ∃ z, z = c0 % L := ⟨_, rfl⟩
  rw [← hx0] at hBu
  have m0 : c0.tmod L = x0 := by rw [hx0]; exact Int.tmod_eq_emod_of_nonneg (by omega)
  have f3 : IntKind.i64.wrap (x0 + 1) = Bu := by clear hx0 m0; rw [IntKind.wrap_i64]; omega
  have f4 : IntKind.i64.wrap (d0 + 1) = (n : Int) := by clear hx0 m0; rw [IntKind.wrap_i64]; omega
  have f5 : IntKind.i64.wrap (e0 + 1) = (Ce : Int) := by clear hx0 m0; rw [IntKind.wrap_i64]; omega
  have f6 : IntKind.i64.wrap (f0 + 1) = (k : Int) := by clear hx0 m0; rw [IntKind.wrap_i64]; omega
  have f7 : IntKind.i64.wrap (g0 + 1) = (W : Int) := by clear hx0 m0; rw [IntKind.wrap_i64]; omega
  have f8 : IntKind.i64.wrap (h0 + 1) = (Tr : Int) := by clear hx0 m0; rw [IntKind.wrap_i64]; omega
  have g1 : n ≤ 8 := by clear hx0 m0; omega
  have g2 : s ≤ 32 := by clear hx0 m0; omega
  obtain ⟨m, hm⟩ : ∃ m, m = s * n := ⟨_, rfl⟩
  have hmb : m ≤ 256 := by rw [hm]; exact Nat.le_trans (Nat.mul_le_mul g2 g1) (by decide)
  have f9 : (s : Int) * (n : Int) = (m : Int) := by rw [hm, Int.natCast_mul]
  have f0' : IntKind.i64.wrap (m : Int) = (m : Int) := by clear hx0 m0; rw [IntKind.wrap_i64]; omega
  rw [← hm]
  obtain ⟨w1, hw1, k1, l1, s1⟩ := box_new w (planC a b c d e f g h sm) 23
  obtain ⟨w2, hw2, k2, l2, s2⟩ := box_new w1 (rlC 0 0 0 0 0 0 0 0 false) 29
  obtain ⟨b1, hb1⟩ : ∃ x, x = w.heap.size := ⟨_, rfl⟩
  obtain ⟨b2, hb2⟩ : ∃ x, x = w1.heap.size := ⟨_, rfl⟩
  have k1' := k1.keep l2
  rw [← hb1] at k1'
  rw [← hb2] at k2
  have kr1 := k1'.rd
  have K1 := Lib.hid k1'
  have K2 := Lib.hid k2
  have BL := Lib.hid (below_in l1 l2)
  have HB := Lib.hid (And.intro hb1 (And.intro hb2 (And.intro s1 s2)))
  clear hL hs hBu hn hCe hk hW hTr ha0 hb0 hc0 hd0 he0 hf0 hg0 hh0 hx0 g1 g2 hm hmb k1 k2 k1' l1 l2 s1 s2 hbb eM
  go_enter Tryz.func17, Tryz.ntmps17
  go_upto_region 1 with (fail)
  rw [← HB.out.1, ← HB.out.2.1]
  clear hw1 hw2 hb1 hb2
  go_upto_region 3 with (fail)
  have BN := Lib.hid (show Below w2.heap.size w2 w2.drew from below_draws (Below.refl _ _) 1)
  have SB := Lib.hid (fun wx (hb : Below w2.heap.size w2 wx) => show ∀ i, wx.cell? ⟨b1, i, none⟩ = (planC a b c d e f g h sm)[i]? from (K1.out.keep hb).rd)
  have st := SB.out _ BN.out
  clear kr1
  obtain ⟨w3, hw3, k3, l3, s3⟩ := box_new w2 (rlC 0 0 0 0 0 0 0 0 false) 29
  have N3 := Lib.hid (show Below w2.heap.size w2 w3.drew from below_draws l3 1)
  have N3' := Lib.hid l3
  have K3 := Lib.hid k3
  have k3r := k3.rd
  have k3w := k3.wr
  have H3 := Lib.hid (show b1 < w2.heap.size ∧ b2 < w2.heap.size from ⟨lt_of_block K1.out, lt_of_block K2.out⟩)
  have SX := Lib.hid (fun o => show ∀ i, (setObj w3 w2.heap.size o).drew.cell? ⟨b1, i, none⟩ = (planC a b c d e f g h sm)[i]? from ((K1.out.keep N3'.out).fr (Fr.setObj (F := fun k => k = w2.heap.size) (Fr.refl _ _) rfl o) (by have := H3.out; omega)).drew.rd)
  clear k3 l3 s3
  refine wp_region_held_drew (S := fun wx => ∀ i, wx.cell? ⟨b1, i, none⟩ = (planC a b c d e f g h sm)[i]?) (by kernel_rfl) st (fun hHeld => ?_)
  clear st
  refine wpAnyH_take (i := 0) (oi := ?_) (v := ?_) ?_ ?_ ?_ ?_ ?_ ?_ ?_ ?_
  rotate_left 2
  · simp only [List.getElem?_toArray, List.getElem?_cons_succ, List.getElem?_cons_zero]; rfl
  · kernel_rfl
  · kernel_rfl
  · kernel_rfl
  · exact fun _ _ _ h => h
  · refine Or.inl ⟨by rfl, ?_⟩
    intro w' hSw
    (try dsimp only at hSw)
    go_simp
    all_goals (with_reducible rfl)
  · assumption
  try simp only [Act.put, List.setIfInBounds_toArray, List.set_cons_zero, List.set_cons_succ]
  refine wpAnyH_take (i := 1) (oi := ?_) (v := ?_) ?_ ?_ ?_ ?_ ?_ ?_ ?_ ?_
  rotate_left 2
  · simp only [List.getElem?_toArray, List.getElem?_cons_succ, List.getElem?_cons_zero]; rfl
  · kernel_rfl
  · kernel_rfl
  · kernel_rfl
  · exact fun _ _ _ h => h
  · refine Or.inl ⟨by rfl, ?_⟩
    intro w' hSw
    (try dsimp only at hSw)
    go_simp
    all_goals (with_reducible rfl)
  · assumption
  try simp only [Act.put, List.setIfInBounds_toArray, List.set_cons_zero, List.set_cons_succ]
  refine wpAnyH_take (i := 2) (oi := ?_) (v := ?_) ?_ ?_ ?_ ?_ ?_ ?_ ?_ ?_
  rotate_left 2
  · simp only [List.getElem?_toArray, List.getElem?_cons_succ, List.getElem?_cons_zero]; rfl
  · kernel_rfl
  · kernel_rfl
  · kernel_rfl
  · exact fun _ _ _ h => h
  · refine Or.inl ⟨by rfl, ?_⟩
    intro w' hSw
    (try dsimp only at hSw)
    go_simp
    all_goals (with_reducible rfl)
  · assumption
  try simp only [Act.put, List.setIfInBounds_toArray, List.set_cons_zero, List.set_cons_succ]
  refine wpAnyH_take (i := 3) (oi := ?_) (v := ?_) ?_ ?_ ?_ ?_ ?_ ?_ ?_ ?_
  rotate_left 2
  · simp only [List.getElem?_toArray, List.getElem?_cons_succ, List.getElem?_cons_zero]; rfl
  · kernel_rfl
  · kernel_rfl
  · kernel_rfl
  · exact fun _ _ _ h => h
  · refine Or.inl ⟨by rfl, ?_⟩
    intro w' hSw
    (try dsimp only at hSw)
    go_simp
    all_goals (with_reducible rfl)
  · assumption
  try simp only [Act.put, List.setIfInBounds_toArray, List.set_cons_zero, List.set_cons_succ]
  refine wpAnyH_take (i := 4) (oi := ?_) (v := ?_) ?_ ?_ ?_ ?_ ?_ ?_ ?_ ?_
  rotate_left 2
  · simp only [List.getElem?_toArray, List.getElem?_cons_succ, List.getElem?_cons_zero]; rfl
  · kernel_rfl
  · kernel_rfl
  · kernel_rfl
  · exact fun _ _ _ h => h
  · refine Or.inl ⟨by rfl, ?_⟩
    intro w' hSw
    (try dsimp only at hSw)
    go_simp
    all_goals (with_reducible rfl)
  · assumption
  try simp only [Act.put, List.setIfInBounds_toArray, List.set_cons_zero, List.set_cons_succ]
  refine wpAnyH_take (i := 5) (oi := ?_) (v := ?_) ?_ ?_ ?_ ?_ ?_ ?_ ?_ ?_
  rotate_left 2
  · simp only [List.getElem?_toArray, List.getElem?_cons_succ, List.getElem?_cons_zero]; rfl
  · kernel_rfl
  · kernel_rfl
  · kernel_rfl
  · exact fun _ _ _ h => h
  · refine Or.inl ⟨by rfl, ?_⟩
    intro w' hSw
    (try dsimp only at hSw)
    go_simp
    all_goals (with_reducible rfl)
  · assumption
  try simp only [Act.put, List.setIfInBounds_toArray, List.set_cons_zero, List.set_cons_succ]
  refine wpAnyH_take (i := 6) (oi := ?_) (v := ?_) ?_ ?_ ?_ ?_ ?_ ?_ ?_ ?_
  rotate_left 2
  · simp only [List.getElem?_toArray, List.getElem?_cons_succ, List.getElem?_cons_zero]; rfl
  · kernel_rfl
  · kernel_rfl
  · kernel_rfl
  · exact fun _ _ _ h => h
  · refine Or.inl ⟨by rfl, ?_⟩
    intro w' hSw
    (try dsimp only at hSw)
    go_simp
    all_goals (with_reducible rfl)
  · assumption
  try simp only [Act.put, List.setIfInBounds_toArray, List.set_cons_zero, List.set_cons_succ]
  refine wpAnyH_take (i := 7) (oi := ?_) (v := ?_) ?_ ?_ ?_ ?_ ?_ ?_ ?_ ?_
  rotate_left 2
  · simp only [List.getElem?_toArray, List.getElem?_cons_succ, List.getElem?_cons_zero]; rfl
  · kernel_rfl
  · kernel_rfl
  · kernel_rfl
  · exact fun _ _ _ h => h
  · refine Or.inl ⟨by rfl, ?_⟩
    intro w' hSw
    (try dsimp only at hSw)
    go_simp
    all_goals (with_reducible rfl)
  · assumption
  try simp only [Act.put, List.setIfInBounds_toArray, List.set_cons_zero, List.set_cons_succ]
  refine wpAnyH_take (i := 8) (oi := ?_) (v := ?_) ?_ ?_ ?_ ?_ ?_ ?_ ?_ ?_
  rotate_left 2
  · simp only [List.getElem?_toArray, List.getElem?_cons_succ, List.getElem?_cons_zero]; rfl
  · kernel_rfl
  · kernel_rfl
  · kernel_rfl
  · exact fun _ _ _ h => h
  · refine Or.inl ⟨by rfl, ?_⟩
    intro w' hSw
    (try dsimp only at hSw)
    go_simp
    all_goals (with_reducible rfl)
  · assumption
  try simp only [Act.put, List.setIfInBounds_toArray, List.set_cons_zero, List.set_cons_succ]
  refine wpAnyH_take (i := 9) (oi := ?_) (v := ?_) ?_ ?_ ?_ ?_ ?_ ?_ ?_ ?_
  rotate_left 2
  · simp only [List.getElem?_toArray, List.getElem?_cons_succ, List.getElem?_cons_zero]; rfl
  · kernel_rfl
  · kernel_rfl
  · kernel_rfl
  · exact fun _ _ _ h => h
  · refine Or.inl ⟨by rfl, ?_⟩
    intro w' hSw
    (try dsimp only at hSw)
    go_simp
    all_goals (with_reducible rfl)
  · assumption
  try simp only [Act.put, List.setIfInBounds_toArray, List.set_cons_zero, List.set_cons_succ]
  refine wpAnyH_take (i := 10) (oi := ?_) (v := ?_) ?_ ?_ ?_ ?_ ?_ ?_ ?_ ?_
  rotate_left 2
  · simp only [List.getElem?_toArray, List.getElem?_cons_succ, List.getElem?_cons_zero]; rfl
  · kernel_rfl
  · kernel_rfl
  · kernel_rfl
  · exact fun _ _ _ h => h
  · refine Or.inl ⟨by rfl, ?_⟩
    intro w' hSw
    (try dsimp only at hSw)
    go_simp
    all_goals (with_reducible rfl)
  · assumption
  try simp only [Act.put, List.setIfInBounds_toArray, List.set_cons_zero, List.set_cons_succ]
  refine wpAnyH_take (i := 11) (oi := ?_) (v := ?_) ?_ ?_ ?_ ?_ ?_ ?_ ?_ ?_
  rotate_left 2
  · simp only [List.getElem?_toArray, List.getElem?_cons_succ, List.getElem?_cons_zero]; rfl
  · kernel_rfl
  · kernel_rfl
  · kernel_rfl
  · exact fun _ _ _ h => h
  · refine Or.inl ⟨by rfl, ?_⟩
    intro w' hSw
    (try dsimp only at hSw)
    go_simp
    all_goals (with_reducible rfl)
  · assumption
  try simp only [Act.put, List.setIfInBounds_toArray, List.set_cons_zero, List.set_cons_succ]
  refine wpAnyH_take (i := 12) (oi := ?_) (v := ?_) ?_ ?_ ?_ ?_ ?_ ?_ ?_ ?_
  rotate_left 2
  · simp only [List.getElem?_toArray, List.getElem?_cons_succ, List.getElem?_cons_zero]; rfl
  · kernel_rfl
  · kernel_rfl
  · kernel_rfl
  · exact fun _ _ _ h => h
  · refine Or.inl ⟨by rfl, ?_⟩
    intro w' hSw
    (try dsimp only at hSw)
    go_simp
    all_goals (with_reducible rfl)
  · assumption
  try simp only [Act.put, List.setIfInBounds_toArray, List.set_cons_zero, List.set_cons_succ]
  refine wpAnyH_take (i := 13) (oi := ?_) (v := ?_) ?_ ?_ ?_ ?_ ?_ ?_ ?_ ?_
  rotate_left 2
  · simp only [List.getElem?_toArray, List.getElem?_cons_succ, List.getElem?_cons_zero]; rfl
  · kernel_rfl
  · kernel_rfl
  · kernel_rfl
  · exact fun _ _ _ h => h
  · refine Or.inl ⟨by rfl, ?_⟩
    intro w' hSw
    (try dsimp only at hSw)
    go_simp
    all_goals (with_reducible rfl)
  · assumption
  try simp only [Act.put, List.setIfInBounds_toArray, List.set_cons_zero, List.set_cons_succ]
  refine wpAnyH_take (i := 14) (oi := ?_) (v := ?_) ?_ ?_ ?_ ?_ ?_ ?_ ?_ ?_
  rotate_left 2
  · simp only [List.getElem?_toArray, List.getElem?_cons_succ, List.getElem?_cons_zero]; rfl
  · kernel_rfl
  · kernel_rfl
  · kernel_rfl
  · exact fun _ _ _ h => h
  · refine Or.inl ⟨by rfl, ?_⟩
    intro w' hSw
    (try dsimp only at hSw)
    go_simp
    all_goals (with_reducible rfl)
  · assumption
  try simp only [Act.put, List.setIfInBounds_toArray, List.set_cons_zero, List.set_cons_succ]
  refine wpAnyH_take (i := 15) (oi := ?_) (v := ?_) ?_ ?_ ?_ ?_ ?_ ?_ ?_ ?_
  rotate_left 2
  · simp only [List.getElem?_toArray, List.getElem?_cons_succ, List.getElem?_cons_zero]; rfl
  · kernel_rfl
  · kernel_rfl
  · kernel_rfl
  · exact fun _ _ _ h => h
  · refine Or.inl ⟨by rfl, ?_⟩
    intro w' hSw
    (try dsimp only at hSw)
    go_simp
    all_goals (with_reducible rfl)
  · assumption
  try simp only [Act.put, List.setIfInBounds_toArray, List.set_cons_zero, List.set_cons_succ]
  refine wpAnyH_take (i := 16) (oi := ?_) (v := ?_) ?_ ?_ ?_ ?_ ?_ ?_ ?_ ?_
  rotate_left 2
  · simp only [List.getElem?_toArray, List.getElem?_cons_succ, List.getElem?_cons_zero]; rfl
  · kernel_rfl
  · kernel_rfl
  · kernel_rfl
  · exact fun _ _ _ h => h
  · refine Or.inl ⟨by rfl, ?_⟩
    intro w' hSw
    (try dsimp only at hSw)
    go_simp
    all_goals (with_reducible rfl)
  · assumption
  try simp only [Act.put, List.setIfInBounds_toArray, List.set_cons_zero, List.set_cons_succ]
  refine wpAnyH_take (i := 17) (oi := ?_) (v := ?_) ?_ ?_ ?_ ?_ ?_ ?_ ?_ ?_
  rotate_left 2
  · simp only [List.getElem?_toArray, List.getElem?_cons_succ, List.getElem?_cons_zero]; rfl
  · kernel_rfl
  · kernel_rfl
  · kernel_rfl
  · exact fun _ _ _ h => h
  · refine Or.inl ⟨by rfl, ?_⟩
    intro w' hSw
    (try dsimp only at hSw)
    go_simp
    all_goals (with_reducible rfl)
  · assumption
  try simp only [Act.put, List.setIfInBounds_toArray, List.set_cons_zero, List.set_cons_succ]
  refine wpAnyH_take (i := 18) (oi := ?_) (v := ?_) ?_ ?_ ?_ ?_ ?_ ?_ ?_ ?_
  rotate_left 2
  · simp only [List.getElem?_toArray, List.getElem?_cons_succ, List.getElem?_cons_zero]; rfl
  · kernel_rfl
  · kernel_rfl
  · kernel_rfl
  · exact fun _ _ _ h => h
  · refine Or.inl ⟨by rfl, ?_⟩
    intro w' hSw
    (try dsimp only at hSw)
    go_simp
    all_goals (with_reducible rfl)
  · assumption
  try simp only [Act.put, List.setIfInBounds_toArray, List.set_cons_zero, List.set_cons_succ]
  refine wpAnyH_take (i := 19) (oi := ?_) (v := ?_) ?_ ?_ ?_ ?_ ?_ ?_ ?_ ?_
  rotate_left 2
  · simp only [List.getElem?_toArray, List.getElem?_cons_succ, List.getElem?_cons_zero]; rfl
  · kernel_rfl
  · kernel_rfl
  · kernel_rfl
  · exact fun _ _ _ h => h
  · refine Or.inl ⟨by rfl, ?_⟩
    intro w' hSw
    (try dsimp only at hSw)
    go_simp
    all_goals (with_reducible rfl)
  · assumption
  try simp only [Act.put, List.setIfInBounds_toArray, List.set_cons_zero, List.set_cons_succ]
  refine wpAnyH_take (i := 20) (oi := ?_) (v := ?_) ?_ ?_ ?_ ?_ ?_ ?_ ?_ ?_
  rotate_left 2
  · simp only [List.getElem?_toArray, List.getElem?_cons_succ, List.getElem?_cons_zero]; rfl
  · kernel_rfl
  · kernel_rfl
  · kernel_rfl
  · exact fun _ _ _ h => h
  · refine Or.inl ⟨by rfl, ?_⟩
    intro w' hSw
    (try dsimp only at hSw)
    go_simp
    all_goals (with_reducible rfl)
  · assumption
  try simp only [Act.put, List.setIfInBounds_toArray, List.set_cons_zero, List.set_cons_succ]
  refine wpAnyH_take (i := 21) (oi := ?_) (v := ?_) ?_ ?_ ?_ ?_ ?_ ?_ ?_ ?_
  rotate_left 2
  · simp only [List.getElem?_toArray, List.getElem?_cons_succ, List.getElem?_cons_zero]; rfl
  · kernel_rfl
  · kernel_rfl
  · kernel_rfl
  · exact fun _ _ _ h => h
  · refine Or.inl ⟨by rfl, ?_⟩
    intro w' hSw
    (try dsimp only at hSw)
    go_simp
    all_goals (with_reducible rfl)
  · assumption
  try simp only [Act.put, List.setIfInBounds_toArray, List.set_cons_zero, List.set_cons_succ]
  refine wpAnyH_take (i := 22) (oi := ?_) (v := ?_) ?_ ?_ ?_ ?_ ?_ ?_ ?_ ?_
  rotate_left 2
  · simp only [List.getElem?_toArray, List.getElem?_cons_succ, List.getElem?_cons_zero]; rfl
  · kernel_rfl
  · kernel_rfl
  · kernel_rfl
  · exact fun _ _ _ h => h
  · refine Or.inl ⟨by rfl, ?_⟩
    intro w' hSw
    (try dsimp only at hSw)
    go_simp
    all_goals (with_reducible rfl)
  · assumption
  try simp only [Act.put, List.setIfInBounds_toArray, List.set_cons_zero, List.set_cons_succ]
  refine wpAnyH_take (i := 23) (oi := ?_) (v := ?_) ?_ ?_ ?_ ?_ ?_ ?_ ?_ ?_
  rotate_left 2
  · simp only [List.getElem?_toArray, List.getElem?_cons_succ, List.getElem?_cons_zero]; rfl
  · kernel_rfl
  · kernel_rfl
  · kernel_rfl
  · exact fun _ _ _ h => h
  · refine Or.inl ⟨by rfl, ?_⟩
    intro w' hSw
    (try dsimp only at hSw)
    go_simp
    all_goals (with_reducible rfl)
  · assumption
  try simp only [Act.put, List.setIfInBounds_toArray, List.set_cons_zero, List.set_cons_succ]
  refine wpAnyH_take (i := 24) (oi := ?_) (v := ?_) ?_ ?_ ?_ ?_ ?_ ?_ ?_ ?_
  rotate_left 2
  · simp only [List.getElem?_toArray, List.getElem?_cons_succ, List.getElem?_cons_zero]; rfl
  · kernel_rfl
  · kernel_rfl
  · kernel_rfl
  · exact fun _ _ _ h => h
  · refine Or.inl ⟨by rfl, ?_⟩
    intro w' hSw
    (try dsimp only at hSw)
    go_simp
    all_goals (with_reducible rfl)
  · assumption
  try simp only [Act.put, List.setIfInBounds_toArray, List.set_cons_zero, List.set_cons_succ]
  refine wpAnyH_take (i := 25) (oi := ?_) (v := ?_) ?_ ?_ ?_ ?_ ?_ ?_ ?_ ?_
  rotate_left 2
  · simp only [List.getElem?_toArray, List.getElem?_cons_succ, List.getElem?_cons_zero]; rfl
  · kernel_rfl
  · kernel_rfl
  · kernel_rfl
  · exact fun _ _ _ h => h
  · refine Or.inl ⟨by rfl, ?_⟩
    intro w' hSw
    (try dsimp only at hSw)
    go_simp
    all_goals (with_reducible rfl)
  · assumption
  try simp only [Act.put, List.setIfInBounds_toArray, List.set_cons_zero, List.set_cons_succ]
  refine wpAnyH_take (i := 26) (oi := ?_) (v := ?_) ?_ ?_ ?_ ?_ ?_ ?_ ?_ ?_
  rotate_left 2
  · simp only [List.getElem?_toArray, List.getElem?_cons_succ, List.getElem?_cons_zero]; rfl
  · kernel_rfl
  · kernel_rfl
  · kernel_rfl
  · exact fun _ _ _ h => h
  · refine Or.inl ⟨by rfl, ?_⟩
    intro w' hSw
    (try dsimp only at hSw)
    go_simp
    all_goals (with_reducible rfl)
  · assumption
  try simp only [Act.put, List.setIfInBounds_toArray, List.set_cons_zero, List.set_cons_succ]
  refine wpAnyH_take (i := 27) (oi := ?_) (v := ?_) ?_ ?_ ?_ ?_ ?_ ?_ ?_ ?_
  rotate_left 2
  · simp only [List.getElem?_toArray, List.getElem?_cons_succ, List.getElem?_cons_zero]; rfl
  · kernel_rfl
  · kernel_rfl
  · kernel_rfl
  · exact fun _ _ _ h => h
  · refine Or.inl ⟨by rfl, ?_⟩
    intro w' hSw
    (try dsimp only at hSw)
    go_simp
    all_goals (with_reducible rfl)
  · assumption
  try simp only [Act.put, List.setIfInBounds_toArray, List.set_cons_zero, List.set_cons_succ]
  refine wpAnyH_take (i := 28) (oi := ?_) (v := ?_) ?_ ?_ ?_ ?_ ?_ ?_ ?_ ?_
  rotate_left 2
  · simp only [List.getElem?_toArray, List.getElem?_cons_succ, List.getElem?_cons_zero]; rfl
  · kernel_rfl
  · kernel_rfl
  · kernel_rfl
  · exact fun _ _ _ h => h
  · refine Or.inl ⟨by rfl, ?_⟩
    intro w' hSw
    (try dsimp only at hSw)
    go_simp
    all_goals (with_reducible rfl)
  · assumption
  try simp only [Act.put, List.setIfInBounds_toArray, List.set_cons_zero, List.set_cons_succ]
  refine wpAnyH_take (i := 29) (oi := ?_) (v := ?_) ?_ ?_ ?_ ?_ ?_ ?_ ?_ ?_
  rotate_left 2
  · simp only [List.getElem?_toArray, List.getElem?_cons_succ, List.getElem?_cons_zero]; rfl
  · kernel_rfl
  · kernel_rfl
  · kernel_rfl
  · exact fun _ _ _ h => h
  · refine Or.inl ⟨by rfl, ?_⟩
    intro w' hSw
    (try dsimp only at hSw)
    go_simp
    all_goals (with_reducible rfl)
  · assumption
  try simp only [Act.put, List.setIfInBounds_toArray, List.set_cons_zero, List.set_cons_succ]
  refine wpAnyH_take (i := 30) (oi := ?_) (v := ?_) ?_ ?_ ?_ ?_ ?_ ?_ ?_ ?_
  rotate_left 2
  · simp only [List.getElem?_toArray, List.getElem?_cons_succ, List.getElem?_cons_zero]; rfl
  · kernel_rfl
  · kernel_rfl
  · kernel_rfl
  · exact fun _ _ _ h => h
  · refine Or.inl ⟨by rfl, ?_⟩
    intro w' hSw
    (try dsimp only at hSw)
    go_simp
    all_goals (with_reducible rfl)
  · assumption
  try simp only [Act.put, List.setIfInBounds_toArray, List.set_cons_zero, List.set_cons_succ]
  refine wpAnyH_ready (rs := [31]) (by kernel_rfl) (by simp) ?_
  refine AllReadyH.cons (o := ?_) ?_ ?_ ?_
  rotate_left 1
  · simp only [List.getElem?_toArray, List.getElem?_cons_succ, List.getElem?_cons_zero]; rfl
  rotate_left 1
  · exact AllReadyH.nil
  intro K hK
  go_simp
  skip
  refine hK.out _ _ (SB.out _ N3.out) (fun hHeld => ?_)
  clear hK K
  try simp only [Act.put, List.setIfInBounds_toArray, List.set_cons_zero, List.set_cons_succ]
  refine wpAnyH_ready (rs := [32]) (by kernel_rfl) (by simp) ?_
  refine AllReadyH.cons (o := ?_) ?_ ?_ ?_
  rotate_left 1
  · simp only [List.getElem?_toArray, List.getElem?_cons_succ, List.getElem?_cons_zero]; rfl
  rotate_left 1
  · exact AllReadyH.nil
  intro K hK
  go_simp
  rw [nine_setR K3.out]
  refine hK.out _ _ (SX.out _) (fun hHeld => ?_)
  clear hK K
  try simp only [Act.put, List.setIfInBounds_toArray, List.set_cons_zero, List.set_cons_succ]
  refine wpAnyH_done (by kernel_rfl) ?_ _
  clear hHeld hw3 k3r k3w
  obtain ⟨b3, hb3⟩ : ∃ x, x = w2.heap.size := ⟨_, rfl⟩
  rw [← hb3] at H3 K3 ⊢
  have f4 : Fr (fun k => k = b3) w3 (setObj w3 b3 (.cells (rlC L m Bu n Ce k W Tr false) 29 (0, 0))) := Fr.setObj (F := fun k => k = b3) (Fr.refl _ _) rfl _
  have k4 : Blk (setObj w3 b3 (.cells (rlC L m Bu n Ce k W Tr false) 29 (0, 0))) b3 29 (rlC L m Bu n Ce k W Tr false) := setObj_at (lt_of_block K3.out) _
  change Exit.then _ _ _ _ (setObj w3 b3 (.cells (rlC L m Bu n Ce k W Tr false) 29 (0, 0))).drew
  generalize setObj w3 b3 (.cells (rlC L m Bu n Ce k W Tr false) 29 (0, 0)) = w4 at f4 k4 ⊢
  have Z4 := Lib.hid (And.intro ((K1.out.keep N3'.out).fr f4 (by have := H3.out; omega)).drew (And.intro ((K2.out.keep N3'.out).fr f4 (by have := H3.out; omega)).drew (show Below w2.heap.size w2 w4.drew from below_draws (N3'.out.trans (f4.below N3'.out.size (fun k hk => by omega))) 1)))
  have k4 := k4.drew
  change Exit.then _ _ _ _ w4.drew
  generalize w4.drew = w4 at k4 Z4 ⊢
  have K4 := Lib.hid k4
  have HB3 := Lib.hid hb3
  have z1 := Z4.out.1.rd
  have z2 := Z4.out.2.1.wr
  have z2r := Z4.out.2.1.rd
  have z4 := k4.rd
  have z4w := k4.wr
  clear f4 k4 hb3
  cases sm
  · go_upto_region 5 with (fail)
    rw [setCell_obj K4.out]
    simp only [List.setIfInBounds_toArray, List.set_cons_zero, List.set_cons_succ]
    clear z4 z4w
    have f5 : Fr (fun k => k = b3) w4 (setObj w4 b3 (.cells (rlC L m Bu n Ce k W Tr false) 29 (0, 0))) := Fr.setObj (F := fun k => k = b3) (Fr.refl _ _) rfl _
    have k5 : Blk (setObj w4 b3 (.cells (rlC L m Bu n Ce k W Tr false) 29 (0, 0))) b3 29 (rlC L m Bu n Ce k W Tr false) := setObj_at (lt_of_block K4.out) _
    generalize setObj w4 b3 (.cells (rlC L m Bu n Ce k W Tr false) 29 (0, 0)) = w5 at f5 k5 ⊢
    have Y2 := Lib.hid (Z4.out.2.1.fr f5 (by have := H3.out; omega))
    have q5 : Below w2.heap.size w4 w5 := f5.below Z4.out.2.2.size (fun k hk => by have h1 := HB3.out; have h2 : k = b3 := hk; omega)
    have B5 := Lib.hid (Z4.out.2.2.trans q5)
    have z5 := k5.rd
    have y2 := Y2.out.rd
    have y2w := Y2.out.wr
    clear f5 k5 z1 z2 z2r q5
    go_wp2
    rw [nine_setR Y2.out]
    rw [show (false && decide ((1 : Int) < (n : Int))) = false from rfl]
    refine bodyPost_ret (results_cell_row rfl _ _ b2 _ _ (0, 0) _ rfl (setObj_at (lt_of_block Y2.out) _) Tryz.underlying29 rfl (by kernel_rfl)) rfl ⟨rfl, ?_⟩
    have hb := HB.out
    have b5 := below_in BL.out B5.out
    exact b5.trans ((Fr.setObj (F := fun k => k = b2) (Fr.refl _ _) rfl _).below b5.size (fun k hk => by omega))
  · go_upto_region 5 with (fail)
    rw [setCell_obj K4.out]
    simp only [List.setIfInBounds_toArray, List.set_cons_zero, List.set_cons_succ]
    clear z4 z4w
    obtain ⟨q, hq⟩ : ∃ q, q = decide ((1 : Int) < (n : Int)) := ⟨_, rfl⟩
    have HQ := Lib.hid (show (true && decide ((1 : Int) < (n : Int))) = q from by rw [hq]; rfl)
    rw [← hq]
    clear hq
    have f5 : Fr (fun k => k = b3) w4 (setObj w4 b3 (.cells (rlC L m Bu n Ce k W Tr q) 29 (0, 0))) := Fr.setObj (F := fun k => k = b3) (Fr.refl _ _) rfl _
    have k5 : Blk (setObj w4 b3 (.cells (rlC L m Bu n Ce k W Tr q) 29 (0, 0))) b3 29 (rlC L m Bu n Ce k W Tr q) := setObj_at (lt_of_block K4.out) _
    generalize setObj w4 b3 (.cells (rlC L m Bu n Ce k W Tr q) 29 (0, 0)) = w5 at f5 k5 ⊢
    have Y2 := Lib.hid (Z4.out.2.1.fr f5 (by have := H3.out; omega))
    have q5 : Below w2.heap.size w4 w5 := f5.below Z4.out.2.2.size (fun k hk => by have h1 := HB3.out; have h2 : k = b3 := hk; omega)
    have B5 := Lib.hid (Z4.out.2.2.trans q5)
    have z5 := k5.rd
    have y2 := Y2.out.rd
    have y2w := Y2.out.wr
    clear f5 k5 z1 z2 z2r q5
    go_wp2
    rw [nine_setR Y2.out]
    rw [HQ.out]
    refine bodyPost_ret (results_cell_row rfl _ _ b2 _ _ (0, 0) _ rfl (setObj_at (lt_of_block Y2.out) _) Tryz.underlying29 rfl (by kernel_rfl)) rfl ⟨rfl, ?_⟩
    have hb := HB.out
    have b5 := below_in BL.out B5.out
    exact b5.trans ((Fr.setObj (F := fun k => k = b2) (Fr.refl _ _) rfl _).below b5.size (fun k hk => by omega))
/-- a plan's limiter. -/
theorem lmplan_new (a b c d e f g h : Int) (sm : Bool) (A0 : Option Addr) (n0 c0 : Nat) (zs : List Int) (w : World) (hr : RdI w .u64 A0 n0 c0 zs) :
    Calls Tryz.prog 18 #[rlV (lqL a) ((lqS b * lqN d : Nat) : Int) (lqB a c) (lqN d : Nat) (lqC e : Nat) (lqR f : Nat) (lqW g : Nat) (lqT h : Nat) sm, .slice A0 n0 c0] w fun v w' => ∃ N : LmN, v = .returned (.pointer (some ⟨N.l, 0, none⟩)) ∧ LmAt w' N (lmZ (lqC e)) ∧ LmP N (lqL a) ((lqS b * lqN d : Nat) : Int) (lqB a c) (lqN d) (lqS b) (lqR f) (lqW g) (lqC e) (lqT h) sm (rX zs) (rA zs) (rB zs) ∧ (∀ b, N.all b → w.heap.size ≤ b) ∧ Below w.heap.size w w' := by
  have h1 : 1 ≤ lqN d ∧ lqN d ≤ 8 := by unfold lqN; omega
  have h2 : 1 ≤ lqS b ∧ lqS b ≤ 32 := by unfold lqS; omega
  have h3 : 1 ≤ lqW g ∧ lqW g ≤ 16 := by unfold lqW; omega
  have h4 : 1 ≤ lqR f ∧ lqR f ≤ 4 := by unfold lqR; omega
  have h5 : 1 ≤ lqC e ∧ lqC e ≤ 8 := by unfold lqC; omega
  have h6 : 1 ≤ lqT h ∧ lqT h ≤ 8 := by unfold lqT; omega
  have h7 : 1 ≤ lqL a ∧ lqL a ≤ 32 := by unfold lqL; omega
  have hm : lqS b * lqN d ≤ 32 * 8 := Nat.mul_le_mul h2.2 h1.2
  have hd : ((lqS b * lqN d : Nat) : Int) / ((lqN d : Nat) : Int) = ((lqS b : Nat) : Int) := by
    rw [← Int.natCast_ediv, Nat.mul_div_cancel _ (by omega)]
  have hkw : lqR f * lqW g ≤ 4 * 16 := Nat.mul_le_mul h4.2 h3.2
  have hall : (lqN d + 1) * (8 * (lqR f * lqW g)) ≤ 9 * (8 * (4 * 16)) := Nat.mul_le_mul (by omega) (by omega)
  exact lmnew_any (lqL a) _ (lqB a c) (lqN d) (lqS b) (lqR f) (lqW g) (lqC e) (lqT h) sm (by omega) (lqB_bd a c) ⟨Int.natCast_nonneg _, by omega⟩ ⟨h1.1, by omega⟩ ⟨hd, h2.1⟩ ⟨h4.1, by omega⟩ ⟨h3.1, Nat.le_trans hall (by decide)⟩ ⟨h5.1, by omega⟩ ⟨h6.1, by omega⟩ A0 n0 c0 zs w hr
theorem unitZ_bd {W n : Int} (hW : 1 ≤ W) (hn : 1 ≤ n) : 1 ≤ unitZ W n ∧ unitZ W n ≤ W := by
  unfold unitZ
  rw [if_neg (by omega)]
  have h1 := Int.mul_ediv_add_emod W n
  have h2 := Int.emod_nonneg W (show n ≠ 0 by omega)
  have h3 := Int.emod_lt_of_pos W (show 0 < n by omega)
  have h4 : 0 ≤ W / n := Int.ediv_nonneg (by omega) (by omega)
  have h5 : W / n ≤ W := Int.ediv_le_self _ (by omega)
  have h6 : 1 * (W / n) ≤ n * (W / n) := Int.mul_le_mul_of_nonneg_right hn h4
  split
  · rename_i h0
    rw [h0] at h1
    refine ⟨?_, h5⟩
    by_cases hz : W / n = 0
    · rw [hz, Int.mul_zero] at h1; omega
    · omega
  · refine ⟨by omega, ?_⟩
    by_cases hz : W / n = 0
    · omega
    · by_cases hn1 : n = 1
      · subst hn1
        omega
      · have h7 : 2 * (W / n) ≤ n * (W / n) := Int.mul_le_mul_of_nonneg_right (by omega) h4
        omega
/-- a plan's limiter, as it is made: its numbers. -/
theorem lmplan_I {N : LmN} {a b c d e f g h : Int} {sm : Bool} {X A B : Nat → Nat} {w : World} (hA : LmAt w N (lmZ (lqC e))) (hp : LmP N (lqL a) ((lqS b * lqN d : Nat) : Int) (lqB a c) (lqN d) (lqS b) (lqR f) (lqW g) (lqC e) (lqT h) sm X A B) : LmI N (lmZ (lqC e)) 0 0 := by
  have h1 : 1 ≤ lqN d ∧ lqN d ≤ 8 := by unfold lqN; omega
  have h2 : 1 ≤ lqS b ∧ lqS b ≤ 32 := by unfold lqS; omega
  have h7 : 1 ≤ lqL a ∧ lqL a ≤ 32 := by unfold lqL; omega
  have hm : lqS b * lqN d ≤ 32 * 8 := Nat.mul_le_mul h2.2 h1.2
  have hm1 : 1 * 1 ≤ lqS b * lqN d := Nat.mul_le_mul h2.1 h1.1
  have hB := lqB_bd a c
  have hu := unitZ_bd (W := ((lqS b * lqN d : Nat) : Int)) (n := lqL a + 1 - lqB a c) (by omega) (by omega)
  refine ⟨⟨w, hA.hr⟩, FewR.new N.R, fun _ _ _ => Int.le_refl _, Int.le_refl _, by omega, fun c hc => ?_, ⟨Int.le_refl _, Int.le_refl _⟩, ⟨Int.le_refl _, Int.le_refl _⟩, ⟨Int.le_refl _, Int.le_refl _⟩, by omega, ?_, ?_, ?_, ?_⟩
  · rw [List.eq_of_mem_replicate hc]
    show (0 ≤ (0 : Int) ∧ (0 : Int) ≤ 0 + 1099511627776) ∧ (0 ≤ (0 : Int) ∧ (0 : Int) ≤ 0) ∧ (0 ≤ (0 : Int) ∧ (0 : Int) ≤ 0) ∧ 0 ≤ (0 : Int) ∧ (0 : Int) ≤ 0
    omega
  · rw [hp.pU]; omega
  · rw [hp.pW]; omega
  · rw [hp.pB]; omega
  · rw [hp.pL]; omega
end Go.Proofs.YtbgcpljekcagiaaGreat
/- The laws of layer 12: their arguments; Light, alike. -/
namespace Go.Proofs.YtbgcpljekcagiaaGreat
set_option linter.unusedSimpArgs false
set_option linter.unusedVariables false
set_option maxRecDepth 100000
open Go.ChangeShapes Go.WideShapes Go.ChangeAt Go.RowKit Go.Deep
open Ar (inR)
/-- a call: how much later, how much, whose, a peek? -/
abbrev Cl := Int × Int × ByteArray × Bool
abbrev encCl (a : Cl) : Nat → Value
  | 0 => .int .i64 a.1
  | 1 => .int .i64 a.2.1
  | 2 => .string a.2.2.1
  | _ => .bool a.2.2.2
def okCl (a : Cl) : Prop := (-9223372036854775808 ≤ a.1 ∧ a.1 ≤ 9223372036854775807) ∧ (-9223372036854775808 ≤ a.2.1 ∧ a.2.1 ≤ 9223372036854775807) ∧ a.2.2.1.size ≤ maxLen
section
variable {H : Type} {enc : TypeId × Value → H} {P : Program}
theorem open_cl {W : World} {base : Nat} {r : Reach} {b0 : Nat} {t e : TypeId} {f0 f1 f2 f3 : Field} {v : Value} {d : DataW H} {p : List MemPlace} (ht : P.underlying t = some (.slice e)) (he : P.underlying e = some (.struct #[f0, f1, f2, f3]))
    (hone : oneCellFields P #[f0, f1, f2, f3] = true) (hC : P.cellsOf e = 4) (k0 : P.underlying f0.type = some (.int .i64)) (k1 : P.underlying f1.type = some (.int .i64)) (k2 : P.underlying f2.type = some .string) (k3 : P.underlying f3.type = some .bool)
    (hv : Value.okWide P W r b0 t v) (h : DataW.Trod enc P W base (fun _ => true) true t v d p) : ∃ A n c L, v = .slice A n c ∧ RdL W A n c 4 encCl L ∧ ∀ a ∈ L, okCl a :=
  open_rdL encCl okCl ht he hone hC (by simp) (fun V hV => by
    obtain ⟨x, h1, h2⟩ := row_i64 k0 (hV 0 f0 rfl)
    obtain ⟨y, h5, h6⟩ := row_i64 k1 (hV 1 f1 rfl)
    obtain ⟨s, h3, h4⟩ := row_str k2 (hV 2 f2 rfl)
    obtain ⟨b, h7⟩ := row_bool k3 (hV 3 f3 rfl)
    refine ⟨(x, y, s, b), ⟨h2, h6, h4⟩, fun j hj => ?_⟩
    match j with
    | 0 => exact h1
    | 1 => exact h5
    | 2 => exact h3
    | 3 => exact h7
    | j + 4 => exact absurd (show j + 4 < 4 from hj) (by omega)) hv h
end
theorem box4C (X : World) (a b c d : Value) : ∃ w1 w2, X.alloc (.cells #[.int .i64 0, .int .i64 0, .string ⟨#[]⟩, .bool false] 36) = w1 ∧
    (∀ j, w1.cell? ⟨X.heap.size, j, none⟩ = (#[.int .i64 0, .int .i64 0, .string ⟨#[]⟩, .bool false] : Array Value)[j]?) ∧ (∀ j, w1.frozen? ⟨X.heap.size, j, none⟩ = false) ∧
    (((w1.setCell ⟨X.heap.size, 0, none⟩ a).setCell ⟨X.heap.size, 1, none⟩ b).setCell ⟨X.heap.size, 2, none⟩ c).setCell ⟨X.heap.size, 3, none⟩ d = w2 ∧
    Below X.heap.size X w2 ∧ Blk w2 X.heap.size 36 #[a, b, c, d] := by
  obtain ⟨w1, hw1, kc1, l1, s1⟩ := box_new X #[.int .i64 0, .int .i64 0, .string ⟨#[]⟩, .bool false] 36
  exact ⟨w1, _, hw1, kc1.rd, kc1.wr, four_setC kc1, l1.trans ((Fr.setObj (F := fun k => k = X.heap.size) (Fr.refl _ _) rfl _).below l1.size (fun k hk => by omega)), setObj_at (lt_of_block kc1) _⟩
/-- are calls light? -/
def lightC (L : List Cl) : Bool := decide (L.length ≤ 150) && L.all fun a => decide (a.2.2.1.size ≤ 64)
theorem lightC_pre {L : List Cl} (h : ¬ 150 < L.length) : lightC L = L.all fun a => decide (a.2.2.1.size ≤ 64) := by
  unfold lightC; rw [decide_eq_true (by omega)]; rfl
theorem lightC_at {L : List Cl} (h : lightC L = true) : L.length ≤ 150 ∧ ∀ a ∈ L, a.2.2.1.size ≤ 64 := by
  unfold lightC at h
  rw [Bool.and_eq_true, decide_eq_true_iff, List.all_eq_true] at h
  exact ⟨h.1, fun a ha => of_decide_eq_true (h.2 a ha)⟩
theorem allC_up {L : List Cl} {i : Nat} {a : Cl} (h : L[i]? = some a) (hs : a.2.2.1.size ≤ 64) (hp : ∀ j b, j < i → L[j]? = some b → b.2.2.1.size ≤ 64) : ∀ j b, j < i + 1 → L[j]? = some b → b.2.2.1.size ≤ 64 := by
  intro j b hj hb
  by_cases e : j = i
  · subst e; rw [h] at hb; cases hb; exact hs
  · exact hp j b (by omega) hb
set_option maxHeartbeats 1000000 in
theorem lmlight_any (A : Option Addr) (n c : Nat) (L : List Cl) (w : World) (hr : RdL w A n c 4 encCl L) (hok : ∀ a ∈ L, okCl a) :
    Calls Tryz.prog 16 #[.slice A n c] w fun e w' => e = .returned (.bool (lightC L)) ∧ Below w.heap.size w w' := by
  have hmx := hr.max
  unfold maxLen at hmx
  have hcp := hr.cap
  have hlen := hr.len
  by_cases hn : 150 < n
  · have e : lightC L = false := by unfold lightC; rw [hlen, decide_eq_false (by omega)]; rfl
    rw [e]
    have t1 : decide ((150 : Int) < (n : Int)) = true := by rw [decide_eq_true_iff]; omega
    clear hr hok hlen e
    go_enter Tryz.func16, Tryz.ntmps16
    go_wp2
    go_ret
    exact ⟨rfl, Below.refl _ _⟩
  have HR := Lib.hid hr
  have HO := Lib.hid hok
  have HE := Lib.hid (lightC_pre (L := L) (by omega))
  have t1 : decide ((150 : Int) < (n : Int)) = false := by rw [decide_eq_false_iff_not]; omega
  have HLn := Lib.hid hlen
  clear hr hok hlen
  go_enter Tryz.func16, Tryz.ntmps16
  go_wp2
  go_loopg [10] n (fun kk si wr => ∃ i : Nat, i ≤ n ∧ Hid (kk = n - i) ∧ si = .int .i64 (i : Int) ∧ Hid (Below w.heap.size w wr) ∧ Hid (∀ j b, j < i → L[j]? = some b → b.2.2.1.size ≤ 64))
  case atStart => exact ⟨0, by omega, Lib.hid rfl, rfl, Lib.hid (Below.refl _ _), Lib.hid (fun j b h => absurd h (by omega))⟩
  case round =>
    obtain ⟨i, hi, HKK, rfl, HB, HA⟩ := hrel
    by_cases hin : i < n
    · obtain ⟨b, off, rfl, hbl, hc⟩ := (HR.out.below HB.out).at_ (by omega)
      obtain ⟨⟨gp, cs, ky, pk⟩, ha⟩ : ∃ a, L[i]? = some a := ⟨_, List.getElem?_eq_getElem (by rw [HLn.out]; exact hin)⟩
      have hoka := HO.out _ (List.mem_of_getElem? ha)
      have kr0 : wr.cell? ⟨b, off + i * 4, none⟩ = some (.int .i64 gp) := hc i _ ha 0 (by omega)
      have kr1 : wr.cell? ⟨b, off + i * 4 + 1, none⟩ = some (.int .i64 cs) := hc i _ ha 1 (by omega)
      have kr2 : wr.cell? ⟨b, off + i * 4 + 2, none⟩ = some (.string ky) := hc i _ ha 2 (by omega)
      have kr3 : wr.cell? ⟨b, off + i * 4 + 3, none⟩ = some (.bool pk) := hc i _ ha 3 (by omega)
      unfold okCl maxLen at hoka
      simp only at hoka
      obtain ⟨_, _, hky⟩ := hoka
      obtain ⟨x1, x2, ex1, kr, kw, ex2, bl2, kc2⟩ := box4C wr (.int .i64 gp) (.int .i64 cs) (.string ky) (.bool pk)
      have BL := Lib.hid (HB.out.trans (bl2.mono HB.out.size))
      have kc3 := kc2.rd
      have t2 : (i : Int) < (n : Int) := by omega
      have t3 : (n : Int) ≤ 150 := by omega
      have HIA := Lib.hid (And.intro ha hin)
      clear hc hbl ha bl2 kc2
      go_upto_region 6 with (fail)
      clear kr kw ex1 kr0 kr1 kr2 kr3 ex2
      by_cases h1 : (64 : Int) < (ky.size : Int)
      · have H1 := Lib.hid h1
        go_wp2
        go_ret
        have e : lightC L = false := by
          rw [HE.out, List.all_eq_false]
          exact ⟨(gp, cs, ky, pk), List.mem_of_getElem? HIA.out.1, by have := H1.out; simp; omega⟩
        exact ⟨by rw [e]; rfl, BL.out⟩
      · have H1 := Lib.hid h1
        go_wp2
        go_roundg (n - (i + 1))
        case measure => have := HKK.out; have := HIA.out.2; omega
        case rel => exact ⟨i + 1, HIA.out.2, Lib.hid rfl, by go_num, BL, Lib.hid (allC_up HIA.out.1 (by show ky.size ≤ 64; have := H1.out; omega) HA.out)⟩
    · have hie : i = n := by omega
      subst hie
      have e : lightC L = true := by
        rw [HE.out, List.all_eq_true]
        intro a ha
        obtain ⟨j, hj, he⟩ := List.getElem_of_mem ha
        have := HA.out j a (by have := HLn.out; omega) (by rw [List.getElem?_eq_getElem hj, he])
        simpa using this
      have HE2 := Lib.hid e
      clear e
      go_wp2
      go_ret
      exact ⟨by rw [HE2.out]; rfl, HB.out⟩
theorem event_equal (r r' a a' : Int) (s s' : ByteArray) (u u' : Bool) (w : World) :
    (Op.equalIn 10000 70 (.agg #[.int .i64 r, .string s, .bool u, .int .i64 a]) (.agg #[.int .i64 r', .string s', .bool u', .int .i64 a'])).run Tryz.prog w = .ok (decide (r = r' ∧ s = s' ∧ u = u' ∧ a = a')) w := by
  have hS : Tryz.prog.underlying 70 = some (.struct (Tryz.prog.fieldsOf 70)) := by kernel_rfl
  have hp : Tryz.prog.stoodInHeld 70 = false := by kernel_rfl
  have hb : (s.toList == s'.toList) = decide (s = s') := by
    by_cases h : s = s'
    · subst h; simp
    · rw [decide_eq_false h]
      refine beq_eq_false_iff_ne.2 (fun e => h ?_)
      rw [ByteArray.toList_eq, ByteArray.toList_eq] at e
      exact ByteArray.ext (Array.ext' e)
  rw [show (10000 : Nat) = 9999 + 1 from rfl, run_equalIn_agg w 9999 70 _ _ hS hp]
  simp only [Program.fieldsOf, Tryz.underlying70]
  go_simp
  by_cases h1 : r = r' <;> by_cases h2 : s = s' <;> by_cases h3 : u = u' <;> by_cases h4 : a = a' <;> simp [h1, h2, h3, h4, hb]
theorem evL_get (now : Int) : ∀ (l : List (ByteArray × Bool)) (i : Nat) (x : ByteArray × Bool), l[i]? = some x → (evL now l)[i * 4]? = some (.int .i64 0) ∧ (evL now l)[i * 4 + 1]? = some (.string x.1) ∧ (evL now l)[i * 4 + 2]? = some (.bool x.2) ∧ (evL now l)[i * 4 + 3]? = some (.int .i64 now)
  | [], i, x, h => by simp at h
  | y :: l, 0, x, h => by
    have : y = x := by simpa using h
    subst this
    exact ⟨rfl, rfl, rfl, rfl⟩
  | y :: l, i + 1, x, h => by
    have ih := evL_get now l i x (by simpa using h)
    rw [show (i + 1) * 4 = i * 4 + 1 + 1 + 1 + 1 by omega]
    exact ih
set_option maxHeartbeats 2000000 in
theorem lmalike_any (t : Int) (l : List (ByteArray × Bool)) (hl : l.length ≤ 2) (v1 v2 : Value) (b1 b2 : Nat) (w : World) (h1 : w.ownsRow b1 70 4 v1 l.length (evL t l)) (h2 : w.ownsRow b2 70 4 v2 l.length (evL t l)) :
    Calls Tryz.prog 26 #[v1, v2] w fun e w' => e = .returned (.bool true) ∧ Below w.heap.size w w' := by
  obtain ⟨A1, c1, rfl, q1, q2, q3⟩ := G.own_at h1
  obtain ⟨A2, c2, rfl, p1, p2, p3⟩ := G.own_at h2
  obtain ⟨n, hn⟩ : ∃ n, n = l.length := ⟨_, rfl⟩
  rw [← hn] at q1 q3 p1 p3 hl ⊢
  have HQ := Lib.hid (And.intro q3 (And.intro p3 hn))
  have t0 : (n : Int) ≤ 2 := by omega
  clear h1 h2 q3 p3 hn
  go_enter Tryz.func26, Tryz.ntmps26
  go_wp2
  go_loopg [13] n (fun k0 sj wr => ∃ j : Nat, j ≤ n ∧ Hid (k0 = n - j) ∧ sj = .int .i64 (j : Int) ∧ Hid (Below w.heap.size w wr))
  case atStart => exact ⟨0, by omega, Lib.hid rfl, rfl, Lib.hid (Below.refl _ _)⟩
  case round =>
    obtain ⟨j, hj, HKK, rfl, HB⟩ := hrel
    by_cases hjn : j < n
    · obtain ⟨g, rfl, _, _, hg, hc, _⟩ := HQ.out.1 (by omega)
      obtain ⟨g', rfl, _, _, hg', hc', _⟩ := HQ.out.2.1 (by omega)
      obtain ⟨x, hx⟩ : ∃ x, l[j]? = some x := ⟨_, List.getElem?_eq_getElem (by rw [← HQ.out.2.2]; exact hjn)⟩
      obtain ⟨e0, e1, e2, e3⟩ := evL_get t l j x hx
      have rd := fun i (hi : i < n * 4) => (HB.out.cell (p := ⟨g, i, none⟩) hg).trans (hc i hi)
      have rd' := fun i (hi : i < n * 4) => (HB.out.cell (p := ⟨g', i, none⟩) hg').trans (hc' i hi)
      have c0 := (rd (j * 4) (by omega)).trans e0
      have c1 := (rd (j * 4 + 1) (by omega)).trans e1
      have c2 := (rd (j * 4 + 2) (by omega)).trans e2
      have c3 := (rd (j * 4 + 3) (by omega)).trans e3
      have d0 := (rd' (j * 4) (by omega)).trans e0
      have d1 := (rd' (j * 4 + 1) (by omega)).trans e1
      have d2 := (rd' (j * 4 + 2) (by omega)).trans e2
      have d3 := (rd' (j * 4 + 3) (by omega)).trans e3
      have heq : ∀ w, (Op.equalIn 10000 70 (.agg #[.int .i64 0, .string x.1, .bool x.2, .int .i64 t]) (.agg #[.int .i64 0, .string x.1, .bool x.2, .int .i64 t])).run Tryz.prog w = .ok true w := fun w => by rw [event_equal]; simp
      have t6 : (0 : Int) ≤ (j : Int) := by omega
      have t7 : (j : Int) < (n : Int) := by omega
      have HJ := Lib.hid hjn
      clear rd rd' hc hc' e0 e1 e2 e3 hx hjn hg hg'
      go_upto_region 6 with (fail)
      go_quiet (fail)
      go_wp2
      go_roundg (n - (j + 1))
      case measure => have := HKK.out; have := HJ.out; omega
      case rel => exact ⟨j + 1, HJ.out, Lib.hid rfl, by go_num, Lib.hid (below_draws HB.out _)⟩
    · have hje : j = n := by omega
      subst hje
      go_wp2
      go_ret
      exact ⟨rfl, HB.out⟩
end Go.Proofs.YtbgcpljekcagiaaGreat
/- The laws of layer 12: fit. -/
namespace Go.Proofs.YtbgcpljekcagiaaGreat
set_option linter.unusedSimpArgs false
set_option linter.unusedVariables false
set_option maxRecDepth 100000
open Go.ChangeShapes Go.WideShapes Go.ChangeAt Go.RowKit
open Ar (inR)
theorem lsum_zeroF (R : RgN) (t : Int) (num : Nat → Int) (s : ByteArray) (a b : Int) : ∀ j, lsum R ⟨t, num, fun _ _ _ => 0⟩ s a b j = 0
  | 0 => rfl
  | j + 1 => by
    unfold lsum
    rw [lsum_zeroF R t num s a b j]
    split
    · rw [show (fun (_ : Nat) (_ : Nat) => (0 : Int)) = (fun _ _ => 0) from rfl, least_zero]; rfl
    · rfl
/-- a ring with nothing in it. -/
theorem est_zeroF {R : RgN} (hs : 1 ≤ R.s) (t : Int) (num : Nat → Int) (s : ByteArray) : estZ R ⟨t, num, fun _ _ _ => 0⟩ s = 0 := by
  unfold estZ eldZ
  simp only [lsum_zeroF]
  have h : leftZ R.s t 0 = 0 := by
    unfold leftZ
    rw [Int.zero_mul, Int.zero_add]
    exact Int.ediv_eq_zero_of_lt (by omega) (by omega)
  cases R.sm
  · rfl
  · simp only [if_true, h]; rfl
section
variable {N : LmN} {X A B : Nat → Nat}
def fitK : KSt := ⟨[], fun j => if j = 0 then some ⟨#[97]⟩ else none⟩
def fitA : LmS := ⟨fitK, [(9, 5, 0, 1)], ⟨5, fun _ => 0, fun _ _ _ => 0⟩, [(⟨#[97]⟩, 1, 0)], 1, 1, 0, 0⟩
theorem fit_one (hp : LmP N 3 10 1 1 10 1 1 1 1 false X A B) : (lmZ 1).check N 5 0 ⟨#[97]⟩ 1 = (fitA, (1, 0, 0), [(⟨#[97]⟩, true)]) := by
  have hu : N.U = 4 := by rw [hp.pU]; decide
  have hr : refZ N 5 0 1 = ((0, 0, 0), false) := by unfold refZ; rw [hp.pB]; decide
  have hs : (lmZ 1).seen N 5 ⟨#[97]⟩ 1 = ⟨kNew 1, [(0, 0, 0, 0)], ⟨5, fun _ => 0, fun _ _ _ => 0⟩, [(⟨#[97]⟩, 1, 0)], 1, 0, 0, 0⟩ := by
    unfold LmS.seen
    rw [hp.pT]
    rw [show offerM 1 (lmZ 1).M (lmZ 1).tot ⟨#[97]⟩ 1 = ([(⟨#[97]⟩, 1, 0)], 1) by decide]
    rfl
  have he := fun s => est_zeroF (R := N.R) (by rw [hp.ps]; decide) 5 (fun _ => 0) s
  have ha : LmS.adm ⟨kNew 1, [(0, 0, 0, 0)], ⟨5, fun _ => 0, fun _ _ _ => 0⟩, [(⟨#[97]⟩, 1, 0)], 1, 0, 0, 0⟩ N 5 ⟨#[97]⟩ = (⟨fitK, [(5, 5, 0, 0)], ⟨5, fun _ => 0, fun _ _ _ => 0⟩, [(⟨#[97]⟩, 1, 0)], 1, 0, 0, 0⟩, [(⟨#[97]⟩, true)]) := by
    unfold LmS.adm LmS.full LmS.put
    rw [hp.pC]
    simp only [he]
    rfl
  have hj : LmS.judge ⟨fitK, [(5, 5, 0, 0)], ⟨5, fun _ => 0, fun _ _ _ => 0⟩, [(⟨#[97]⟩, 1, 0)], 1, 0, 0, 0⟩ N 5 ⟨#[97]⟩ 1 = ((1, 0, 0), ⟨fitK, [(9, 5, 0, 1)], ⟨5, fun _ => 0, fun _ _ _ => 0⟩, [(⟨#[97]⟩, 1, 0)], 1, 0, 0, 0⟩) := by
    unfold LmS.judge
    rw [hp.pC, hu, hp.pW, hp.pB, hp.pL]
    rfl
  unfold LmS.check
  rw [hr, hs, ha]
  simp only [Bool.false_eq_true, if_false]
  rw [hj]
  rfl
theorem fit_two (hp : LmP N 3 10 1 1 10 1 1 1 1 false X A B) : ∃ s r, fitA.check N 5 0 ⟨#[98]⟩ 1 = (s, (1, r, 0), []) ∧ s.al = 2 := by
  have hu : N.U = 4 := by rw [hp.pU]; decide
  have hr : refZ N 5 0 1 = ((0, 0, 0), false) := by unfold refZ; rw [hp.pB]; decide
  have hs : fitA.seen N 5 ⟨#[98]⟩ 1 = ⟨fitK, [(9, 5, 0, 1)], ⟨5, fun _ => 0, fun _ _ _ => 0⟩, [(⟨#[98]⟩, 2, 1)], 2, 1, 0, 0⟩ := by
    unfold LmS.seen
    rw [hp.pT]
    rw [show offerM 1 fitA.M fitA.tot ⟨#[98]⟩ 1 = ([(⟨#[98]⟩, 2, 1)], 2) by decide]
    rfl
  have ha : LmS.adm ⟨fitK, [(9, 5, 0, 1)], ⟨5, fun _ => 0, fun _ _ _ => 0⟩, [(⟨#[98]⟩, 2, 1)], 2, 1, 0, 0⟩ N 5 ⟨#[98]⟩ = (⟨fitK, [(9, 5, 0, 1)], ⟨5, fun _ => 0, fun _ _ _ => 0⟩, [(⟨#[98]⟩, 2, 1)], 2, 1, 0, 0⟩, []) := by
    have hg : LmS.giver ⟨fitK, [(9, 5, 0, 1)], ⟨5, fun _ => 0, fun _ _ _ => 0⟩, [(⟨#[98]⟩, 2, 1)], 2, 1, 0, 0⟩ N 5 ⟨#[98]⟩ = none := by
      unfold LmS.giver LmS.light LmS.res
      rw [hp.pC, hp.pW, hp.pT]
      rfl
    unfold LmS.adm LmS.full
    rw [hp.pC, hg]
    rfl
  have he := est_zeroF (R := N.R) (by rw [hp.ps]; decide) 5 (fun _ => 0) ⟨#[98]⟩
  have hj : ∃ r s, LmS.judge ⟨fitK, [(9, 5, 0, 1)], ⟨5, fun _ => 0, fun _ _ _ => 0⟩, [(⟨#[98]⟩, 2, 1)], 2, 1, 0, 0⟩ N 5 ⟨#[98]⟩ 1 = ((1, r, 0), s) ∧ s.al = 1 ∧ s.de = 0 ∧ s.ba = 0 := by
    unfold LmS.judge
    rw [hp.pC]
    show ∃ r s, (if clamp (estZ N.R ⟨5, fun _ => 0, fun _ _ _ => 0⟩ ⟨#[98]⟩ + 1) ≤ N.L then _ else _) = _ ∧ _
    rw [he, hp.pL]
    exact ⟨_, _, rfl, rfl, rfl, rfl⟩
  obtain ⟨r, s, hj, h1, h2, h3⟩ := hj
  refine ⟨s.count 1, r, ?_, ?_⟩
  · unfold LmS.check
    rw [hr, hs, ha]
    simp only [Bool.false_eq_true, if_false]
    rw [hj]
  · show s.al + 1 = 2
    rw [h1]; rfl
theorem fit_A {w : World} (hA : LmAt w N (lmZ 1)) (hp : LmP N 3 10 1 1 10 1 1 1 1 false X A B) : LmI N (lmZ 1) 0 0 := lmplan_I (a := 2) (b := 9) (c := 0) (d := 0) (e := 0) (f := 0) (g := 0) (h := 0) (sm := false) hA hp
theorem fit_AI (hp : LmP N 3 10 1 1 10 1 1 1 1 false X A B) (h : LmI N (lmZ 1) 0 0) : LmI N fitA 5 2097153 := by
  have h1 := (h.mono (t' := 5) (m' := 0) (by omega) (by omega)).check (by omega) 0 ⟨#[97]⟩ 1
  rw [fit_one hp] at h1
  exact h1
set_option maxHeartbeats 4000000 in
theorem lmfit_any (w : World) : Calls Tryz.prog 15 #[] w fun e w' => e = .returned (.bool true) ∧ Below w.heap.size w w' := by
  have CRu := Lib.hid (fun wx => show Calls Tryz.prog 17 #[planV 2 9 0 0 0 0 0 0 false] wx (fun e w' => e = .returned (rlV 3 10 1 1 1 1 1 1 false) ∧ Below wx.heap.size wx w') from lmrule_any 2 9 0 0 0 0 0 0 false wx)
  have CNw := Lib.hid (fun wx => show Calls Tryz.prog 18 #[rlV 3 10 1 1 1 1 1 1 false, .slice none 0 0] wx (fun v w' => ∃ N : LmN, v = .returned (.pointer (some ⟨N.l, 0, none⟩)) ∧ LmAt w' N (lmZ 1) ∧ LmP N 3 10 1 1 10 1 1 1 1 false (rX []) (rA []) (rB []) ∧ (∀ b, N.all b → wx.heap.size ≤ b) ∧ Below wx.heap.size wx w') from lmplan_new 2 9 0 0 0 0 0 0 false none 0 0 [] wx (rdI_none wx _))
  go_enter Tryz.func15, Tryz.ntmps15
  go_upto_region 2 with (first
    | (go_at_call 17; ((with_reducible refine (CRu.out _).mono ?_); rintro e w1 ⟨rfl, b1⟩; have B1 := Lib.hid b1; clear b1))
    | (go_at_call 18; ((with_reducible refine (CNw.out _).mono ?_); rintro e w2 ⟨N, rfl, a2, p2, n2, b2⟩; have A2 := Lib.hid a2; have P2 := Lib.hid p2; have B2 := Lib.hid (below_in B1.out b2); have NW := Lib.hid (show ∀ b, N.all b → w.heap.size ≤ b from fun b hb => Nat.le_trans B1.out.size (n2 b hb)); have I2 := Lib.hid (fit_A a2 p2); clear a2 p2 n2 b2)))
  clear CRu CNw
  have c1 := lmcheckI (N := N) 5 0 ⟨#[97]⟩ 1 (by show 1 ≤ maxLen; unfold maxLen; omega) (by unfold inR; omega) (by unfold inR; omega) w2 A2.out (I2.out.mono (t' := 5) (m' := 0) (by omega) (by omega)) (by omega)
  rw [fit_one P2.out] at c1
  have C1 := Lib.hid c1
  clear c1
  go_upto_region 4 with (fail)
  go_upto_region 5 with (go_at_call 24; ((with_reducible refine C1.out.mono ?_); rintro e w3 ⟨v3, rfl, o3, a3, f3⟩; obtain ⟨x3, c3, rfl, q1, q2, q3⟩ := G.own_at o3; obtain ⟨g3, rfl, _, hg3, hl3, hc3, _⟩ := q3 (by show 0 < 1; omega); have A3 := Lib.hid a3; have B3 := Lib.hid (show Below w.heap.size w w3 from B2.out.trans (f3.below B2.out.size (fun b hb => NW.out b hb))); have O3 := Lib.hid (show g3 < w3.heap.size ∧ w3.cell? ⟨g3, 2, none⟩ = some (.bool true) ∧ ¬ N.all g3 from ⟨hl3, (hc3 2 (by show 2 < 1 * 4; omega)).trans rfl, fun hb => by have := A2.out.lt _ hb; omega⟩); have Q3 := Lib.hid (And.intro q1 q2); clear a3 f3 o3 q1 q2 q3 hc3 hg3 hl3; obtain ⟨x4, w4, ex4, kr4, kw4, ey4, b4, k4⟩ := box3R w3 40 (.int .i64 0) (.int .i64 0) (.int .i64 0) (.int .i64 1) (.int .i64 0) (.int .i64 0)))
  have H4 := Lib.hid (And.intro (A3.out.keep b4) (And.intro (below_in B3.out b4) (And.intro k4 (And.intro (show ∀ b, N.all b → b < w3.heap.size from fun b hb => A3.out.lt b hb) ((b4.cell (p := ⟨g3, 2, none⟩) O3.out.1).trans O3.out.2.1)))))
  clear ex4 kr4 kw4 ey4 b4 k4
  obtain ⟨b5, hb5⟩ : ∃ x, x = w3.heap.size := ⟨_, rfl⟩
  rw [← hb5] at H4 ⊢
  have HB5 := Lib.hid (show g3 < b5 from by rw [hb5]; exact O3.out.1)
  clear hb5
  have I4 := Lib.hid (fit_AI P2.out I2.out)
  obtain ⟨s6, r6, e6, al6⟩ := fit_two P2.out
  have c2 := lmcheckI (N := N) 5 0 ⟨#[98]⟩ 1 (by show 1 ≤ maxLen; unfold maxLen; omega) (by unfold inR; omega) (by unfold inR; omega) w4 H4.out.1 I4.out (by omega)
  rw [e6] at c2
  have C2 := Lib.hid c2
  have HAL := Lib.hid al6
  clear c2 e6 al6
  go_upto_region 6 with (go_at_call 24; ((with_reducible refine C2.out.mono ?_); rintro e w5 ⟨v5, rfl, o5, a5, f5⟩; obtain ⟨x5, c5, rfl, q1, q2, q3⟩ := G.own_at o5; have A5 := Lib.hid a5; have B5 := Lib.hid (show Below w.heap.size w w5 from H4.out.2.1.trans (f5.below H4.out.2.1.size (fun b hb => NW.out b hb))); clear o5 q1 q2 q3; obtain ⟨x6, w6, ex6, kr6, kw6, ey6, b6, k6⟩ := box3R w5 40 (.int .i64 0) (.int .i64 0) (.int .i64 0) (.int .i64 1) (.int .i64 r6) (.int .i64 0)))
  have K6 := Lib.hid ((H4.out.2.2.1.fr f5 (fun hb => by have := H4.out.2.2.2.1 _ hb; omega)).keep b6)
  have kg : w6.cell? ⟨g3, 2, none⟩ = some (.bool true) := (b6.cell (p := ⟨g3, 2, none⟩) (Nat.lt_of_lt_of_le (Nat.lt_trans HB5.out (lt_of_block H4.out.2.2.1)) f5.size)).trans ((f5.cell (Nat.lt_trans HB5.out (lt_of_block H4.out.2.2.1)) O3.out.2.2).trans H4.out.2.2.2.2)
  have c3' := lmtotals_any w6 (A5.out.keep b6)
  rw [HAL.out] at c3'
  have C3 := Lib.hid c3'
  have B6 := Lib.hid (below_in B5.out b6)
  have k5 := K6.out.rd
  obtain ⟨z1, hz1⟩ : ∃ z, z = s6.de := ⟨_, rfl⟩
  obtain ⟨z2, hz2⟩ : ∃ z, z = s6.ba := ⟨_, rfl⟩
  obtain ⟨z3, hz3⟩ : ∃ z, z = s6.len N := ⟨_, rfl⟩
  obtain ⟨z4, hz4⟩ : ∃ z, z = s6.tot := ⟨_, rfl⟩
  rw [← hz1, ← hz2, ← hz3, ← hz4] at C3
  have hfld : ∀ w, Sem.run Tryz.prog (Instr.field 47 (totV 2 z1 z2 z3 z4) 0) w = .ok (.int .i64 2) w := fun w => rfl
  clear hz1 hz2 hz3 hz4 c3' a5 f5 ex6 kr6 kw6 ey6 b6 k6
  go_wp2_with (go_at_call 27; ((with_reducible refine C3.out.mono ?_); rintro e w7 ⟨rfl, b7⟩; have B7 := Lib.hid (below_in B6.out b7); clear b7))
  go_ret
  exact ⟨rfl, B7.out⟩
end
end Go.Proofs.YtbgcpljekcagiaaGreat
/- The laws of layer 12: what answers tell. -/
namespace Go.Proofs.YtbgcpljekcagiaaGreat
set_option linter.unusedSimpArgs false
set_option linter.unusedVariables false
set_option maxRecDepth 100000
open Go.ChangeShapes Go.WideShapes Go.ChangeAt Go.RowKit
open Ar (inR)
/-- what of a limiter's numbers its answers ask for. -/
structure LmB (N : LmN) : Prop where
  BL : N.B ≤ N.L
  RL : N.R.L = N.L
  ns : (N.R.n : Int) * (N.R.s : Int) ≤ 1152921504606846976
section
variable {N : LmN} {s : LmS} {now m cost : Int}
/-- an answer to a cost that may be. -/
def AnsOK (B cost : Int) (a : Int × Int × Int) : Prop := ((a.1 = 1 ∧ a.2.2 = 0) ∨ (a.1 = 2 ∧ 1 ≤ a.2.2 ∧ a.2.1 < cost)) ∧ 0 ≤ a.2.1 ∧ a.2.1 ≤ B
theorem LmI.wait (h : LmI N s now m) (hb : LmB N) (key : ByteArray) (hc : 1 ≤ cost ∧ cost ≤ N.B) :
    0 ≤ waitR N.R s.r key cost ∧ (waitR N.R s.r key cost = 0 ↔ estZ N.R s.r key + cost ≤ N.L) := by
  obtain ⟨w, hw⟩ := h.rg
  have hm := h.m
  have hB := h.B
  have ht := h.t1
  have h0 := h.t0
  have hl := hb.BL
  have hns := hb.ns
  have hrl := hb.RL
  have hf := wait_facts (s := key) hw h.few (c := cost) (by omega) (by omega) (by omega)
  rcases hf with ⟨h1, h2⟩ | ⟨h1, nx, _, _, _, h2, _⟩
  · rw [h2]; omega
  · omega
theorem clamp_le (a : Int) {L : Int} (ha : 0 ≤ a) (hL : L < 9223372036854775807) : clamp a ≤ L ↔ a ≤ L := by
  unfold clamp
  split
  · omega
  · split <;> omega
theorem LmI.peek_ok (h : LmI N s now m) (hb : LmB N) (key : ByteArray) (hc : 1 ≤ cost ∧ cost ≤ N.B) (hn : now < 4611686018427387904) :
    AnsOK N.B cost (s.peek N now 0 key cost) ∧ ((s.peek N now 0 key cost).1 = 1 → cost ≤ (s.peek N now 0 key cost).2.1) := by
  have hr : (refZ N now 0 cost).2 = false := by
    unfold refZ
    rw [if_neg (by omega), if_neg (by omega), if_neg (by omega)]
  have ht := h.to
  have hB := h.B
  have hU := h.U.1
  have hW := h.W.1
  unfold LmS.peek
  rw [hr]
  simp only [Bool.false_eq_true, if_false]
  cases hs : ({ s with r := ⟨max s.r.t now, s.r.num, s.r.F⟩ } : LmS).resi N now key with
  | some c =>
    have f := cwait_facts (F := c.1) (S := c.2.1) (C := c.2.2.1) (D := c.2.2.2) (L := N.L) (t := now) hU hW hc rfl
    have r1 := room_lo c.1 c.2.1 c.2.2.1 c.2.2.2 N.U N.W N.B N.L now
    have r2 := room_hi (F := c.1) (S := c.2.1) (C := c.2.2.1) (D := c.2.2.2) (U := N.U) (W := N.W) (L := N.L) (t := now) (show 0 ≤ N.B by omega)
    dsimp only
    show AnsOK N.B cost (if waitP c.1 c.2.1 c.2.2.1 c.2.2.2 N.U N.W N.B N.L now cost = 0 then 1 else 2, roomP c.1 c.2.1 c.2.2.1 c.2.2.2 N.U N.W N.B N.L now, waitP c.1 c.2.1 c.2.2.1 c.2.2.2 N.U N.W N.B N.L now cost) ∧ ((if waitP c.1 c.2.1 c.2.2.1 c.2.2.2 N.U N.W N.B N.L now cost = 0 then (1 : Int) else 2) = 1 → cost ≤ roomP c.1 c.2.1 c.2.2.1 c.2.2.2 N.U N.W N.B N.L now)
    generalize waitP c.1 c.2.1 c.2.2.1 c.2.2.2 N.U N.W N.B N.L now cost = wt at *
    generalize roomP c.1 c.2.1 c.2.2.1 c.2.2.2 N.U N.W N.B N.L now = rm at *
    unfold AnsOK
    dsimp only
    by_cases hz : wt = 0
    · rw [if_pos hz]
      exact ⟨⟨Or.inl ⟨rfl, hz⟩, r1, r2⟩, fun _ => f.2.1.1 hz⟩
    · rw [if_neg hz]
      exact ⟨⟨Or.inr ⟨rfl, by omega, by have := fun g => hz (f.2.1.2 g); omega⟩, r1, r2⟩, fun g => absurd g (by decide)⟩
  | none =>
    have f := ht.wait hb key hc
    have he := ht.est key
    dsimp only at f he ⊢
    unfold LmS.left
    dsimp only
    generalize waitR N.R ⟨max s.r.t now, s.r.num, s.r.F⟩ key cost = wt at *
    generalize estZ N.R ⟨max s.r.t now, s.r.num, s.r.F⟩ key = es at *
    unfold AnsOK
    dsimp only
    by_cases hz : wt = 0
    · rw [if_pos hz]
      have := f.2.1 hz
      exact ⟨⟨Or.inl ⟨rfl, hz⟩, by omega, by omega⟩, fun _ => by omega⟩
    · rw [if_neg hz]
      have := fun g => hz (f.2.2 g)
      exact ⟨⟨Or.inr ⟨rfl, by omega, by omega⟩, by omega, by omega⟩, fun g => absurd g (by decide)⟩
theorem LmI.judge_ok (h : LmI N s now m) (hb : LmB N) (key : ByteArray) (hc : 1 ≤ cost ∧ cost ≤ N.B) : AnsOK N.B cost (s.judge N now key cost).1 := by
  have hB := h.B
  have hU := h.U.1
  have hW := h.W.1
  unfold LmS.judge
  split
  · rename_i i hi
    generalize s.C.getD i (0, 0, 0, 0) = c
    split
    · have r1 := room_lo (celT c N.U now cost).1 (celT c N.U now cost).2.1 (celT c N.U now cost).2.2.1 (celT c N.U now cost).2.2.2 N.U N.W N.B N.L now
      have r2 := room_hi (F := (celT c N.U now cost).1) (S := (celT c N.U now cost).2.1) (C := (celT c N.U now cost).2.2.1) (D := (celT c N.U now cost).2.2.2) (U := N.U) (W := N.W) (L := N.L) (t := now) (show 0 ≤ N.B by omega)
      exact ⟨Or.inl ⟨rfl, rfl⟩, r1, r2⟩
    · rename_i hle
      have f := cwait_facts (F := c.1) (S := c.2.1) (C := c.2.2.1) (D := c.2.2.2) (L := N.L) (t := now) hU hW hc rfl
      have r1 := room_lo c.1 c.2.1 c.2.2.1 c.2.2.2 N.U N.W N.B N.L now
      have r2 := room_hi (F := c.1) (S := c.2.1) (C := c.2.2.1) (D := c.2.2.2) (U := N.U) (W := N.W) (L := N.L) (t := now) (show 0 ≤ N.B by omega)
      have hle : ¬ cost ≤ roomP c.1 c.2.1 c.2.2.1 c.2.2.2 N.U N.W N.B N.L now := hle
      have h1 : ¬ waitP c.1 c.2.1 c.2.2.1 c.2.2.2 N.U N.W N.B N.L now cost = 0 := fun g => hle (f.2.1.1 g)
      have h2 := f.1
      exact ⟨Or.inr ⟨rfl, by show 1 ≤ waitP c.1 c.2.1 c.2.2.1 c.2.2.2 N.U N.W N.B N.L now cost; omega, Int.not_le.1 hle⟩, r1, r2⟩
  · have hL := h.L
    have he := h.est key
    have hcl := clamp_le (estZ N.R s.r key + cost) (L := N.L) (by omega) (by omega)
    split
    · unfold LmS.left
      dsimp only
      generalize estZ N.R (s.r.add N.R key cost) key = es
      exact ⟨Or.inl ⟨rfl, rfl⟩, by dsimp only; omega, by dsimp only; omega⟩
    · rename_i hle
      have f := h.wait hb key hc
      unfold LmS.left
      dsimp only
      have hle : ¬ estZ N.R s.r key + cost ≤ N.L := fun g => hle (hcl.2 g)
      have h1 : ¬ waitR N.R s.r key cost = 0 := fun g => hle (f.2.1 g)
      generalize estZ N.R s.r key = es at *
      generalize waitR N.R s.r key cost = wt at *
      exact ⟨Or.inr ⟨rfl, by dsimp only; omega, by dsimp only; omega⟩, by dsimp only; omega, by dsimp only; omega⟩
theorem refZ_ok (hc : 1 ≤ cost ∧ cost ≤ N.B) (hn : now < 4611686018427387904) : refZ N now 0 cost = ((0, 0, 0), false) := by
  unfold refZ
  rw [if_neg (by omega), if_neg (by omega), if_neg (by omega)]
theorem LmI.check_ok (h : LmI N s now m) (hb : LmB N) (hm : m + 2097153 ≤ 576460752303423488) (key : ByteArray) (hc : 1 ≤ cost ∧ cost ≤ N.B) (hn : now < 4611686018427387904) : AnsOK N.B cost (s.check N now 0 key cost).2.1 := by
  unfold LmS.check
  rw [refZ_ok hc hn]
  simp only [Bool.false_eq_true, if_false]
  exact ((h.seen key cost).adm (by omega) key).judge_ok hb key hc
end
end Go.Proofs.YtbgcpljekcagiaaGreat
/- The laws of layer 12: a limiter of the law's own. -/
namespace Go.Proofs.YtbgcpljekcagiaaGreat
set_option linter.unusedSimpArgs false
set_option linter.unusedVariables false
set_option maxRecDepth 100000
open Go.ChangeShapes Go.WideShapes Go.ChangeAt Go.RowKit
open Ar (inR)
structure LmLaw (W w : World) (N : LmN) (s : LmS) (t m : Int) : Prop where
  at_ : LmAt w N s
  I : LmI N s t m
  lo : ∀ b, N.all b → W.heap.size ≤ b
  bl : Below W.heap.size W w
section
variable {W w w' : World} {N : LmN} {s s' : LmS} {t t' m m' : Int}
theorem LmLaw.keep (h : LmLaw W w N s t m) (hb : Below w.heap.size w w') : LmLaw W w' N s t m := ⟨h.at_.keep hb, h.I, h.lo, below_in h.bl hb⟩
theorem LmLaw.op {F : Nat → Prop} (h : LmLaw W w N s t m) (h1 : LmAt w' N s') (hI : LmI N s' t' m') (hf : Fr F w w') (hF : ∀ b, F b → N.all b) : LmLaw W w' N s' t' m' := ⟨h1, hI, h.lo, h.bl.trans (hf.below h.bl.size (fun b hb => h.lo b (hF b hb)))⟩
theorem LmLaw.mono (h : LmLaw W w N s t m) (ht : t ≤ t' ∧ t' ≤ 4611686018427387904) (hm : m ≤ m' ∧ m' ≤ 576460752303423488) : LmLaw W w N s t' m' := ⟨h.at_, h.I.mono ht hm, h.lo, h.bl⟩
theorem LmLaw.ne (h : LmLaw W w N s t m) {b : Nat} (hb : w.heap.size ≤ b) : ¬ N.all b := fun g => by have := h.at_.lt b g; omega
end
/-- what the laws know of a plan's limiter. -/
theorem lmplan_B {N : LmN} {a b c d e f g h : Int} {sm : Bool} {X A B : Nat → Nat} (hp : LmP N (lqL a) ((lqS b * lqN d : Nat) : Int) (lqB a c) (lqN d) (lqS b) (lqR f) (lqW g) (lqC e) (lqT h) sm X A B) : LmB N ∧ N.B = lqB a c ∧ 1 ≤ lqB a c ∧ lqB a c ≤ 32 := by
  have h1 : 1 ≤ lqN d ∧ lqN d ≤ 8 := by unfold lqN; omega
  have h2 : 1 ≤ lqS b ∧ lqS b ≤ 32 := by unfold lqS; omega
  have h7 : 1 ≤ lqL a ∧ lqL a ≤ 32 := by unfold lqL; omega
  have hm : (lqN d + 1) * lqS b ≤ 9 * 32 := Nat.mul_le_mul (by omega) h2.2
  have hB := lqB_bd a c
  refine ⟨⟨?_, ?_, ?_⟩, hp.pB, hB.1, by omega⟩
  · rw [hp.pB, hp.pL]; exact hB.2
  · rw [hp.pRL, hp.pL]
  · rw [hp.pn, hp.ps, ← Int.natCast_mul]; omega
/-- a call's answer, laid in a box. -/
theorem boxA (X : World) (a b c : Int) : ∃ w1 w2, X.alloc (.cells #[.int .i64 0, .int .i64 0, .int .i64 0] 40) = w1 ∧
    (∀ j, w1.cell? ⟨X.heap.size, j, none⟩ = (#[.int .i64 0, .int .i64 0, .int .i64 0] : Array Value)[j]?) ∧ (∀ j, w1.frozen? ⟨X.heap.size, j, none⟩ = false) ∧
    ((w1.setCell ⟨X.heap.size, 0, none⟩ (.int .i64 a)).setCell ⟨X.heap.size, 1, none⟩ (.int .i64 b)).setCell ⟨X.heap.size, 2, none⟩ (.int .i64 c) = w2 ∧
    Below X.heap.size X w2 ∧ Blk w2 X.heap.size 40 #[.int .i64 a, .int .i64 b, .int .i64 c] := box3R X 40 _ _ _ _ _ _
end Go.Proofs.YtbgcpljekcagiaaGreat
/- The laws of layer 12: what rows have at least; limiters of one rule; peeks of residents. -/
namespace Go.Proofs.YtbgcpljekcagiaaGreat
set_option linter.unusedSimpArgs false
set_option linter.unusedVariables false
set_option maxRecDepth 100000
open Go.ChangeShapes Go.WideShapes Go.ChangeAt Go.RowKit
open Ar (inR)
theorem msum_le {R : RgN} {σ : RgS} {m : Int} (hm : 0 ≤ m ∧ m ≤ 100000000000000000) (hF : ∀ i j p, σ.F i j p ≤ m) (row : Int) (s : ByteArray) (a : Int) : ∀ j : Nat, j ≤ 65 → (∀ i, i < j → Sk.okC (σ.F i)) → msum R σ row s a j ≤ j * m
  | 0, _, _ => by show (0 : Int) ≤ _; simp
  | j + 1, hj, h => by
    have ih := msum_le (R := R) hm hF row s a j (by omega) (fun i hi => h i (by omega))
    have hin := msum_in (R := R) (σ := σ) (j := j) (fun i hi => h i (by omega)) row s a
    have hc := cntZ_in (R := R) (h j (by omega)) row s
    have hcm : cntZ R (σ.F j) row s ≤ m := by
      unfold cntZ
      split
      · exact hF _ _ _
      · exact hm.1
    have hjm : (j : Int) * m ≤ 64 * m := Int.mul_le_mul_of_nonneg_right (by omega) hm.1
    have e : ((j + 1 : Nat) : Int) * m = (j : Int) * m + m := by rw [show ((j + 1 : Nat) : Int) = (j : Int) + 1 by omega, Int.add_mul]; omega
    rw [e]
    unfold msum
    split
    · rw [clamp_nn (by omega)]; omega
    · omega
/-- two rings of one rule and one row of functions. -/
structure RgE (R1 R2 : RgN) : Prop where
  n : R1.n = R2.n
  s : R1.s = R2.s
  rl : R1.L = R2.L
  sm : R1.sm = R2.sm
  k : R1.k = R2.k
  w : R1.W = R2.W
  x : R1.X = R2.X
  a : R1.A = R2.A
  b : R1.B = R2.B
section
variable {R1 R2 : RgN}
theorem RgE.P (h : RgE R1 R2) : R1.P = R2.P := by unfold RgN.P; rw [h.w, h.x, h.a, h.b]
theorem RgE.now (h : RgE R1 R2) (σ : RgS) : σ.now R1 = σ.now R2 := by unfold RgS.now; rw [h.s]
theorem RgE.lsum (h : RgE R1 R2) (σ : RgS) (s : ByteArray) (a b : Int) : ∀ j, lsum R1 σ s a b j = lsum R2 σ s a b j
  | 0 => rfl
  | j + 1 => by
    unfold Go.Proofs.YtbgcpljekcagiaaGreat.lsum
    rw [RgE.lsum h σ s a b j, h.P, h.k]
theorem RgE.est (h : RgE R1 R2) (σ : RgS) (s : ByteArray) : estZ R1 σ s = estZ R2 σ s := by
  unfold estZ eldZ
  simp only [h.lsum, h.now, h.n, h.sm, h.s]
theorem RgE.room (h : RgE R1 R2) (σ : RgS) (s : ByteArray) (c x : Int) : roomAt R1 σ s c x ↔ roomAt R2 σ s c x := by
  unfold roomAt
  simp only [h.lsum, h.now, h.n, h.rl]
theorem RgE.next (h : RgE R1 R2) (σ : RgS) (s : ByteArray) (c : Int) : ∀ (j : Nat) (x : Int), nextR R1 σ s c j x = nextR R2 σ s c j x
  | 0, _ => rfl
  | j + 1, x => by
    unfold nextR
    rw [RgE.next h σ s c j (x + 1)]
    by_cases hr : roomAt R1 σ s c x
    · rw [if_pos hr, if_pos ((h.room σ s c x).1 hr)]
    · rw [if_neg hr, if_neg (fun g => hr ((h.room σ s c x).2 g))]
theorem RgE.wait (h : RgE R1 R2) (σ : RgS) (s : ByteArray) (c : Int) : waitR R1 σ s c = waitR R2 σ s c := by
  unfold waitR
  simp only [h.est, h.next, h.now, h.n, h.rl, h.s]
theorem RgE.add (h : RgE R1 R2) (σ : RgS) (s : ByteArray) (c : Int) : σ.add R1 s c = σ.add R2 s c := by
  unfold RgS.add RgS.pl
  rw [h.now, h.n, h.P, h.k]
end
/-- two limiters of one rule and one pair of draws. -/
structure LmE (N1 N2 : LmN) : Prop where
  U : N1.U = N2.U
  W : N1.W = N2.W
  B : N1.B = N2.B
  L : N1.L = N2.L
  q : N1.Q.N.n = N2.Q.N.n
  t : N1.S.N.n = N2.S.N.n
  n : N1.R.n = N2.R.n
  s : N1.R.s = N2.R.s
  rl : N1.R.L = N2.R.L
  sm : N1.R.sm = N2.R.sm
  k : N1.R.k = N2.R.k
  rw_ : N1.R.W = N2.R.W
  x : N1.R.X = N2.R.X
  a : N1.R.A = N2.R.A
  b : N1.R.B = N2.R.B
section
variable {N1 N2 : LmN}
theorem LmE.r (h : LmE N1 N2) : RgE N1.R N2.R := ⟨h.n, h.s, h.rl, h.sm, h.k, h.rw_, h.x, h.a, h.b⟩
theorem LmE.ref (h : LmE N1 N2) (now held cost : Int) : refZ N1 now held cost = refZ N2 now held cost := by unfold refZ; rw [h.B]
theorem LmE.left (h : LmE N1 N2) (s : LmS) (key : ByteArray) : s.left N1 key = s.left N2 key := by unfold LmS.left; rw [h.L, h.B, h.r.est]
theorem LmE.judge (h : LmE N1 N2) (s : LmS) (now : Int) (key : ByteArray) (cost : Int) : s.judge N1 now key cost = s.judge N2 now key cost := by
  unfold LmS.judge
  simp only [h.q, h.U, h.W, h.B, h.L, h.r.est, h.r.add, h.r.wait, h.left]
theorem LmE.res (h : LmE N1 N2) (s : LmS) : s.res N1 = s.res N2 := by unfold LmS.res; rw [h.q]
theorem LmE.giver (h : LmE N1 N2) (s : LmS) (now : Int) (key : ByteArray) : s.giver N1 now key = s.giver N2 now key := by
  unfold LmS.giver LmS.light
  have ht : N1.S.N.n = N2.S.N.n := h.t
  simp only [h.res, h.W, ht]
theorem LmE.evict (h : LmE N1 N2) (s : LmS) (now : Int) (key : ByteArray) : s.evict N1 now key = s.evict N2 now key := by
  unfold LmS.evict
  simp only [h.q, h.U, h.W, h.L, h.r.add]
theorem LmE.put (h : LmE N1 N2) (s : LmS) (now : Int) (key : ByteArray) : s.put N1 now key = s.put N2 now key := by
  unfold LmS.put
  simp only [h.q, h.r.est]
theorem LmE.adm (h : LmE N1 N2) (s : LmS) (now : Int) (key : ByteArray) : s.adm N1 now key = s.adm N2 now key := by
  unfold LmS.adm LmS.full
  simp only [h.q, h.giver, h.evict, h.put]
theorem LmE.seen (h : LmE N1 N2) (s : LmS) (now : Int) (key : ByteArray) (cost : Int) : s.seen N1 now key cost = s.seen N2 now key cost := by
  unfold LmS.seen
  rw [h.t]
theorem LmE.check (h : LmE N1 N2) (s : LmS) (now held : Int) (key : ByteArray) (cost : Int) : s.check N1 now held key cost = s.check N2 now held key cost := by
  unfold LmS.check
  rw [h.ref, h.seen, h.adm, h.judge]
theorem LmE.resi (h : LmE N1 N2) (s : LmS) (now : Int) (key : ByteArray) : s.resi N1 now key = s.resi N2 now key := by
  unfold LmS.resi LmS.full
  simp only [h.q, h.res, h.W, h.r.est]
theorem LmE.peek (h : LmE N1 N2) (s : LmS) (now held : Int) (key : ByteArray) (cost : Int) : s.peek N1 now held key cost = s.peek N2 now held key cost := by
  unfold LmS.peek
  simp only [h.ref, h.resi, h.U, h.W, h.B, h.L, h.r.wait, h.left]
theorem LmE.len (h : LmE N1 N2) (s : LmS) : s.len N1 = s.len N2 := by unfold LmS.len; rw [h.q]
end
/-- what two limiters that were made alike have of one rule. -/
theorem LmP.same {N1 N2 : LmN} {L Wd Bu : Int} {Sl s k W Ce Tr : Nat} {sm : Bool} {X A B : Nat → Nat} (h1 : LmP N1 L Wd Bu Sl s k W Ce Tr sm X A B) (h2 : LmP N2 L Wd Bu Sl s k W Ce Tr sm X A B) : LmE N1 N2 :=
  ⟨h1.pU.trans h2.pU.symm, h1.pW.trans h2.pW.symm, h1.pB.trans h2.pB.symm, h1.pL.trans h2.pL.symm, h1.pC.trans h2.pC.symm, h1.pT.trans h2.pT.symm, h1.pn.trans h2.pn.symm, h1.ps.trans h2.ps.symm, h1.pRL.trans h2.pRL.symm, h1.psm.trans h2.psm.symm, h1.pk.trans h2.pk.symm, h1.pRW.trans h2.pRW.symm, h1.pX.trans h2.pX.symm, h1.pA.trans h2.pA.symm, h1.pRB.trans h2.pRB.symm⟩
/-! #### what a key without a cell is answered -/
section
variable {N : LmN} {s : LmS} {now m cost : Int}
theorem admit_none {key : ByteArray} (h : (s.adm N now key).2 = []) : (s.adm N now key).1 = s := by
  unfold LmS.adm at *
  by_cases h1 : (posN N.Q.N.n s.σ.K key).isSome = true ∨ 64 < key.size
  · rw [if_pos h1]
  · rw [if_neg h1] at h ⊢
    by_cases h2 : s.full N = true
    · rw [if_pos h2] at h ⊢
      cases ho : s.giver N now key with
      | none => rfl
      | some o => rw [ho] at h; cases h
    · rw [if_neg h2] at h
      cases h
theorem count_σ (v : Int) : (s.count v).σ = s.σ := by
  unfold LmS.count
  split
  · rfl
  · split
    · rfl
    · split <;> rfl
theorem judge_σ (key : ByteArray) : (s.judge N now key cost).2.σ = s.σ := by
  unfold LmS.judge
  split
  · split <;> rfl
  · split <;> rfl
theorem seen_σ (key : ByteArray) : (s.seen N now key cost).σ = s.σ := rfl
/-- a key that got no cell, and has none, is allowed what finds room in the ring. -/
theorem LmI.rows_ok (h : LmI N s now m) (hc : 1 ≤ cost ∧ cost ≤ N.B) (hn : now < 4611686018427387904) (key : ByteArray) (hev : (s.check N now 0 key cost).2.2 = []) (hno : (s.check N now 0 key cost).1.cellOf N key = none) (hfit : estZ N.R ⟨max s.r.t now, s.r.num, s.r.F⟩ key + cost ≤ N.L) : (s.check N now 0 key cost).2.1.1 = 1 := by
  unfold LmS.check at *
  rw [refZ_ok hc hn] at hev hno ⊢
  simp only [Bool.false_eq_true, if_false] at hev hno ⊢
  have ha := admit_none hev
  rw [ha] at hno ⊢
  unfold LmS.cellOf at hno
  rw [count_σ, judge_σ, seen_σ, Option.map_eq_none_iff] at hno
  have hB := h.B
  have hL := h.L
  have he := h.to.est key
  dsimp only at he
  unfold LmS.judge
  rw [seen_σ, hno]
  have hcl : clamp (estZ N.R (s.seen N now key cost).r key + cost) ≤ N.L := (clamp_le _ (by show 0 ≤ estZ N.R ⟨max s.r.t now, s.r.num, s.r.F⟩ key + cost; omega) (by omega)).2 hfit
  simp only [hcl, if_true]
end
end Go.Proofs.YtbgcpljekcagiaaGreat
/- The laws of layer 12: two limiters; what peeks leave and tell. -/
namespace Go.Proofs.YtbgcpljekcagiaaGreat
set_option linter.unusedSimpArgs false
set_option linter.unusedVariables false
set_option maxRecDepth 100000
open Go.ChangeShapes Go.WideShapes Go.ChangeAt Go.RowKit
open Ar (inR)
/-- two limiters of the law's own. -/
structure LmTwo (W w : World) (N1 N2 : LmN) (s1 s2 : LmS) (t1 t2 m : Int) : Prop where
  a : LmLaw W w N1 s1 t1 m
  b : LmLaw W w N2 s2 t2 m
  ap : ∀ k, N1.all k → ¬ N2.all k
section
variable {W w w' : World} {N1 N2 : LmN} {s1 s2 s' : LmS} {t1 t2 t1' t2' m m' : Int}
theorem LmTwo.keep (h : LmTwo W w N1 N2 s1 s2 t1 t2 m) (hb : Below w.heap.size w w') : LmTwo W w' N1 N2 s1 s2 t1 t2 m := ⟨h.a.keep hb, h.b.keep hb, h.ap⟩
theorem LmTwo.mono (h : LmTwo W w N1 N2 s1 s2 t1 t2 m) (ht1 : t1 ≤ t1' ∧ t1' ≤ 4611686018427387904) (ht2 : t2 ≤ t2' ∧ t2' ≤ 4611686018427387904) (hm : m ≤ m' ∧ m' ≤ 576460752303423488) : LmTwo W w N1 N2 s1 s2 t1' t2' m' := ⟨h.a.mono ht1 hm, h.b.mono ht2 hm, h.ap⟩
theorem LmTwo.op1 {F : Nat → Prop} (h : LmTwo W w N1 N2 s1 s2 t1 t2 m) (h1 : LmAt w' N1 s') (hI : LmI N1 s' t1' m') (hm : m ≤ m') (hf : Fr F w w') (hF : ∀ b, F b → N1.all b) : LmTwo W w' N1 N2 s' s2 t1' t2 m' :=
  ⟨h.a.op h1 hI hf hF, ⟨h.b.at_.fr hf (fun k hk hk1 => h.ap k (hF k hk1) hk), h.b.I.mono ⟨Int.le_refl _, h.b.I.t0.2⟩ ⟨hm, hI.m.2⟩, h.b.lo, h.b.bl.trans (hf.below h.b.bl.size (fun b hb => h.a.lo b (hF b hb)))⟩, h.ap⟩
theorem LmTwo.op2 {F : Nat → Prop} (h : LmTwo W w N1 N2 s1 s2 t1 t2 m) (h1 : LmAt w' N2 s') (hI : LmI N2 s' t2' m') (hm : m ≤ m') (hf : Fr F w w') (hF : ∀ b, F b → N2.all b) : LmTwo W w' N1 N2 s1 s' t1 t2' m' :=
  ⟨⟨h.a.at_.fr hf (fun k hk hk1 => h.ap k hk (hF k hk1)), h.a.I.mono ⟨Int.le_refl _, h.a.I.t0.2⟩ ⟨hm, hI.m.2⟩, h.a.lo, h.a.bl.trans (hf.below h.a.bl.size (fun b hb => h.b.lo b (hF b hb)))⟩, h.b.op h1 hI hf hF, h.ap⟩
end
theorem answer_equal (a b c a' b' c' : Int) (w : World) :
    (Op.equalIn 10000 40 (.agg #[.int .i64 a, .int .i64 b, .int .i64 c]) (.agg #[.int .i64 a', .int .i64 b', .int .i64 c'])).run Tryz.prog w = .ok (decide (a = a' ∧ b = b' ∧ c = c')) w := by
  have hS : Tryz.prog.underlying 40 = some (.struct (Tryz.prog.fieldsOf 40)) := by kernel_rfl
  have hp : Tryz.prog.stoodInHeld 40 = false := by kernel_rfl
  rw [show (10000 : Nat) = 9999 + 1 from rfl, run_equalIn_agg w 9999 40 _ _ hS hp]
  simp only [Program.fieldsOf, Tryz.underlying40]
  go_simp
  by_cases h1 : a = a' <;> by_cases h2 : b = b' <;> by_cases h3 : c = c' <;> simp [h1, h2, h3]
theorem totals_equal (a b c d e a' b' c' d' e' : Int) (w : World) :
    (Op.equalIn 10000 47 (.agg #[.int .i64 a, .int .i64 b, .int .i64 c, .int .i64 d, .int .i64 e]) (.agg #[.int .i64 a', .int .i64 b', .int .i64 c', .int .i64 d', .int .i64 e'])).run Tryz.prog w = .ok (decide (a = a' ∧ b = b' ∧ c = c' ∧ d = d' ∧ e = e')) w := by
  have hS : Tryz.prog.underlying 47 = some (.struct (Tryz.prog.fieldsOf 47)) := by kernel_rfl
  have hp : Tryz.prog.stoodInHeld 47 = false := by kernel_rfl
  rw [show (10000 : Nat) = 9999 + 1 from rfl, run_equalIn_agg w 9999 47 _ _ hS hp]
  simp only [Program.fieldsOf, Tryz.underlying47]
  go_simp
  by_cases h1 : a = a' <;> by_cases h2 : b = b' <;> by_cases h3 : c = c' <;> by_cases h4 : d = d' <;> by_cases h5 : e = e' <;> simp [h1, h2, h3, h4, h5]
/-- a limiter whose ring's time is another. -/
def LmS.at (s : LmS) (x : Int) : LmS := { s with r := ⟨x, s.r.num, s.r.F⟩ }
section
variable {N : LmN} {s : LmS} {now m cost x : Int}
theorem at_self : s.at s.r.t = s := rfl
theorem at_at (y : Int) : (s.at x).at y = s.at y := rfl
theorem seen_at (hx : x ≤ now) (hs : s.r.t ≤ now) (key : ByteArray) : (s.at x).seen N now key cost = s.seen N now key cost := by
  unfold LmS.seen LmS.at
  dsimp only
  rw [show max x now = max s.r.t now by omega]
theorem count_at (v : Int) : (s.at x).count v = (s.count v).at x := by
  unfold LmS.count
  split
  · rfl
  · split
    · rfl
    · split <;> rfl
theorem count_t (v : Int) : (s.count v).r = s.r := by
  unfold LmS.count
  split
  · rfl
  · split
    · rfl
    · split <;> rfl
theorem judge_t (key : ByteArray) : (s.judge N now key cost).2.r.t = s.r.t := by
  unfold LmS.judge
  split
  · split <;> rfl
  · split <;> rfl
theorem admit_t (key : ByteArray) : (s.adm N now key).1.r.t = s.r.t := by
  unfold LmS.adm
  split
  · rfl
  · split
    · split <;> rfl
    · rfl
theorem check_t (key : ByteArray) (held : Int) : (s.check N now held key cost).1.r.t = if (refZ N now held cost).2 = true then s.r.t else max s.r.t now := by
  unfold LmS.check
  split
  · rw [count_t]
  · rw [count_t, judge_t, admit_t]; rfl
/-- the ring's time plays no part in a check, if it isn't later. -/
theorem check_at (hx : s.r.t ≤ x ∧ x ≤ now) (held : Int) (key : ByteArray) :
    ((s.at x).check N now held key cost).2 = (s.check N now held key cost).2 ∧ ∃ y, ((s.at x).check N now held key cost).1 = ((s.check N now held key cost).1).at y ∧ (s.check N now held key cost).1.r.t ≤ y ∧ y ≤ now := by
  by_cases hr : (refZ N now held cost).2 = true
  · unfold LmS.check
    rw [if_pos hr, if_pos hr]
    refine ⟨rfl, x, count_at _, ?_, hx.2⟩
    rw [count_t]; exact hx.1
  · have e : (s.at x).check N now held key cost = s.check N now held key cost := by
      unfold LmS.check
      rw [if_neg hr, if_neg hr, seen_at hx.2 (by omega)]
    rw [e]
    refine ⟨rfl, (s.check N now held key cost).1.r.t, rfl, Int.le_refl _, ?_⟩
    rw [check_t, if_neg hr]
    omega
theorem peek_at (hx : s.r.t ≤ x ∧ x ≤ now) (held : Int) (key : ByteArray) : (s.at x).peek N now held key cost = s.peek N now held key cost := by
  unfold LmS.peek LmS.at
  dsimp only
  rw [show max x now = max s.r.t now by omega]
theorem peeked_at (held : Int) : ∃ y, s.peeked N now held cost = s.at y ∧ s.r.t ≤ y ∧ (s.r.t ≤ now → y ≤ now) := by
  unfold LmS.peeked
  split
  · exact ⟨s.r.t, rfl, Int.le_refl _, fun h => h⟩
  · exact ⟨max s.r.t now, rfl, by omega, fun h => by omega⟩
/-- what a peek at a resident tells, a check is told. -/
theorem peek_check (hU : 1 ≤ N.U) (hW : 1 ≤ N.W) (hn : s.r.t ≤ now) {key : ByteArray} (hres : (s.cellOf N key).isSome = true) :
    (s.check N now 0 key cost).2.1.1 = (s.peek N now 0 key cost).1 ∧ (s.check N now 0 key cost).2.1.2.2 = (s.peek N now 0 key cost).2.2 ∧ ((s.check N now 0 key cost).2.1.1 = 2 → (s.check N now 0 key cost).2.1.2.1 = (s.peek N now 0 key cost).2.1) := by
  unfold LmS.check LmS.peek
  by_cases hr : (refZ N now 0 cost).2 = true
  · rw [if_pos hr, if_pos hr]
    exact ⟨rfl, rfl, fun _ => rfl⟩
  · rw [if_neg hr, if_neg hr]
    have hc := refZ_no N now 0 cost (by cases hq : (refZ N now 0 cost).2; rfl; exact absurd hq hr)
    unfold LmS.cellOf at hres
    rw [Option.isSome_map] at hres
    obtain ⟨i, hi⟩ := Option.isSome_iff_exists.1 hres
    have ha : (s.seen N now key cost).adm N now key = (s.seen N now key cost, []) := by
      unfold LmS.adm
      rw [if_pos (Or.inl (by rw [seen_σ, hi]; rfl))]
    have hrs : ({ s with r := ⟨max s.r.t now, s.r.num, s.r.F⟩ } : LmS).resi N now key = some (s.C.getD i (0, 0, 0, 0)) := by
      unfold LmS.resi
      dsimp only
      rw [hi]
    rw [ha, hrs]
    dsimp only
    unfold LmS.judge
    rw [seen_σ, hi]
    dsimp only
    show _
    have hC : (s.seen N now key cost).C = s.C := rfl
    rw [hC]
    generalize s.C.getD i (0, 0, 0, 0) = c
    have f := cwait_facts (F := c.1) (S := c.2.1) (C := c.2.2.1) (D := c.2.2.2) (L := N.L) (t := now) hU hW hc.1 rfl
    have f1 : celW c N.U N.W N.B N.L now cost = 0 ↔ cost ≤ celR c N.U N.W N.B N.L now := f.2.1
    by_cases hle : cost ≤ celR c N.U N.W N.B N.L now
    · rw [if_pos hle, if_pos (f1.2 hle)]
      exact ⟨rfl, (f1.2 hle).symm, fun h => absurd (show (1 : Int) = 2 from h) (by decide)⟩
    · rw [if_neg hle, if_neg (fun g => hle (f1.1 g))]
      exact ⟨rfl, rfl, fun _ => rfl⟩
end
end Go.Proofs.YtbgcpljekcagiaaGreat
/- The law LimiterAlone of layer 12 (limiter): of one key alone: plain side; an argument of two slices. -/
namespace Go.Proofs.YtbgcpljekcagiaaGreat
set_option linter.unusedSimpArgs false
set_option linter.unusedVariables false
set_option maxRecDepth 100000
open Go.ChangeShapes Go.WideShapes Go.ChangeAt Go.RowKit Go.Deep Go.Joins
open Ar (inR)
section
variable {H : Type} {enc : TypeId × Value → H} {P : Program}
theorem open_sl {W : World} {base : Nat} {N : Nat} {t e : TypeId} {k : IntKind} {v : Value} {y : DataW H × List MemPlace} (ht : P.underlying t = some (.slice e)) (he : P.underlying e = some (.int k)) (hc : P.cellsOf e = 1)
    (hf : DataW.trod enc P W base (fun _ => true) true N t [v] = some y) : ∃ A n c zs, v = .slice A n c ∧ RdI W k A n c zs := by
  rcases open_ints ht he hc hf with ⟨hcs, _⟩ | ⟨a, len, cap, zs, hcs, _, hl, hm, hz, _, hcell, hwz⟩
  · simp only [List.cons.injEq, and_true] at hcs
    subst hcs
    exact ⟨none, 0, 0, [], rfl, rfl, Nat.le_refl _, Nat.zero_le _, fun h => absurd h (by omega), fun z hz => by simp at hz⟩
  · simp only [List.cons.injEq, and_true] at hcs
    subst hcs
    simp only [if_true] at hz
    refine ⟨_, _, _, zs.take len, rfl, by rw [List.length_take]; omega, hl, hm, fun hn => ?_, fun z hz => hwz z (List.mem_of_mem_take hz)⟩
    obtain ⟨b, off, s⟩ := a
    have h0 := hcell 0 (by omega)
    have hs := plain_of_cell h0
    have hlt := lt_of_cell h0
    rw [block_add] at hlt
    have : s = none := by
      unfold Addr.add at hs
      simpa using hs
    subst this
    refine ⟨b, off, rfl, hlt, fun i hi => ?_⟩
    have := hcell i (by omega)
    rw [add_plain] at this
    rw [this]
    simp [List.getD, List.getElem?_take, hi]
theorem open_a2s {W : World} {base : Nat} {r : Reach} {b0 : Nat} {t e u : TypeId} {v : Value} {d : DataW H} {p : List MemPlace} (ht : P.underlying t = some (.array 2 e)) (he : P.underlying e = some (.slice u)) (hu : P.underlying u = some (.int .u64)) (hcu : P.cellsOf u = 1) (hce : P.cellsOf e = 1) (hC : P.cellsOf t = 2)
    (hv : Value.okWide P W r b0 t v) (h : DataW.Trod enc P W base (fun _ => true) true t v d p) :
    ∃ A n c zs A' n' c' zs', v = .agg #[.slice A n c, .slice A' n' c'] ∧ RdI W .u64 A n c zs ∧ RdI W .u64 A' n' c' zs' := by
  simp only [Value.okWide, ht] at hv
  obtain ⟨cs, rfl, hsz, _⟩ := hv
  obtain ⟨c0, c1, rfl⟩ := array2 (hsz.trans hC)
  obtain ⟨fuel, hf⟩ := h
  obtain ⟨xs, m, _, _, hl, hlen, hi⟩ := DataW.trod_array ht hf
  match xs, hlen with
  | [y0, y1], _ =>
    have h0 := hi 0 (by omega)
    have h1 := hi 1 (by omega)
    simp [Value.cells, hce] at h0 h1
    obtain ⟨A, n, c, zs, rfl, r0⟩ := open_sl he hu hcu h0
    obtain ⟨A', n', c', zs', rfl, r1⟩ := open_sl he hu hcu h1
    exact ⟨A, n, c, zs, A', n', c', zs', rfl, r0, r1⟩
end
def kK : ByteArray := ⟨#[107]⟩
def kX : ByteArray := ⟨#[120]⟩
/-- what the law knows of a limiter that one key alone was checked at. -/
structure Aln (n : Nat) (s : LmS) : Prop where
  num : s.r.num = fun _ => 0
  F : s.r.F = fun _ _ _ => 0
  x : posN n s.σ.K kX = none
  p : (posN n s.σ.K kK).isSome = true ∨ s.σ.fl.length = n
  q : n - s.σ.fl.length ≤ 1
  lt : ∀ i ∈ s.σ.fl, i < n
  n1 : 1 ≤ n
/-- limiters of one rule but for their rings. -/
structure LmF (N1 N2 : LmN) : Prop where
  U : N1.U = N2.U
  W : N1.W = N2.W
  B : N1.B = N2.B
  L : N1.L = N2.L
  q : N1.Q.N.n = N2.Q.N.n
  t : N1.S.N.n = N2.S.N.n
  s1 : 1 ≤ N1.R.s
  s2 : 1 ≤ N2.R.s
section
variable {n : Nat} {s : LmS} {N N1 N2 : LmN} {now held cost : Int}
theorem Aln.new (h1 : 1 ≤ n) : Aln n (lmZ n) := by
  have hno : ∀ k, posN n (kNew n).K k = none := by
    intro k
    unfold posN
    rw [List.find?_eq_none]
    intro i _
    show ¬ decide ((none : Option ByteArray) = some k) = true
    simp
  refine ⟨rfl, rfl, hno kX, Or.inr ?_, ?_, fun i hi => ?_, h1⟩
  · show (List.range n).reverse.length = n
    simp
  · show n - (List.range n).reverse.length ≤ 1
    simp
  · have : i ∈ (List.range n).reverse := hi
    simpa using this
theorem Aln.est (h : Aln n s) (hs : 1 ≤ N.R.s) (key : ByteArray) : estZ N.R s.r key = 0 := by
  have e : s.r = ⟨s.r.t, fun _ => 0, fun _ _ _ => 0⟩ := by
    show (⟨s.r.t, s.r.num, s.r.F⟩ : RgS) = _
    rw [h.num, h.F]
  rw [e]
  exact est_zeroF hs _ _ _
theorem Aln.seen (h : Aln n s) (key : ByteArray) : Aln n (s.seen N now key cost) := ⟨h.num, h.F, h.x, h.p, h.q, h.lt, h.n1⟩
theorem Aln.count (h : Aln n s) (v : Int) : Aln n (s.count v) := by
  unfold LmS.count
  split
  · exact ⟨h.num, h.F, h.x, h.p, h.q, h.lt, h.n1⟩
  · split
    · exact ⟨h.num, h.F, h.x, h.p, h.q, h.lt, h.n1⟩
    · split
      · exact ⟨h.num, h.F, h.x, h.p, h.q, h.lt, h.n1⟩
      · exact h
theorem Aln.peeked (h : Aln n s) : Aln n (s.peeked N now held cost) := by
  unfold LmS.peeked
  split
  · exact h
  · exact ⟨h.num, h.F, h.x, h.p, h.q, h.lt, h.n1⟩
/-- the one key gets its cell. -/
theorem Aln.adm (h : Aln n s) (hq : N.Q.N.n = n) (hs : 1 ≤ N.R.s) : s.adm N now kK = (if (posN n s.σ.K kK).isSome = true then (s, []) else ({ s with σ := (s.σ.put n kK).1, C := plSet s.C (now, now, 0, 0) (s.σ.put n kK).2 }, [(kK, true)])) := by
  unfold LmS.adm LmS.full LmS.put
  rw [hq, h.est hs]
  by_cases hp : (posN n s.σ.K kK).isSome = true
  · rw [if_pos (Or.inl hp), if_pos hp]
  · have hl : s.σ.fl.length = n := h.p.resolve_left hp
    have h1 := h.n1
    rw [if_neg hp, if_neg (by intro g; rcases g with g | g; exact hp g; exact absurd g (by decide)), hl, if_neg (by rw [decide_eq_true_iff]; omega)]
theorem posN_up2 {K : Nat → Option ByteArray} {i : Nat} {k k' : ByteArray} (hi : i < n) : (k = k' → (posN n (fun j => if j = i then some k else K j) k').isSome = true) ∧ (k ≠ k' → posN n K k' = none → posN n (fun j => if j = i then some k else K j) k' = none) := by
  constructor
  · intro e
    unfold posN
    rw [List.find?_isSome]
    exact ⟨i, List.mem_range.2 hi, by simp [e]⟩
  · intro e hn
    unfold posN at *
    rw [List.find?_eq_none] at *
    intro j hj
    have := hn j hj
    by_cases hji : j = i
    · simp [hji, e]
    · simpa [hji] using this
theorem Aln.adm_ok (h : Aln n s) (hq : N.Q.N.n = n) (hs : 1 ≤ N.R.s) : Aln n (s.adm N now kK).1 ∧ (posN n (s.adm N now kK).1.σ.K kK).isSome = true := by
  rw [h.adm hq hs]
  by_cases hp : (posN n s.σ.K kK).isSome = true
  · rw [if_pos hp]; exact ⟨h, hp⟩
  · rw [if_neg hp]
    have hl : s.σ.fl.length = n := h.p.resolve_left hp
    have h1 := h.n1
    have hpn : posN n s.σ.K kK = none := by
      cases hq : posN n s.σ.K kK with
      | none => rfl
      | some i => rw [hq] at hp; exact absurd rfl hp
    have hne : s.σ.fl ≠ [] := by intro g; rw [g] at hl; simp at hl; omega
    have hput : s.σ.put n kK = (⟨s.σ.fl.dropLast, fun j => if j = s.σ.fl.getLast hne then some kK else s.σ.K j⟩, some (s.σ.fl.getLast hne)) := by
      unfold KSt.put
      rw [hpn]
      dsimp only
      rw [if_neg (by decide), List.getLast?_eq_some_getLast hne]
    have hlt := h.lt _ (List.getLast_mem hne)
    have hu := fun k' => posN_up2 (n := n) (K := s.σ.K) (k := kK) (k' := k') hlt
    rw [hput]
    refine ⟨⟨h.num, h.F, (hu kX).2 (by decide) h.x, Or.inl ((hu kK).1 rfl), ?_, fun i hi => h.lt i ((List.dropLast_sublist _).subset hi), h1⟩, (hu kK).1 rfl⟩
    show n - s.σ.fl.dropLast.length ≤ 1
    rw [List.length_dropLast]
    omega
theorem judge_F (hE : LmF N1 N2) {n : Nat} (hq : N1.Q.N.n = n) {key : ByteArray} (hp : (posN n s.σ.K key).isSome = true) : s.judge N1 now key cost = s.judge N2 now key cost := by
  obtain ⟨i, hi⟩ := Option.isSome_iff_exists.1 hp
  unfold LmS.judge
  rw [← hE.q, hq, hi]
  simp only [hE.U, hE.W, hE.B, hE.L]
theorem Aln.judge (h : Aln n s) (hq : N.Q.N.n = n) {key : ByteArray} (hp : (posN n s.σ.K key).isSome = true) : Aln n (s.judge N now key cost).2 := by
  obtain ⟨i, hi⟩ := Option.isSome_iff_exists.1 hp
  unfold LmS.judge
  rw [hq, hi]
  dsimp only
  split
  · exact ⟨h.num, h.F, h.x, h.p, h.q, h.lt, h.n1⟩
  · exact h
/-- of one key alone the rings play no part. -/
theorem Aln.check (h : Aln n s) (hE : LmF N1 N2) (hq : N1.Q.N.n = n) : s.check N1 now held kK cost = s.check N2 now held kK cost ∧ Aln n (s.check N1 now held kK cost).1 := by
  have hq2 : N2.Q.N.n = n := hE.q.symm.trans hq
  have hr : refZ N1 now held cost = refZ N2 now held cost := by unfold refZ; rw [hE.B]
  have hse : s.seen N1 now kK cost = s.seen N2 now kK cost := by unfold LmS.seen; rw [hE.t]
  have h1 := h.seen (N := N1) (now := now) (cost := cost) kK
  have ha : (s.seen N1 now kK cost).adm N1 now kK = (s.seen N1 now kK cost).adm N2 now kK := by rw [h1.adm hq hE.s1, h1.adm hq2 hE.s2]
  have hb := h1.adm_ok (now := now) hq hE.s1
  have hj := judge_F (now := now) (cost := cost) hE hq hb.2
  have hj2 := hb.1.judge (now := now) (cost := cost) hq hb.2
  constructor
  · unfold LmS.check
    rw [← hr, ← hse, ← ha, hj]
  · unfold LmS.check
    split
    · exact h.count _
    · exact hj2.count _
/-- another key's peek, where there is a free cell. -/
theorem Aln.peek (h : Aln n s) (hE : LmF N1 N2) (hq : N1.Q.N.n = n) (hn : 2 ≤ n) : s.peek N1 now held kX cost = s.peek N2 now held kX cost := by
  have hq2 : N2.Q.N.n = n := hE.q.symm.trans hq
  have hr : refZ N1 now held cost = refZ N2 now held cost := by unfold refZ; rw [hE.B]
  have h1 : Aln n ({ s with r := ⟨max s.r.t now, s.r.num, s.r.F⟩ } : LmS) := ⟨h.num, h.F, h.x, h.p, h.q, h.lt, h.n1⟩
  have hrs : ∀ M : LmN, M.Q.N.n = n → 1 ≤ M.R.s → ({ s with r := ⟨max s.r.t now, s.r.num, s.r.F⟩ } : LmS).resi M now kX = some (now, now, 0, 0) := by
    intro M hM hs
    have hf : LmS.full { s with r := ⟨max s.r.t now, s.r.num, s.r.F⟩ } M = false := by
      unfold LmS.full
      rw [hM, decide_eq_false_iff_not]
      have := h.q
      show ¬ ((n - s.σ.fl.length : Nat) : Int) = (n : Int)
      omega
    unfold LmS.resi
    rw [hM, h1.x, hf, h1.est hs]
    dsimp only
    rw [if_neg (by simp)]
  unfold LmS.peek
  rw [hr, hrs N1 hq hE.s1, hrs N2 hq2 hE.s2, hE.U, hE.W, hE.B, hE.L]
theorem peeked_F (hE : LmF N1 N2) : s.peeked N1 now held cost = s.peeked N2 now held cost := by
  have hr : refZ N1 now held cost = refZ N2 now held cost := by unfold refZ; rw [hE.B]
  unfold LmS.peeked
  rw [hr]
theorem len_F (hE : LmF N1 N2) : s.len N1 = s.len N2 := by unfold LmS.len; rw [hE.q]
end
end Go.Proofs.YtbgcpljekcagiaaGreat
