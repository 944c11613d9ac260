import Derived.Test.YtbgcpljekcagiaaGreatZLmN
import Derived.Test.YtbgcpljekcagiaaGreatZLiftS
/- The law LimiterShift of layer 12 (limiter), walked. -/
namespace Go.Proofs.YtbgcpljekcagiaaGreat
set_option linter.unusedSimpArgs false
set_option linter.unusedVariables false
set_option maxRecDepth 100000
open Go.ChangeShapes Go.WideShapes Go.ChangeAt Go.RowKit
open Ar (inR)
set_option maxRecDepth 100000 in
set_option maxHeartbeats 6000000 in
theorem lmshift_law (w : World) (a b c d e f g h : Int) (sm : Bool) (shift : Int) (A2 : Option Addr) (n2 c2 : Nat) (L : List Cl) (hpl : RuleOK a b c d e f g h) (hsh : inR shift) (hr2 : RdL w A2 n2 c2 4 encCl L) (hok : ∀ a ∈ L, okCl a) :
    Calls Tryz.prog 14 #[planV a b c d e f g h sm, .int .i64 shift, .slice A2 n2 c2] w fun e w' => e = .returned (.bool true) ∧ Below w.heap.size w w' := by
  clear hpl hsh
  have hmx2 := hr2.max
  unfold maxLen at hmx2
  have hcp2 := hr2.cap
  have HR2 := Lib.hid hr2
  have HO := Lib.hid hok
  clear hr2 hok
  obtain ⟨w1, hw1, k1, l1', s1⟩ := box_new w (planC a b c d e f g h sm) 23
  obtain ⟨pl, hpl⟩ : ∃ x, x = w.heap.size := ⟨_, rfl⟩
  rw [← hpl] at k1
  have K2 := Lib.hid (And.intro k1 l1')
  have HB := Lib.hid hpl
  clear k1 l1' s1
  go_enter Tryz.func14, Tryz.ntmps14
  go_upto_region 1 with (fail)
  rw [← HB.out]
  clear hw1 hpl
  go_upto_region 3 with (go_at_call 15; ((refine (lmfit_any _).mono ?_); rintro e w3 ⟨rfl, b3⟩; have K3 := Lib.hid (And.intro (K2.out.1.keep b3) (below_in K2.out.2 b3)); clear b3))
  have CLi := Lib.hid (lmlight_any A2 n2 c2 L w3 (HR2.out.below K3.out.2) HO.out)
  cases hlb : lightC L with
  | false =>
    rw [hlb] at CLi
    go_wp2_with (go_at_call 16; ((with_reducible refine CLi.out.mono ?_); rintro e w4 ⟨rfl, b4⟩; have T4 := Lib.hid (below_in K3.out.2 b4); clear b4))
    go_ret
    exact ⟨rfl, T4.out⟩
  | true =>
  rw [hlb] at CLi
  have hlc := lightC_at hlb
  have hlen := hlc.1
  have HLK := Lib.hid hlc.2
  have hln := HR2.out.len
  have hb2 : (n2 : Int) ≤ 150 := by omega
  clear hlb hlen hln hlc
  go_upto_region 5 with (go_at_call 16; ((with_reducible refine CLi.out.mono ?_); rintro e w4 ⟨rfl, b4⟩; have K4 := Lib.hid (And.intro (K3.out.1.keep b4) (below_in K3.out.2 b4)); clear b4))
  clear CLi
  have kp := K4.out.1.rd
  have CRu := Lib.hid (lmrule_any a b c d e f g h sm w4)
  obtain ⟨Li, hLm⟩ : ∃ x, x = lqL a := ⟨_, rfl⟩
  obtain ⟨Wd, hWd⟩ : ∃ x, x = ((lqS b * lqN d : Nat) : Int) := ⟨_, rfl⟩
  obtain ⟨Bu, hBu⟩ : ∃ x, x = lqB a c := ⟨_, rfl⟩
  obtain ⟨Sl, hSl⟩ : ∃ x, x = ((lqN d : Nat) : Int) := ⟨_, rfl⟩
  obtain ⟨Ce, hCe⟩ : ∃ x, x = ((lqC e : Nat) : Int) := ⟨_, rfl⟩
  obtain ⟨kR, hkR⟩ : ∃ x, x = ((lqR f : Nat) : Int) := ⟨_, rfl⟩
  obtain ⟨Wi, hWi⟩ : ∃ x, x = ((lqW g : Nat) : Int) := ⟨_, rfl⟩
  obtain ⟨Tr, hTr⟩ : ∃ x, x = ((lqT h : Nat) : Int) := ⟨_, rfl⟩
  obtain ⟨smm, hsm⟩ : ∃ x, x = lqM sm d := ⟨_, rfl⟩
  rw [← hLm, ← hWd, ← hBu, ← hSl, ← hCe, ← hkR, ← hWi, ← hTr, ← hsm] at CRu
  have CNw := Lib.hid (fun b0 wx (hx : Below w.heap.size w wx) (hb : Blk wx b0 73 #[.int .u64 7, .int .u64 9, .int .u64 11, .int .u64 13, .int .u64 15, .int .u64 17]) => show Calls Tryz.prog 18 #[rlV Li Wd Bu Sl Ce kR Wi Tr smm, .slice (some ⟨b0, 0, none⟩) 6 6] wx _ from by rw [hLm, hWd, hBu, hSl, hCe, hkR, hWi, hTr, hsm]; exact lmplan_new a b c d e f g h (lqM sm d) (some ⟨b0, 0, none⟩) 6 6 [7, 9, 11, 13, 15, 17] wx (rd_blk (k := .u64) (zs := [7, 9, 11, 13, 15, 17]) hb rfl (by unfold maxLen; omega) (by intro z hz; simp only [List.mem_cons, List.not_mem_nil, or_false] at hz; rcases hz with rfl | rfl | rfl | rfl | rfl | rfl <;> decide)))
  have HP := Lib.hid (And.intro hLm (And.intro hWd (And.intro hBu (And.intro hSl (And.intro hCe (And.intro hkR (And.intro hWi (And.intro hTr hsm))))))))
  clear hLm hWd hBu hSl hCe hkR hWi hTr hsm
  go_upto_region 6 with (go_at_call 17; ((with_reducible refine CRu.out.mono ?_); rintro e w5 ⟨rfl, b5⟩; obtain ⟨y1, y2, ey1, kr9, kw9, ey2, bl9, kc9⟩ := box9R w5 (.int .i64 Li) (.int .i64 Wd) (.int .i64 Bu) (.int .i64 Sl) (.int .i64 Ce) (.int .i64 kR) (.int .i64 Wi) (.int .i64 Tr) (.bool smm); have K6 := Lib.hid (And.intro kc9 (below_in (below_in K4.out.2 b5) bl9)); clear b5 bl9 kc9))
  clear ey1 kr9 kw9 ey2 kp CRu
  obtain ⟨rb, hrb⟩ : ∃ rb, rb = w5.heap.size := ⟨_, rfl⟩
  rw [← hrb] at K6 ⊢
  clear hrb
  have kru := K6.out.1.rd
  obtain ⟨yq, hyq, kq, lq, sq⟩ := box_new y2 #[.int .u64 7, .int .u64 9, .int .u64 11, .int .u64 13, .int .u64 15, .int .u64 17] 73
  obtain ⟨b0, hb0⟩ : ∃ z, z = y2.heap.size := ⟨_, rfl⟩
  rw [← hb0] at kq
  have KQ := Lib.hid (And.intro kq (And.intro (K6.out.1.keep lq) (below_in K6.out.2 lq)))
  have HB0 := Lib.hid hb0
  clear kq lq sq hb0
  go_upto_region 7 with (fail)
  rw [← HB0.out]
  clear hyq kru
  have BN := Lib.hid (show Below yq.heap.size yq yq.drew from below_draws (Below.refl _ _) 1)
  have SB := Lib.hid (fun wx (hb : Below yq.heap.size yq wx) => show ∀ j, wx.cell? ⟨rb, j, none⟩ = (#[.int .i64 Li, .int .i64 Wd, .int .i64 Bu, .int .i64 Sl, .int .i64 Ce, .int .i64 kR, .int .i64 Wi, .int .i64 Tr, .bool smm] : Array Value)[j]? from (KQ.out.2.1.keep hb).rd)
  have st := SB.out _ BN.out
  refine wp_region_held_drew (S := fun wx => ∀ j, wx.cell? ⟨rb, j, none⟩ = (#[.int .i64 Li, .int .i64 Wd, .int .i64 Bu, .int .i64 Sl, .int .i64 Ce, .int .i64 kR, .int .i64 Wi, .int .i64 Tr, .bool smm] : Array Value)[j]?) (by kernel_rfl) st (fun hHeld => ?_)
  clear st
  refine wpAnyH_take (i := 0) (oi := ?_) (v := ?_) ?_ ?_ ?_ ?_ ?_ ?_ ?_ ?_
  rotate_left 2
  · simp only [List.getElem?_toArray, List.getElem?_cons_succ, List.getElem?_cons_zero]; rfl
  · kernel_rfl
  · kernel_rfl
  · kernel_rfl
  · exact fun _ _ _ h => h
  · refine Or.inl ⟨by rfl, ?_⟩
    intro w' hSw
    (try dsimp only at hSw)
    go_simp
    all_goals (with_reducible rfl)
  · assumption
  try simp only [Act.put, List.setIfInBounds_toArray, List.set_cons_zero, List.set_cons_succ]
  refine wpAnyH_take (i := 1) (oi := ?_) (v := ?_) ?_ ?_ ?_ ?_ ?_ ?_ ?_ ?_
  rotate_left 2
  · simp only [List.getElem?_toArray, List.getElem?_cons_succ, List.getElem?_cons_zero]; rfl
  · kernel_rfl
  · kernel_rfl
  · kernel_rfl
  · exact fun _ _ _ h => h
  · refine Or.inl ⟨by rfl, ?_⟩
    intro w' hSw
    (try dsimp only at hSw)
    go_simp
    all_goals (with_reducible rfl)
  · assumption
  try simp only [Act.put, List.setIfInBounds_toArray, List.set_cons_zero, List.set_cons_succ]
  refine wpAnyH_take (i := 3) (oi := ?_) (v := ?_) ?_ ?_ ?_ ?_ ?_ ?_ ?_ ?_
  rotate_left 2
  · simp only [List.getElem?_toArray, List.getElem?_cons_succ, List.getElem?_cons_zero]; rfl
  · kernel_rfl
  · kernel_rfl
  · kernel_rfl
  · exact fun _ _ _ h => h
  · refine Or.inl ⟨by rfl, ?_⟩
    intro w' hSw
    (try dsimp only at hSw)
    go_simp
    all_goals (with_reducible rfl)
  · assumption
  try simp only [Act.put, List.setIfInBounds_toArray, List.set_cons_zero, List.set_cons_succ]
  refine wpAnyH_take (i := 4) (oi := ?_) (v := ?_) ?_ ?_ ?_ ?_ ?_ ?_ ?_ ?_
  rotate_left 2
  · simp only [List.getElem?_toArray, List.getElem?_cons_succ, List.getElem?_cons_zero]; rfl
  · kernel_rfl
  · kernel_rfl
  · kernel_rfl
  · exact fun _ _ _ h => h
  · refine Or.inl ⟨by rfl, ?_⟩
    intro w' hSw
    (try dsimp only at hSw)
    go_simp
    all_goals (with_reducible rfl)
  · assumption
  try simp only [Act.put, List.setIfInBounds_toArray, List.set_cons_zero, List.set_cons_succ]
  refine wpAnyH_ready (rs := [2]) (by kernel_rfl) (by simp) ?_
  refine AllReadyH.cons (o := ?_) ?_ ?_ ?_
  rotate_left 1
  · simp only [List.getElem?_toArray, List.getElem?_cons_succ, List.getElem?_cons_zero]; rfl
  rotate_left 1
  · exact AllReadyH.nil
  intro K hK
  go_simp
  ((with_reducible refine (CNw.out _ _ (below_in KQ.out.2.2 BN.out) (KQ.out.1.keep BN.out)).mono ?_); rintro v w7 ⟨N1, rfl, a7, p7, n7, b7⟩; have P7 := Lib.hid p7; have M7 := Lib.hid (G.below_on BN.out b7); have A7 := Lib.hid (And.intro a7 (show ∀ b, N1.all b → yq.heap.size ≤ b from n7)); clear a7 p7 n7 b7)
  refine hK.out _ _ (SB.out _ M7.out) (fun hHeld => ?_)
  clear hK K
  try simp only [Act.put, List.setIfInBounds_toArray, List.set_cons_zero, List.set_cons_succ]
  refine wpAnyH_ready (rs := [5]) (by kernel_rfl) (by simp) ?_
  refine AllReadyH.cons (o := ?_) ?_ ?_ ?_
  rotate_left 1
  · simp only [List.getElem?_toArray, List.getElem?_cons_succ, List.getElem?_cons_zero]; rfl
  rotate_left 1
  · exact AllReadyH.nil
  intro K hK
  go_simp
  ((with_reducible refine (CNw.out _ _ (below_in KQ.out.2.2 M7.out) (KQ.out.1.keep M7.out)).mono ?_); rintro v w8 ⟨N2, rfl, a8, p8, n8, b8⟩; have P8 := Lib.hid p8; have M8 := Lib.hid (G.below_on M7.out b8); have G7 := Lib.hid (show LmTwo w w8 N1 N2 (lmZ (lqC e)) (lmZ (lqC e)) 0 0 0 from ⟨⟨A7.out.1.keep b8, lmplan_I A7.out.1 P7.out, fun b hb => Nat.le_trans KQ.out.2.2.size (A7.out.2 b hb), below_in KQ.out.2.2 M8.out⟩, ⟨a8, lmplan_I a8 p8, fun b hb => Nat.le_trans KQ.out.2.2.size (Nat.le_trans M7.out.size (n8 b hb)), below_in KQ.out.2.2 M8.out⟩, fun k hk1 hk2 => by have h1 := A7.out.1.lt k hk1; have h2 := n8 k hk2; omega⟩); have R7 := Lib.hid (KQ.out.2.1.keep M8.out); have NR7 := Lib.hid (show (¬ N1.all rb) ∧ ¬ N2.all rb from ⟨fun hb => by have h1 := A7.out.2 rb hb; have h2 := lt_of_block KQ.out.2.1; omega, fun hb => by have h1 := n8 rb hb; have h2 := lt_of_block KQ.out.2.1; have h3 := M7.out.size; omega⟩); clear a8 p8 n8 b8)
  refine hK.out _ _ (SB.out _ M8.out) (fun hHeld => ?_)
  clear hK K
  try simp only [Act.put, List.setIfInBounds_toArray, List.set_cons_zero, List.set_cons_succ]
  refine wpAnyH_take (i := 6) (oi := ?_) (v := ?_) ?_ ?_ ?_ ?_ ?_ ?_ ?_ ?_
  rotate_left 2
  · simp only [List.getElem?_toArray, List.getElem?_cons_succ, List.getElem?_cons_zero]; rfl
  · kernel_rfl
  · kernel_rfl
  · kernel_rfl
  · exact fun _ _ _ h => h
  · refine Or.inl ⟨by rfl, ?_⟩
    intro w' hSw
    (try dsimp only at hSw)
    go_simp
    all_goals (with_reducible rfl)
  · assumption
  try simp only [Act.put, List.setIfInBounds_toArray, List.set_cons_zero, List.set_cons_succ]
  refine wpAnyH_take (i := 7) (oi := ?_) (v := ?_) ?_ ?_ ?_ ?_ ?_ ?_ ?_ ?_
  rotate_left 2
  · simp only [List.getElem?_toArray, List.getElem?_cons_succ, List.getElem?_cons_zero]; rfl
  · kernel_rfl
  · kernel_rfl
  · kernel_rfl
  · exact fun _ _ _ h => h
  · refine Or.inl ⟨by rfl, ?_⟩
    intro w' hSw
    (try dsimp only at hSw)
    go_simp
    all_goals (with_reducible rfl)
  · assumption
  try simp only [Act.put, List.setIfInBounds_toArray, List.set_cons_zero, List.set_cons_succ]
  refine wpAnyH_done (by kernel_rfl) ?_ _
  clear hHeld CNw
  have HPB := Lib.hid (show LmB N1 ∧ N1.B = Bu ∧ 1 ≤ Bu ∧ Bu ≤ 32 from by rw [HP.out.2.2.1]; exact lmplan_B P7.out)
  have HE := Lib.hid (show LmE N1 N2 from P7.out.same P8.out)
  have HSL := Lib.hid (show (lqS b : Int) * Sl = Wd ∧ 1 ≤ Sl ∧ Sl ≤ 8 ∧ (1 ≤ lqS b ∧ lqS b ≤ 32) ∧ N1.R.s = lqS b ∧ N1.R.n = lqN d + 1 ∧ lqN d ≤ 8 from by
    have h1 := HP.out.2.1
    have h2 := HP.out.2.2.2.1
    have h3 : 1 ≤ lqN d ∧ lqN d ≤ 8 := by unfold lqN; omega
    have h4 : 1 ≤ lqS b ∧ lqS b ≤ 32 := by unfold lqS; omega
    exact ⟨by rw [h1, h2, Int.natCast_mul], by omega, by omega, h4, P7.out.ps, P7.out.pn, h3.2⟩)
  obtain ⟨sh, hsh⟩ : ∃ z, z = shift % 4294967296 := ⟨_, rfl⟩
  have e1 : bits .and .i64 shift 4294967295 = sh := by rw [hsh]; exact i64_mask32 shift
  obtain ⟨un, hun⟩ : ∃ z, z = ((lqS b : Nat) : Int) := ⟨_, rfl⟩
  have e2 : Wd.tdiv Sl = un := by
    have h1 := HSL.out
    rw [Int.tdiv_eq_ediv_of_nonneg (by rw [← h1.1]; exact Int.mul_nonneg (by omega) (by omega)), ← h1.1, hun]
    exact Int.mul_ediv_cancel _ (by omega)
  have e3 : ¬ (Sl = 0) := by have h1 := HSL.out; omega
  obtain ⟨D, hD⟩ : ∃ z, z = sh * un := ⟨_, rfl⟩
  have hun2 : 1 ≤ un ∧ un ≤ 32 := by have h1 := HSL.out; omega
  have hsh2 : 0 ≤ sh ∧ sh < 4294967296 := by omega
  have hD2 : 0 ≤ D ∧ D ≤ 4294967296 * 32 := by
    rw [hD]
    exact ⟨Int.mul_nonneg hsh2.1 (by omega), Int.le_trans (Int.mul_le_mul_of_nonneg_right (by omega) (by omega)) (Int.mul_le_mul_of_nonneg_left hun2.2 (by omega))⟩
  have e4 : IntKind.i64.wrap (sh * un) = D := by rw [← hD, IntKind.wrap_i64]; omega
  have HSN := Lib.hid (show ShN N1 sh.toNat D from by
    have h1 := HSL.out
    refine ⟨by omega, by omega, ?_, by omega⟩
    rw [hD, hun, h1.2.2.2.2.1, Int.toNat_of_nonneg hsh2.1])
  have HQN := Lib.hid (show N1.Q.N.n = lqC e from P7.out.pC)
  have e5 : IntKind.i64.wrap un = un := by rw [IntKind.wrap_i64]; omega
  have HDD := Lib.hid hD2
  clear hsh hun hD hun2 hsh2 hD2
  have kru := R7.out.rd
  go_upto_region 9 with (fail)
  clear e1 e2 e3 e4 e5 kru
  go_wp2
  go_loopg [44, 12] n2 (fun kk si sn wr => ∃ (i : Nat) (t : Int) (s1 s2 : LmS), i ≤ n2 ∧ Hid (kk = n2 - i) ∧ si = .int .i64 (i : Int) ∧ sn = .int .i64 t ∧ Hid (0 ≤ t ∧ t ≤ 1023 * (i : Int)) ∧ Hid (Sh N1.Q.N.n N1.R s1 s2 sh.toNat D) ∧ Hid (LmTwo w wr N1 N2 s1 s2 t (t + D) (2097153 * (i : Int))) ∧ Hid (Blk wr rb 29 #[.int .i64 Li, .int .i64 Wd, .int .i64 Bu, .int .i64 Sl, .int .i64 Ce, .int .i64 kR, .int .i64 Wi, .int .i64 Tr, .bool smm]))
  case atStart => exact ⟨0, 0, lmZ (lqC e), lmZ (lqC e), by omega, Lib.hid rfl, rfl, rfl, Lib.hid (by omega), Lib.hid (by rw [HQN.out]; exact Sh.new _ _ _ _), Lib.hid (G7.out.mono (by omega) (by have := HDD.out; omega) (by omega)), R7⟩
  case round =>
    obtain ⟨i, t, s1, s2, hi, HKK, rfl, rfl, HT, HSH, HG, HRB⟩ := hrel
    by_cases hin : i < n2
    · have hl2 := HR2.out.len
      obtain ⟨b', off, rfl, hbl, hcl⟩ := (HR2.out.below HG.out.a.bl).at_ (by omega)
      obtain ⟨⟨gp, cs, ky, pk⟩, ha⟩ : ∃ a, L[i]? = some a := ⟨_, List.getElem?_eq_getElem (by omega)⟩
      have HKY := Lib.hid (HLK.out _ (List.mem_of_getElem? ha))
      have hky : ky.size ≤ 64 := HKY.out
      have HCS := Lib.hid (HO.out _ (List.mem_of_getElem? ha))
      have kr0 : wr.cell? ⟨b', off + i * 4, none⟩ = some (.int .i64 gp) := hcl i _ ha 0 (by omega)
      have kr1 : wr.cell? ⟨b', off + i * 4 + 1, none⟩ = some (.int .i64 cs) := hcl i _ ha 1 (by omega)
      have kr2 : wr.cell? ⟨b', off + i * 4 + 2, none⟩ = some (.string ky) := hcl i _ ha 2 (by omega)
      have kr3 : wr.cell? ⟨b', off + i * 4 + 3, none⟩ = some (.bool pk) := hcl i _ ha 3 (by omega)
      obtain ⟨y1, y2, ey1, kr, kw, ey2, bl2, kc2⟩ := box4C wr (.int .i64 gp) (.int .i64 cs) (.string ky) (.bool pk)
      have G6 := Lib.hid (HG.out.keep bl2)
      obtain ⟨bx, hbx⟩ : ∃ bx, bx = wr.heap.size := ⟨_, rfl⟩
      have HBX := Lib.hid (show ((¬ N1.all bx) ∧ ¬ N2.all bx) ∧ w.heap.size ≤ bx ∧ bx < y2.heap.size from ⟨⟨fun hh => by have := HG.out.a.at_.lt bx hh; omega, fun hh => by have := HG.out.b.at_.lt bx hh; omega⟩, by have := HG.out.a.bl.size; omega, by have := lt_of_block kc2; omega⟩)
      rw [← hbx] at kc2
      have kc3 := kc2.rd
      have KC := Lib.hid kc2
      have KRu := Lib.hid (HRB.out.keep bl2)
      have hgb := gapL_bd gp
      obtain ⟨gq, hgq⟩ : ∃ x, x = gapL gp := ⟨_, rfl⟩
      have HGQ := Lib.hid hgq
      have CG := Lib.hid (fun wx => gapL_any gp wx)
      rw [← hgq] at CG hgb
      obtain ⟨t', ht'⟩ : ∃ x, x = t + gq := ⟨_, rfl⟩
      have hT := HT.out
      have et : IntKind.i64.wrap (t + gq) = t' := by rw [IntKind.wrap_i64]; omega
      have HT' := Lib.hid (show (0 ≤ t' ∧ t' ≤ 1023 * ((i : Int) + 1)) ∧ t ≤ t' ∧ t' ≤ 4611686018427380000 ∧ t' = t + gq by omega)
      have CC := Lib.hid (fun wx => costL_any Li Wd Bu Sl Ce kR Wi Tr smm cs ⟨HPB.out.2.2.1, HPB.out.2.2.2⟩ wx)
      have hqb := costL_bd (n := cs) ⟨HPB.out.2.2.1, HPB.out.2.2.2⟩
      obtain ⟨q, hq⟩ : ∃ x, x = costL Bu cs := ⟨_, rfl⟩
      rw [← hq] at CC hqb
      have HQ := Lib.hid (And.intro hqb hq)
      have t2 : (i : Int) < (n2 : Int) := by omega
      have HIN := Lib.hid hin
      clear hl2 hcl hbl bl2 kc2 hgb hgq ht' hT hq hin hqb hky
      go_upto_region 13 with (fail)
      rw [← hbx]
      have HBXS := Lib.hid hbx
      clear kr kw ey1 kr0 kr1 kr2 kr3 ey2 hbx
      have krl := KRu.out.rd
      go_upto_region 15 with (first
        | (go_at_call 20; ((with_reducible refine (CG.out _).mono ?_); rintro v y3 ⟨rfl, rfl⟩))
        | (go_at_call 21; ((with_reducible refine (CC.out _).mono ?_); rintro v y4 ⟨rfl, b4⟩; have G8 := Lib.hid (G6.out.keep b4); have K8 := Lib.hid (KC.out.keep b4); have R8 := Lib.hid (KRu.out.keep b4); have HB8 := Lib.hid (show bx < y4.heap.size from Nat.lt_of_lt_of_le HBX.out.2.2 b4.size); clear b4)))
      clear CG CC et kc3 krl
      obtain ⟨td, htd⟩ : ∃ z, z = t' + D := ⟨_, rfl⟩
      have HTD := Lib.hid htd
      have htb : 0 ≤ td ∧ td ≤ 4611686018427386000 := by have h1 := HT'.out; have h2 := HDD.out; omega
      have etd : IntKind.i64.wrap (t' + D) = td := by rw [← htd, IntKind.wrap_i64]; omega
      have HG8 := Lib.hid (G8.out.mono (t1' := t') (t2' := td) (m' := 2097153 * (i : Int)) (by have := HT'.out; omega) (by have := HT'.out; omega) (by omega))
      clear htd htb
      have CP1 := Lib.hid (fun wx (hx : LmAt wx N1 s1) => lmpeekI (N := N1) (s := s1) t' 0 ky q (by have := HKY.out; unfold maxLen; omega) (by unfold inR; omega) (by have := HQ.out; unfold inR; omega) wx hx HG8.out.a.I)
      have CP2 := Lib.hid (fun wx (hx : LmAt wx N2 s2) => lmpeekI (N := N2) (s := s2) td 0 ky q (by have := HKY.out; unfold maxLen; omega) (by unfold inR; omega) (by have := HQ.out; unfold inR; omega) wx hx HG8.out.b.I)
      have PI1 := Lib.hid (HG8.out.a.I.peeked (N := N1) 0 q)
      have PI2 := Lib.hid (HG8.out.b.I.peeked (N := N2) 0 q)
      have hpk := HSH.out.peek (cost := q) (now := t') HSN.out HE.out HG8.out.a.I (by rw [← HTD.out]; exact HG8.out.b.I) (by rw [← HTD.out]; have := HG8.out.b.I.t0; have := HTD.out; have := HT'.out; have := HDD.out; omega) ky
      have hps := HSH.out.peeked (now := t') (cost := q) (N2 := N2)
      rw [← HTD.out] at hpk hps
      rw [hpk] at CP2
      obtain ⟨⟨pv, pr, pt⟩, hp1⟩ : ∃ z, z = s1.peek N1 t' 0 ky q := ⟨_, rfl⟩
      obtain ⟨u1, hu1⟩ : ∃ z, z = s1.peeked N1 t' 0 q := ⟨_, rfl⟩
      obtain ⟨u2, hu2⟩ : ∃ z, z = s2.peeked N2 td 0 q := ⟨_, rfl⟩
      rw [← hp1, ← hu1] at CP1
      rw [← hp1, ← hu2] at CP2
      rw [← hu1] at PI1 hps
      rw [← hu2] at PI2 hps
      have HSU := Lib.hid hps
      clear hpk hps hp1 hu1 hu2
      have heq : ∀ w, (Op.equalIn 10000 40 (.agg #[.int .i64 pv, .int .i64 pr, .int .i64 pt]) (.agg #[.int .i64 pv, .int .i64 pr, .int .i64 pt])).run Tryz.prog w = .ok true w := fun w => by rw [answer_equal]; simp
      have BN := Lib.hid (show Below y4.heap.size y4 y4.drew from below_draws (Below.refl _ _) 1)
      have G8d := Lib.hid (HG8.out.keep BN.out)
      have K8d := Lib.hid (K8.out.keep BN.out)
      have R8d := Lib.hid (R8.out.keep BN.out)
      have st := K8d.out.rd
      refine wp_region_held_drew (S := fun wx => ∀ j, wx.cell? ⟨bx, j, none⟩ = (#[.int .i64 gp, .int .i64 cs, .string ky, .bool pk] : Array Value)[j]?) (by kernel_rfl) st (fun hHeld => ?_)
      clear st BN
      refine wpAnyH_take (i := 0) (oi := ?_) (v := ?_) ?_ ?_ ?_ ?_ ?_ ?_ ?_ ?_
      rotate_left 2
      · simp only [List.getElem?_toArray, List.getElem?_cons_succ, List.getElem?_cons_zero]; rfl
      · kernel_rfl
      · kernel_rfl
      · kernel_rfl
      · exact fun _ _ _ h => h
      · refine Or.inl ⟨by rfl, ?_⟩
        intro w' hSw
        (try dsimp only at hSw)
        go_simp
        all_goals (with_reducible rfl)
      · assumption
      try simp only [Act.put, List.setIfInBounds_toArray, List.set_cons_zero, List.set_cons_succ]
      refine wpAnyH_take (i := 1) (oi := ?_) (v := ?_) ?_ ?_ ?_ ?_ ?_ ?_ ?_ ?_
      rotate_left 2
      · simp only [List.getElem?_toArray, List.getElem?_cons_succ, List.getElem?_cons_zero]; rfl
      · kernel_rfl
      · kernel_rfl
      · kernel_rfl
      · exact fun _ _ _ h => h
      · refine Or.inl ⟨by rfl, ?_⟩
        intro w' hSw
        (try dsimp only at hSw)
        go_simp
        all_goals (with_reducible rfl)
      · assumption
      try simp only [Act.put, List.setIfInBounds_toArray, List.set_cons_zero, List.set_cons_succ]
      refine wpAnyH_take (i := 2) (oi := ?_) (v := ?_) ?_ ?_ ?_ ?_ ?_ ?_ ?_ ?_
      rotate_left 2
      · simp only [List.getElem?_toArray, List.getElem?_cons_succ, List.getElem?_cons_zero]; rfl
      · kernel_rfl
      · kernel_rfl
      · kernel_rfl
      · exact fun _ _ _ h => h
      · refine Or.inl ⟨by rfl, ?_⟩
        intro w' hSw
        (try dsimp only at hSw)
        go_simp
        all_goals (with_reducible rfl)
      · assumption
      try simp only [Act.put, List.setIfInBounds_toArray, List.set_cons_zero, List.set_cons_succ]
      refine wpAnyH_take (i := 3) (oi := ?_) (v := ?_) ?_ ?_ ?_ ?_ ?_ ?_ ?_ ?_
      rotate_left 2
      · simp only [List.getElem?_toArray, List.getElem?_cons_succ, List.getElem?_cons_zero]; rfl
      · kernel_rfl
      · kernel_rfl
      · kernel_rfl
      · exact fun _ _ _ h => h
      · refine Or.inl ⟨by rfl, ?_⟩
        intro w' hSw
        (try dsimp only at hSw)
        go_simp
        all_goals (with_reducible rfl)
      · assumption
      try simp only [Act.put, List.setIfInBounds_toArray, List.set_cons_zero, List.set_cons_succ]
      refine wpAnyH_take (i := 4) (oi := ?_) (v := ?_) ?_ ?_ ?_ ?_ ?_ ?_ ?_ ?_
      rotate_left 2
      · simp only [List.getElem?_toArray, List.getElem?_cons_succ, List.getElem?_cons_zero]; rfl
      · kernel_rfl
      · kernel_rfl
      · kernel_rfl
      · exact fun _ _ _ h => h
      · refine Or.inl ⟨by rfl, ?_⟩
        intro w' hSw
        (try dsimp only at hSw)
        go_simp
        all_goals (with_reducible rfl)
      · assumption
      try simp only [Act.put, List.setIfInBounds_toArray, List.set_cons_zero, List.set_cons_succ]
      refine wpAnyH_take (i := 6) (oi := ?_) (v := ?_) ?_ ?_ ?_ ?_ ?_ ?_ ?_ ?_
      rotate_left 2
      · simp only [List.getElem?_toArray, List.getElem?_cons_succ, List.getElem?_cons_zero]; rfl
      · kernel_rfl
      · kernel_rfl
      · kernel_rfl
      · exact fun _ _ _ h => h
      · refine Or.inl ⟨by rfl, ?_⟩
        intro w' hSw
        (try dsimp only at hSw)
        go_simp
        all_goals (with_reducible rfl)
      · assumption
      try simp only [Act.put, List.setIfInBounds_toArray, List.set_cons_zero, List.set_cons_succ]
      refine wpAnyH_take (i := 7) (oi := ?_) (v := ?_) ?_ ?_ ?_ ?_ ?_ ?_ ?_ ?_
      rotate_left 2
      · simp only [List.getElem?_toArray, List.getElem?_cons_succ, List.getElem?_cons_zero]; rfl
      · kernel_rfl
      · kernel_rfl
      · kernel_rfl
      · exact fun _ _ _ h => h
      · refine Or.inl ⟨by rfl, ?_⟩
        intro w' hSw
        (try dsimp only at hSw)
        go_simp
        all_goals (with_reducible rfl)
      · assumption
      try simp only [Act.put, List.setIfInBounds_toArray, List.set_cons_zero, List.set_cons_succ]
      refine wpAnyH_take (i := 8) (oi := ?_) (v := ?_) ?_ ?_ ?_ ?_ ?_ ?_ ?_ ?_
      rotate_left 2
      · simp only [List.getElem?_toArray, List.getElem?_cons_succ, List.getElem?_cons_zero]; rfl
      · kernel_rfl
      · kernel_rfl
      · kernel_rfl
      · exact fun _ _ _ h => h
      · refine Or.inl ⟨by rfl, ?_⟩
        intro w' hSw
        (try dsimp only at hSw)
        go_simp
        all_goals (with_reducible rfl)
      · assumption
      try simp only [Act.put, List.setIfInBounds_toArray, List.set_cons_zero, List.set_cons_succ]
      refine wpAnyH_take (i := 9) (oi := ?_) (v := ?_) ?_ ?_ ?_ ?_ ?_ ?_ ?_ ?_
      rotate_left 2
      · simp only [List.getElem?_toArray, List.getElem?_cons_succ, List.getElem?_cons_zero]; rfl
      · kernel_rfl
      · kernel_rfl
      · kernel_rfl
      · exact fun _ _ _ h => h
      · refine Or.inl ⟨by rfl, ?_⟩
        intro w' hSw
        (try dsimp only at hSw)
        go_simp
        all_goals (with_reducible rfl)
      · assumption
      try simp only [Act.put, List.setIfInBounds_toArray, List.set_cons_zero, List.set_cons_succ]
      refine wpAnyH_take (i := 10) (oi := ?_) (v := ?_) ?_ ?_ ?_ ?_ ?_ ?_ ?_ ?_
      rotate_left 2
      · simp only [List.getElem?_toArray, List.getElem?_cons_succ, List.getElem?_cons_zero]; rfl
      · kernel_rfl
      · kernel_rfl
      · kernel_rfl
      · exact fun _ _ _ h => h
      · refine Or.inl ⟨by rfl, ?_⟩
        intro w' hSw
        (try dsimp only at hSw)
        go_simp
        all_goals (with_reducible rfl)
      · assumption
      try simp only [Act.put, List.setIfInBounds_toArray, List.set_cons_zero, List.set_cons_succ]
      refine wpAnyH_take (i := 11) (oi := ?_) (v := ?_) ?_ ?_ ?_ ?_ ?_ ?_ ?_ ?_
      rotate_left 2
      · simp only [List.getElem?_toArray, List.getElem?_cons_succ, List.getElem?_cons_zero]; rfl
      · kernel_rfl
      · kernel_rfl
      · kernel_rfl
      · exact fun _ _ _ h => h
      · refine Or.inl ⟨by rfl, ?_⟩
        intro w' hSw
        (try dsimp only at hSw)
        go_simp
        all_goals (with_reducible rfl)
      · assumption
      try simp only [Act.put, List.setIfInBounds_toArray, List.set_cons_zero, List.set_cons_succ]
      refine wpAnyH_take (i := 12) (oi := ?_) (v := ?_) ?_ ?_ ?_ ?_ ?_ ?_ ?_ ?_
      rotate_left 2
      · simp only [List.getElem?_toArray, List.getElem?_cons_succ, List.getElem?_cons_zero]; rfl
      · kernel_rfl
      · kernel_rfl
      · kernel_rfl
      · exact fun _ _ _ h => h
      · refine Or.inl ⟨by rfl, ?_⟩
        intro w' hSw
        (try dsimp only at hSw)
        go_simp
        all_goals (with_reducible rfl)
      · assumption
      try simp only [Act.put, List.setIfInBounds_toArray, List.set_cons_zero, List.set_cons_succ]
      refine wpAnyH_ready (rs := [5]) (by kernel_rfl) (by simp) ?_
      refine AllReadyH.cons (o := ?_) ?_ ?_ ?_
      rotate_left 1
      · simp only [List.getElem?_toArray, List.getElem?_cons_succ, List.getElem?_cons_zero]; rfl
      rotate_left 1
      · exact AllReadyH.nil
      intro K hK
      go_simp
      ((with_reducible refine (CP1.out _ G8d.out.a.at_).mono ?_); rintro e' z1 ⟨rfl, a1, f1⟩; have G9 := Lib.hid (G8d.out.op1 a1 PI1.out (Int.le_refl _) f1 (fun b hb => Or.inl hb)); have K9 := Lib.hid (K8d.out.fr f1 (fun hh => HBX.out.1.1 (Or.inl hh))); have R9 := Lib.hid (R8d.out.fr f1 (fun hh => NR7.out.1 (Or.inl hh))); clear a1 f1)
      refine hK.out _ _ K9.out.rd (fun hHeld => ?_)
      clear hK K
      try simp only [Act.put, List.setIfInBounds_toArray, List.set_cons_zero, List.set_cons_succ]
      refine wpAnyH_ready (rs := [13]) (by kernel_rfl) (by simp) ?_
      refine AllReadyH.cons (o := ?_) ?_ ?_ ?_
      rotate_left 1
      · simp only [List.getElem?_toArray, List.getElem?_cons_succ, List.getElem?_cons_zero]; rfl
      rotate_left 1
      · exact AllReadyH.nil
      intro K hK
      go_simp
      ((with_reducible refine (CP2.out _ G9.out.b.at_).mono ?_); rintro e' z2 ⟨rfl, a2, f2⟩; have G10 := Lib.hid (G9.out.op2 a2 PI2.out (Int.le_refl _) f2 (fun b hb => Or.inl hb)); have K10 := Lib.hid (K9.out.fr f2 (fun hh => HBX.out.1.2 (Or.inl hh))); have R10 := Lib.hid (R9.out.fr f2 (fun hh => NR7.out.2 (Or.inl hh))); clear a2 f2)
      refine hK.out _ _ K10.out.rd (fun hHeld => ?_)
      clear hK K
      try simp only [Act.put, List.setIfInBounds_toArray, List.set_cons_zero, List.set_cons_succ]
      refine wpAnyH_take (i := 14) (oi := ?_) (v := ?_) ?_ ?_ ?_ ?_ ?_ ?_ ?_ ?_
      rotate_left 2
      · simp only [List.getElem?_toArray, List.getElem?_cons_succ, List.getElem?_cons_zero]; rfl
      · kernel_rfl
      · kernel_rfl
      · kernel_rfl
      · exact fun _ _ _ h => h
      · refine Or.inl ⟨by rfl, ?_⟩
        intro w' hSw
        (try dsimp only at hSw)
        go_simp
        all_goals (with_reducible rfl)
      · assumption
      try simp only [Act.put, List.setIfInBounds_toArray, List.set_cons_zero, List.set_cons_succ]
      refine wpAnyH_done (by kernel_rfl) ?_ _
      clear hHeld CP1 CP2
      have hD0 := Lib.hid (show t' + D < 4611686018427387904 from by have := HTD.out; have := HT'.out; have := HDD.out; omega)
      have CC1 := Lib.hid (fun wx (hx : LmAt wx N1 u1) => lmcheckI (N := N1) (s := u1) t' 0 ky q (by have := HKY.out; unfold maxLen; omega) (by unfold inR; omega) (by have := HQ.out; unfold inR; omega) wx hx G10.out.a.I (by omega))
      have CC2 := Lib.hid (fun wx (hx : LmAt wx N2 u2) => lmcheckI (N := N2) (s := u2) td 0 ky q (by have := HKY.out; unfold maxLen; omega) (by unfold inR; omega) (by have := HQ.out; unfold inR; omega) wx hx G10.out.b.I (by omega))
      have CI1 := Lib.hid (G10.out.a.I.check (by omega) 0 ky q)
      have CI2 := Lib.hid (G10.out.b.I.check (by omega) 0 ky q)
      have hck := HSU.out.check (cost := q) (now := t') HSN.out HE.out G10.out.a.I (by rw [← HTD.out]; exact G10.out.b.I) (by omega) hD0.out ky
      rw [← HTD.out] at hck
      obtain ⟨⟨v2, ca2, ev2⟩, hc2⟩ : ∃ z, z = u2.check N2 td 0 ky q := ⟨_, rfl⟩
      obtain ⟨⟨v1, ⟨cv, cr, ct⟩, ev⟩, hc1⟩ : ∃ z, z = u1.check N1 t' 0 ky q := ⟨_, rfl⟩
      rw [← hc1] at CC1 CI1 hck
      rw [← hc2] at CC2 CI2 hck
      obtain ⟨h12, hs12⟩ := hck
      injection h12 with h3 h4
      subst h3 h4
      dsimp only at hs12
      have HSV := Lib.hid hs12
      clear hs12 hc1 hc2 hD0
      dsimp only at CC1 CC2 CI1 CI2
      have kc := K10.out.rd
      go_upto_region 18 with (go_at_call 24; go_loud ((with_reducible refine (CC1.out _ G10.out.a.at_).mono ?_); rintro e' z3 ⟨vv1, rfl, o1, a1, f1⟩; obtain ⟨x11, y11, ex11, kr11, kw11, ey11, b11, k11⟩ := boxA z3 cv cr ct; have G11 := Lib.hid ((G10.out.op1 a1 CI1.out (by omega) f1 (fun b hb => hb)).keep b11); have R11 := Lib.hid ((R10.out.fr f1 NR7.out.1).keep b11); have K11 := Lib.hid ((K10.out.fr f1 HBX.out.1.1).keep b11); have C11 := Lib.hid k11; have O11 := Lib.hid o1; have Z11 := Lib.hid (show (¬ N2.all z3.heap.size) from fun hh => by have h1 := G10.out.b.at_.lt _ hh; have h2 := f1.size; omega); clear o1 a1 f1 b11 k11))
      clear CC1 ex11 kr11 kw11 ey11 kc
      obtain ⟨ac, hac⟩ : ∃ z, z = z3.heap.size := ⟨_, rfl⟩
      rw [← hac] at C11 Z11 ⊢
      clear hac
      obtain ⟨ne, hne⟩ : ∃ z, z = ev2.length := ⟨_, rfl⟩
      obtain ⟨A3, c3, hv3, hq3⟩ := G.own_at O11.out
      subst hv3
      rw [← hne] at CC2 ⊢
      clear hq3 O11
      have kc := K11.out.rd
      go_upto_region 19 with (go_at_call 24; go_loud ((with_reducible refine (CC2.out _ G11.out.b.at_).mono ?_); rintro e' z4 ⟨vv2, rfl, o2, a2, f2⟩; obtain ⟨A4, c4, hv4, hq4⟩ := G.own_at o2; subst hv4; obtain ⟨x12, y12, ex12, kr12, kw12, ey12, b12, k12⟩ := boxA z4 cv cr ct; have G12 := Lib.hid ((G11.out.op2 a2 CI2.out (Int.le_refl _) f2 (fun b hb => hb)).keep b12); have R12 := Lib.hid ((R11.out.fr f2 NR7.out.2).keep b12); have C12 := Lib.hid ((C11.out.fr f2 Z11.out).keep b12); have D12 := Lib.hid k12; clear o2 hq4 a2 f2 b12 k12))
      clear CC2 ex12 kr12 kw12 ey12 kc etd
      obtain ⟨ad, had⟩ : ∃ z, z = z4.heap.size := ⟨_, rfl⟩
      rw [← had] at D12 ⊢
      clear had
      have heq2 : ∀ w, (Op.equalIn 10000 40 (.agg #[.int .i64 cv, .int .i64 cr, .int .i64 ct]) (.agg #[.int .i64 cv, .int .i64 cr, .int .i64 ct])).run Tryz.prog w = .ok true w := fun w => by rw [answer_equal]; simp
      have kac := C12.out.rd
      have kad := D12.out.rd
      go_wp2
      go_roundg (n2 - (i + 1))
      case measure => have := HKK.out; have := HIN.out; omega
      case rel => exact ⟨i + 1, t', v1, v2, HIN.out, Lib.hid rfl, by go_num, rfl, Lib.hid (by have := HT'.out; omega), HSV, Lib.hid (by rw [← HTD.out]; exact G12.out.mono ⟨Int.le_refl _, by have := HT'.out; omega⟩ ⟨Int.le_refl _, by have := G12.out.b.I.t0; omega⟩ (by omega)), R12⟩
    · have hie : i = n2 := by omega
      subst hie
      have hln : s2.len N2 = s1.len N1 := by rw [← HE.out.len]; exact HSH.out.len
      have CT1 := Lib.hid (lmtotals_any wr HG.out.a.at_)
      have CT2 := Lib.hid (fun wx (hx : LmAt wx N2 s2) => show Calls Tryz.prog 27 #[.pointer (some ⟨N2.l, 0, none⟩)] wx (fun e w' => e = .returned (totV s1.al s1.de s1.ba (s1.len N1) s1.tot) ∧ Below wx.heap.size wx w') from by rw [← HSH.out.al, ← HSH.out.de, ← HSH.out.ba, ← HSH.out.tot, ← hln]; exact lmtotals_any wx hx)
      obtain ⟨q1, hq1⟩ : ∃ z, z = s1.al := ⟨_, rfl⟩
      obtain ⟨q2, hq2⟩ : ∃ z, z = s1.de := ⟨_, rfl⟩
      obtain ⟨q3, hq3⟩ : ∃ z, z = s1.ba := ⟨_, rfl⟩
      obtain ⟨q4, hq4⟩ : ∃ z, z = s1.len N1 := ⟨_, rfl⟩
      obtain ⟨q5, hq5⟩ : ∃ z, z = s1.tot := ⟨_, rfl⟩
      rw [← hq1, ← hq2, ← hq3, ← hq4, ← hq5] at CT1 CT2
      clear hq1 hq2 hq3 hq4 hq5 hin hln
      have heq : ∀ w, (Op.equalIn 10000 47 (.agg #[.int .i64 q1, .int .i64 q2, .int .i64 q3, .int .i64 q4, .int .i64 q5]) (.agg #[.int .i64 q1, .int .i64 q2, .int .i64 q3, .int .i64 q4, .int .i64 q5])).run Tryz.prog w = .ok true w := fun w => by rw [totals_equal]; simp
      go_wp2_with (go_at_call 27; first
        | ((with_reducible refine CT1.out.mono ?_); rintro e' z4 ⟨rfl, b4⟩; have H4 := Lib.hid (HG.out.keep b4); have B4 := Lib.hid b4; clear b4)
        | ((with_reducible refine (CT2.out _ H4.out.b.at_).mono ?_); rintro e' z5 ⟨rfl, b5⟩; have H5 := Lib.hid (H4.out.keep b5); clear b5))
      go_ret
      exact ⟨rfl, H5.out.a.bl⟩
end Go.Proofs.YtbgcpljekcagiaaGreat
