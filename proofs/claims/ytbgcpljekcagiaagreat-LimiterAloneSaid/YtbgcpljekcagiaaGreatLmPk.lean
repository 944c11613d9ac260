import Derived.Test.YtbgcpljekcagiaaGreatZLmN
import Derived.Test.YtbgcpljekcagiaaGreatZLiftS
/- The law LimiterPeeks of layer 12 (limiter), walked. -/
namespace Go.Proofs.YtbgcpljekcagiaaGreat
set_option linter.unusedSimpArgs false
set_option linter.unusedVariables false
set_option maxRecDepth 100000
open Go.ChangeShapes Go.WideShapes Go.ChangeAt Go.RowKit
open Ar (inR)
theorem check_ev {N : LmN} {s : LmS} {now held cost : Int} (key : ByteArray) : (s.check N now held key cost).2.2.length ≤ 2 := by
  unfold LmS.check
  split
  · exact Nat.zero_le _
  · show ((s.seen N now key cost).adm N now key).2.length ≤ 2
    unfold LmS.adm
    split
    · exact Nat.zero_le _
    · split
      · split
        · exact Nat.le_refl _
        · exact Nat.zero_le _
      · exact Nat.le_succ _
set_option maxRecDepth 100000 in
set_option maxHeartbeats 6000000 in
theorem lmpeeks_law (w : World) (a b c d e f g h : Int) (sm : Bool) (A : Option Addr) (n c0 : Nat) (zs : List Int) (A2 : Option Addr) (n2 c2 : Nat) (L : List Cl) (hpl : RuleOK a b c d e f g h) (hr : RdI w .u64 A n c0 zs) (hr2 : RdL w A2 n2 c2 4 encCl L) (hok : ∀ a ∈ L, okCl a) :
    Calls Tryz.prog 6 #[planV a b c d e f g h sm, .slice A n c0, .slice A2 n2 c2] w fun e w' => e = .returned (.bool true) ∧ Below w.heap.size w w' := by
  clear hpl
  have hmx2 := hr2.max
  unfold maxLen at hmx2
  have hcp2 := hr2.cap
  have HR2 := Lib.hid hr2
  have HO := Lib.hid hok
  have hmx1 := hr.max
  unfold maxLen at hmx1
  have hcp1 := hr.cap
  have HR1 := Lib.hid hr
  clear hr
  clear hr2 hok
  obtain ⟨w1, hw1, k1, l1', s1⟩ := box_new w (planC a b c d e f g h sm) 23
  obtain ⟨pl, hpl⟩ : ∃ x, x = w.heap.size := ⟨_, rfl⟩
  rw [← hpl] at k1
  have K2 := Lib.hid (And.intro k1 l1')
  have HB := Lib.hid hpl
  clear k1 l1' s1
  go_enter Tryz.func6, Tryz.ntmps6
  go_upto_region 1 with (fail)
  rw [← HB.out]
  clear hw1 hpl
  go_upto_region 3 with (go_at_call 15; ((refine (lmfit_any _).mono ?_); rintro e w3 ⟨rfl, b3⟩; have K3 := Lib.hid (And.intro (K2.out.1.keep b3) (below_in K2.out.2 b3)); clear b3))
  by_cases hn60 : 60 < n
  · have t60 : decide ((60 : Int) < (n : Int)) = true := by rw [decide_eq_true_iff]; omega
    clear hn60
    go_wp2
    go_ret
    exact ⟨rfl, K3.out.2⟩
  have t60 : decide ((60 : Int) < (n : Int)) = false := by rw [decide_eq_false_iff_not]; omega
  clear hn60
  have CLi := Lib.hid (lmlight_any A2 n2 c2 L w3 (HR2.out.below K3.out.2) HO.out)
  cases hlb : lightC L with
  | false =>
    rw [hlb] at CLi
    go_wp2_with (go_at_call 16; ((with_reducible refine CLi.out.mono ?_); rintro e w4 ⟨rfl, b4⟩; have T4 := Lib.hid (below_in K3.out.2 b4); clear b4))
    go_ret
    exact ⟨rfl, T4.out⟩
  | true =>
  rw [hlb] at CLi
  have hlc := lightC_at hlb
  have hlen := hlc.1
  have HLK := Lib.hid hlc.2
  have hln := HR2.out.len
  have hb2 : (n2 : Int) ≤ 150 := by omega
  clear hlb hlen hln hlc
  go_upto_region 5 with (go_at_call 16; ((with_reducible refine CLi.out.mono ?_); rintro e w4 ⟨rfl, b4⟩; have K4 := Lib.hid (And.intro (K3.out.1.keep b4) (below_in K3.out.2 b4)); clear b4))
  clear CLi
  have kp := K4.out.1.rd
  have CRu := Lib.hid (lmrule_any a b c d e f g h sm w4)
  obtain ⟨Li, hLm⟩ : ∃ x, x = lqL a := ⟨_, rfl⟩
  obtain ⟨Wd, hWd⟩ : ∃ x, x = ((lqS b * lqN d : Nat) : Int) := ⟨_, rfl⟩
  obtain ⟨Bu, hBu⟩ : ∃ x, x = lqB a c := ⟨_, rfl⟩
  obtain ⟨Sl, hSl⟩ : ∃ x, x = ((lqN d : Nat) : Int) := ⟨_, rfl⟩
  obtain ⟨Ce, hCe⟩ : ∃ x, x = ((lqC e : Nat) : Int) := ⟨_, rfl⟩
  obtain ⟨kR, hkR⟩ : ∃ x, x = ((lqR f : Nat) : Int) := ⟨_, rfl⟩
  obtain ⟨Wi, hWi⟩ : ∃ x, x = ((lqW g : Nat) : Int) := ⟨_, rfl⟩
  obtain ⟨Tr, hTr⟩ : ∃ x, x = ((lqT h : Nat) : Int) := ⟨_, rfl⟩
  obtain ⟨smm, hsm⟩ : ∃ x, x = lqM sm d := ⟨_, rfl⟩
  rw [← hLm, ← hWd, ← hBu, ← hSl, ← hCe, ← hkR, ← hWi, ← hTr, ← hsm] at CRu
  have CNw := Lib.hid (fun wx (hx : Below w.heap.size w wx) => show Calls Tryz.prog 18 #[rlV Li Wd Bu Sl Ce kR Wi Tr smm, .slice A n c0] wx _ from by rw [hLm, hWd, hBu, hSl, hCe, hkR, hWi, hTr, hsm]; exact lmplan_new a b c d e f g h (lqM sm d) A n c0 zs wx (HR1.out.below hx))
  have HP := Lib.hid (And.intro hLm (And.intro hWd (And.intro hBu (And.intro hSl (And.intro hCe (And.intro hkR (And.intro hWi (And.intro hTr hsm))))))))
  clear hLm hWd hBu hSl hCe hkR hWi hTr hsm
  go_upto_region 6 with (go_at_call 17; ((with_reducible refine CRu.out.mono ?_); rintro e w5 ⟨rfl, b5⟩; obtain ⟨y1, y2, ey1, kr9, kw9, ey2, bl9, kc9⟩ := box9R w5 (.int .i64 Li) (.int .i64 Wd) (.int .i64 Bu) (.int .i64 Sl) (.int .i64 Ce) (.int .i64 kR) (.int .i64 Wi) (.int .i64 Tr) (.bool smm); have K6 := Lib.hid (And.intro kc9 (below_in (below_in K4.out.2 b5) bl9)); clear b5 bl9 kc9))
  clear ey1 kr9 kw9 ey2 kp CRu
  obtain ⟨rb, hrb⟩ : ∃ rb, rb = w5.heap.size := ⟨_, rfl⟩
  rw [← hrb] at K6 ⊢
  clear hrb
  have kru := K6.out.1.rd
  go_upto_region 6 with (fail)
  have BN := Lib.hid (show Below y2.heap.size y2 y2.drew from below_draws (Below.refl _ _) 1)
  have SB := Lib.hid (fun wx (hb : Below y2.heap.size y2 wx) => show ∀ j, wx.cell? ⟨rb, j, none⟩ = (#[.int .i64 Li, .int .i64 Wd, .int .i64 Bu, .int .i64 Sl, .int .i64 Ce, .int .i64 kR, .int .i64 Wi, .int .i64 Tr, .bool smm] : Array Value)[j]? from (K6.out.1.keep hb).rd)
  have st := SB.out _ BN.out
  clear kru
  refine wp_region_held_drew (S := fun wx => ∀ j, wx.cell? ⟨rb, j, none⟩ = (#[.int .i64 Li, .int .i64 Wd, .int .i64 Bu, .int .i64 Sl, .int .i64 Ce, .int .i64 kR, .int .i64 Wi, .int .i64 Tr, .bool smm] : Array Value)[j]?) (by kernel_rfl) st (fun hHeld => ?_)
  clear st
  refine wpAnyH_take (i := 0) (oi := ?_) (v := ?_) ?_ ?_ ?_ ?_ ?_ ?_ ?_ ?_
  rotate_left 2
  · simp only [List.getElem?_toArray, List.getElem?_cons_succ, List.getElem?_cons_zero]; rfl
  · kernel_rfl
  · kernel_rfl
  · kernel_rfl
  · exact fun _ _ _ h => h
  · refine Or.inl ⟨by rfl, ?_⟩
    intro w' hSw
    (try dsimp only at hSw)
    go_simp
    all_goals (with_reducible rfl)
  · assumption
  try simp only [Act.put, List.setIfInBounds_toArray, List.set_cons_zero, List.set_cons_succ]
  refine wpAnyH_take (i := 1) (oi := ?_) (v := ?_) ?_ ?_ ?_ ?_ ?_ ?_ ?_ ?_
  rotate_left 2
  · simp only [List.getElem?_toArray, List.getElem?_cons_succ, List.getElem?_cons_zero]; rfl
  · kernel_rfl
  · kernel_rfl
  · kernel_rfl
  · exact fun _ _ _ h => h
  · refine Or.inl ⟨by rfl, ?_⟩
    intro w' hSw
    (try dsimp only at hSw)
    go_simp
    all_goals (with_reducible rfl)
  · assumption
  try simp only [Act.put, List.setIfInBounds_toArray, List.set_cons_zero, List.set_cons_succ]
  refine wpAnyH_take (i := 3) (oi := ?_) (v := ?_) ?_ ?_ ?_ ?_ ?_ ?_ ?_ ?_
  rotate_left 2
  · simp only [List.getElem?_toArray, List.getElem?_cons_succ, List.getElem?_cons_zero]; rfl
  · kernel_rfl
  · kernel_rfl
  · kernel_rfl
  · exact fun _ _ _ h => h
  · refine Or.inl ⟨by rfl, ?_⟩
    intro w' hSw
    (try dsimp only at hSw)
    go_simp
    all_goals (with_reducible rfl)
  · assumption
  try simp only [Act.put, List.setIfInBounds_toArray, List.set_cons_zero, List.set_cons_succ]
  refine wpAnyH_take (i := 4) (oi := ?_) (v := ?_) ?_ ?_ ?_ ?_ ?_ ?_ ?_ ?_
  rotate_left 2
  · simp only [List.getElem?_toArray, List.getElem?_cons_succ, List.getElem?_cons_zero]; rfl
  · kernel_rfl
  · kernel_rfl
  · kernel_rfl
  · exact fun _ _ _ h => h
  · refine Or.inl ⟨by rfl, ?_⟩
    intro w' hSw
    (try dsimp only at hSw)
    go_simp
    all_goals (with_reducible rfl)
  · assumption
  try simp only [Act.put, List.setIfInBounds_toArray, List.set_cons_zero, List.set_cons_succ]
  refine wpAnyH_ready (rs := [2]) (by kernel_rfl) (by simp) ?_
  refine AllReadyH.cons (o := ?_) ?_ ?_ ?_
  rotate_left 1
  · simp only [List.getElem?_toArray, List.getElem?_cons_succ, List.getElem?_cons_zero]; rfl
  rotate_left 1
  · exact AllReadyH.nil
  intro K hK
  go_simp
  ((with_reducible refine (CNw.out _ (below_in K6.out.2 BN.out)).mono ?_); rintro v w7 ⟨N1, rfl, a7, p7, n7, b7⟩; have P7 := Lib.hid p7; have M7 := Lib.hid (G.below_on BN.out b7); have A7 := Lib.hid (And.intro a7 (show ∀ b, N1.all b → y2.heap.size ≤ b from n7)); clear a7 p7 n7 b7)
  refine hK.out _ _ (SB.out _ M7.out) (fun hHeld => ?_)
  clear hK K
  try simp only [Act.put, List.setIfInBounds_toArray, List.set_cons_zero, List.set_cons_succ]
  refine wpAnyH_ready (rs := [5]) (by kernel_rfl) (by simp) ?_
  refine AllReadyH.cons (o := ?_) ?_ ?_ ?_
  rotate_left 1
  · simp only [List.getElem?_toArray, List.getElem?_cons_succ, List.getElem?_cons_zero]; rfl
  rotate_left 1
  · exact AllReadyH.nil
  intro K hK
  go_simp
  ((with_reducible refine (CNw.out _ (below_in K6.out.2 M7.out)).mono ?_); rintro v w8 ⟨N2, rfl, a8, p8, n8, b8⟩; have P8 := Lib.hid p8; have M8 := Lib.hid (G.below_on M7.out b8); have G7 := Lib.hid (show LmTwo w w8 N1 N2 (lmZ (lqC e)) (lmZ (lqC e)) 0 0 0 from ⟨⟨A7.out.1.keep b8, lmplan_I A7.out.1 P7.out, fun b hb => Nat.le_trans K6.out.2.size (A7.out.2 b hb), below_in K6.out.2 M8.out⟩, ⟨a8, lmplan_I a8 p8, fun b hb => Nat.le_trans K6.out.2.size (Nat.le_trans M7.out.size (n8 b hb)), below_in K6.out.2 M8.out⟩, fun k hk1 hk2 => by have h1 := A7.out.1.lt k hk1; have h2 := n8 k hk2; omega⟩); have R7 := Lib.hid (K6.out.1.keep M8.out); have NR7 := Lib.hid (show (¬ N1.all rb) ∧ ¬ N2.all rb from ⟨fun hb => by have h1 := A7.out.2 rb hb; have h2 := lt_of_block K6.out.1; omega, fun hb => by have h1 := n8 rb hb; have h2 := lt_of_block K6.out.1; have h3 := M7.out.size; omega⟩); clear a8 p8 n8 b8)
  refine hK.out _ _ (SB.out _ M8.out) (fun hHeld => ?_)
  clear hK K
  try simp only [Act.put, List.setIfInBounds_toArray, List.set_cons_zero, List.set_cons_succ]
  refine wpAnyH_take (i := 6) (oi := ?_) (v := ?_) ?_ ?_ ?_ ?_ ?_ ?_ ?_ ?_
  rotate_left 2
  · simp only [List.getElem?_toArray, List.getElem?_cons_succ, List.getElem?_cons_zero]; rfl
  · kernel_rfl
  · kernel_rfl
  · kernel_rfl
  · exact fun _ _ _ h => h
  · refine Or.inl ⟨by rfl, ?_⟩
    intro w' hSw
    (try dsimp only at hSw)
    go_simp
    all_goals (with_reducible rfl)
  · assumption
  try simp only [Act.put, List.setIfInBounds_toArray, List.set_cons_zero, List.set_cons_succ]
  refine wpAnyH_take (i := 7) (oi := ?_) (v := ?_) ?_ ?_ ?_ ?_ ?_ ?_ ?_ ?_
  rotate_left 2
  · simp only [List.getElem?_toArray, List.getElem?_cons_succ, List.getElem?_cons_zero]; rfl
  · kernel_rfl
  · kernel_rfl
  · kernel_rfl
  · exact fun _ _ _ h => h
  · refine Or.inl ⟨by rfl, ?_⟩
    intro w' hSw
    (try dsimp only at hSw)
    go_simp
    all_goals (with_reducible rfl)
  · assumption
  try simp only [Act.put, List.setIfInBounds_toArray, List.set_cons_zero, List.set_cons_succ]
  refine wpAnyH_done (by kernel_rfl) ?_ _
  clear hHeld CNw
  have HPB := Lib.hid (show LmB N1 ∧ N1.B = Bu ∧ 1 ≤ Bu ∧ Bu ≤ 32 from by rw [HP.out.2.2.1]; exact lmplan_B P7.out)
  have HE := Lib.hid (show LmE N1 N2 from P7.out.same P8.out)
  go_wp2
  go_loopg [41, 10] n2 (fun kk si sn wr => ∃ (i : Nat) (t : Int) (s : LmS) (x : Int), i ≤ n2 ∧ Hid (kk = n2 - i) ∧ si = .int .i64 (i : Int) ∧ sn = .int .i64 t ∧ Hid (0 ≤ t ∧ t ≤ 1023 * (i : Int)) ∧ Hid (s.r.t ≤ x ∧ x ≤ t) ∧ Hid (LmTwo w wr N1 N2 (s.at x) s t t (2097153 * (i : Int))) ∧ Hid (Blk wr rb 29 #[.int .i64 Li, .int .i64 Wd, .int .i64 Bu, .int .i64 Sl, .int .i64 Ce, .int .i64 kR, .int .i64 Wi, .int .i64 Tr, .bool smm]))
  case atStart => exact ⟨0, 0, lmZ (lqC e), 0, by omega, Lib.hid rfl, rfl, rfl, Lib.hid (by omega), Lib.hid ⟨Int.le_refl _, Int.le_refl _⟩, Lib.hid G7.out, R7⟩
  case round =>
    obtain ⟨i, t, s, x, hi, HKK, rfl, rfl, HT, HXX, HG, HRB⟩ := hrel
    by_cases hin : i < n2
    · have hl2 := HR2.out.len
      obtain ⟨b', off, rfl, hbl, hcl⟩ := (HR2.out.below HG.out.a.bl).at_ (by omega)
      obtain ⟨⟨gp, cs, ky, pk⟩, ha⟩ : ∃ a, L[i]? = some a := ⟨_, List.getElem?_eq_getElem (by omega)⟩
      have HKY := Lib.hid (HLK.out _ (List.mem_of_getElem? ha))
      have hky : ky.size ≤ 64 := HKY.out
      have HCS := Lib.hid (HO.out _ (List.mem_of_getElem? ha))
      have kr0 : wr.cell? ⟨b', off + i * 4, none⟩ = some (.int .i64 gp) := hcl i _ ha 0 (by omega)
      have kr1 : wr.cell? ⟨b', off + i * 4 + 1, none⟩ = some (.int .i64 cs) := hcl i _ ha 1 (by omega)
      have kr2 : wr.cell? ⟨b', off + i * 4 + 2, none⟩ = some (.string ky) := hcl i _ ha 2 (by omega)
      have kr3 : wr.cell? ⟨b', off + i * 4 + 3, none⟩ = some (.bool pk) := hcl i _ ha 3 (by omega)
      obtain ⟨y1, y2, ey1, kr, kw, ey2, bl2, kc2⟩ := box4C wr (.int .i64 gp) (.int .i64 cs) (.string ky) (.bool pk)
      have G6 := Lib.hid (HG.out.keep bl2)
      obtain ⟨bx, hbx⟩ : ∃ bx, bx = wr.heap.size := ⟨_, rfl⟩
      have HBX := Lib.hid (show ((¬ N1.all bx) ∧ ¬ N2.all bx) ∧ w.heap.size ≤ bx ∧ bx < y2.heap.size from ⟨⟨fun hh => by have := HG.out.a.at_.lt bx hh; omega, fun hh => by have := HG.out.b.at_.lt bx hh; omega⟩, by have := HG.out.a.bl.size; omega, by have := lt_of_block kc2; omega⟩)
      rw [← hbx] at kc2
      have kc3 := kc2.rd
      have KC := Lib.hid kc2
      have KRu := Lib.hid (HRB.out.keep bl2)
      have hgb := gapL_bd gp
      obtain ⟨gq, hgq⟩ : ∃ x, x = gapL gp := ⟨_, rfl⟩
      have HGQ := Lib.hid hgq
      have CG := Lib.hid (fun wx => gapL_any gp wx)
      rw [← hgq] at CG hgb
      obtain ⟨t', ht'⟩ : ∃ x, x = t + gq := ⟨_, rfl⟩
      have hT := HT.out
      have et : IntKind.i64.wrap (t + gq) = t' := by rw [IntKind.wrap_i64]; omega
      have HT' := Lib.hid (show (0 ≤ t' ∧ t' ≤ 1023 * ((i : Int) + 1)) ∧ t ≤ t' ∧ t' ≤ 4611686018427380000 ∧ t' = t + gq by omega)
      have CC := Lib.hid (fun wx => costL_any Li Wd Bu Sl Ce kR Wi Tr smm cs ⟨HPB.out.2.2.1, HPB.out.2.2.2⟩ wx)
      have hqb := costL_bd (n := cs) ⟨HPB.out.2.2.1, HPB.out.2.2.2⟩
      obtain ⟨q, hq⟩ : ∃ x, x = costL Bu cs := ⟨_, rfl⟩
      rw [← hq] at CC hqb
      have HQ := Lib.hid (And.intro hqb hq)
      have t2 : (i : Int) < (n2 : Int) := by omega
      have HIN := Lib.hid hin
      clear hl2 hcl hbl bl2 kc2 hgb hgq ht' hT hq hin hqb hky
      go_upto_region 11 with (fail)
      rw [← hbx]
      have HBXS := Lib.hid hbx
      clear kr kw ey1 kr0 kr1 kr2 kr3 ey2 hbx
      have krl := KRu.out.rd
      go_upto_region 13 with (first
        | (go_at_call 20; ((with_reducible refine (CG.out _).mono ?_); rintro v y3 ⟨rfl, rfl⟩))
        | (go_at_call 21; ((with_reducible refine (CC.out _).mono ?_); rintro v y4 ⟨rfl, b4⟩; have G8 := Lib.hid (G6.out.keep b4); have K8 := Lib.hid (KC.out.keep b4); have R8 := Lib.hid (KRu.out.keep b4); have HB8 := Lib.hid (show bx < y4.heap.size from Nat.lt_of_lt_of_le HBX.out.2.2 b4.size); clear b4)))
      clear CG CC et kc3 krl
      have HG8 := Lib.hid (G8.out.mono (t1' := t') (t2' := t') (m' := 2097153 * (i : Int)) (by have := HT'.out; omega) (by have := HT'.out; omega) (by omega))
      have PI := Lib.hid (HG8.out.a.I.peeked (N := N1) 0 q)
      have CPk := Lib.hid (lmpeekI t' 0 ky q (by have := HKY.out; unfold maxLen; omega) (by unfold inR; omega) (by have := HQ.out; unfold inR; omega) y4 HG8.out.a.at_ HG8.out.a.I)
      obtain ⟨y, hy1, hy2, hy3⟩ := peeked_at (N := N1) (s := s.at x) (now := t') (cost := q) 0
      have hxt : s.r.t ≤ x ∧ x ≤ t' := by have h1 := HXX.out; have h2 := HT'.out; omega
      rw [hy1, peek_at hxt] at CPk
      rw [hy1] at PI
      have hyx : x ≤ y ∧ y ≤ t' := ⟨hy2, hy3 hxt.2⟩
      have HY := Lib.hid (show s.r.t ≤ y ∧ y ≤ t' by omega)
      have PC := Lib.hid (fun h => peek_check (N := N1) (s := s) (now := t') (cost := q) (key := ky) HG8.out.a.I.U.1 HG8.out.a.I.W.1 (by omega) h)
      obtain ⟨⟨pv, pr, pt⟩, hpk⟩ : ∃ z, z = s.peek N1 t' 0 ky q := ⟨_, rfl⟩
      rw [← hpk] at CPk PC
      clear hpk hy1 hy2 hy3 hxt hyx
      have kc := K8.out.rd
      go_upto_region 14 with (go_at_call 22; ((with_reducible refine CPk.out.mono ?_); rintro e' y5 ⟨rfl, a5, f5⟩; obtain ⟨x6, y6, ex6, kr6, kw6, ey6, b6, k6⟩ := boxA y5 pv pr pt; have G9 := Lib.hid (show LmTwo w y6 N1 N2 (s.at y) s t' t' (2097153 * (i : Int)) from (HG8.out.op1 a5 PI.out (Int.le_refl _) f5 (fun b hb => Or.inl hb)).keep b6); have K9 := Lib.hid ((K8.out.fr f5 (fun hh => HBX.out.1.1 (Or.inl hh))).keep b6); have R9 := Lib.hid ((R8.out.fr f5 (fun hh => NR7.out.1 (Or.inl hh))).keep b6); have A9 := Lib.hid k6; have Z9 := Lib.hid (show (¬ N1.all y5.heap.size) ∧ ¬ N2.all y5.heap.size from by have g := (HG8.out.op1 a5 PI.out (Int.le_refl _) f5 (fun b hb => Or.inl hb)); exact ⟨fun hh => by have := g.a.at_.lt _ hh; omega, fun hh => by have := g.b.at_.lt _ hh; omega⟩); clear a5 f5 b6 k6))
      clear CPk ex6 kr6 kw6 ey6 kc
      obtain ⟨ab, hab⟩ : ∃ z, z = y5.heap.size := ⟨_, rfl⟩
      rw [← hab] at A9 Z9 ⊢
      clear hab
      obtain ⟨rs, hrs⟩ : ∃ z, z = s.cellOf N1 ky := ⟨_, rfl⟩
      have CR := Lib.hid (show Calls Tryz.prog 34 #[.pointer (some ⟨N1.l, 0, none⟩), .string ky] y6 (fun e w' => e = .returned (resV rs) ∧ Below y6.heap.size y6 w') from by rw [hrs]; exact lmcell_any (s := s.at y) ky (by have := HKY.out; unfold maxLen; omega) y6 G9.out.a.at_)
      rw [← hrs] at PC
      clear hrs
      obtain ⟨rc, hrc⟩ : ∃ rc : Cel, rc = rs.getD (0, 0, 0, 0) := ⟨_, rfl⟩
      obtain ⟨rb', hrb'⟩ : ∃ b : Bool, b = rs.isSome := ⟨_, rfl⟩
      have erv : resV rs = .tuple #[celV rc, .bool rb'] := by rw [hrc, hrb']; cases rs <;> rfl
      rw [erv] at CR
      have HRB' := Lib.hid hrb'
      clear hrc hrb' erv
      have kc := K9.out.rd
      go_upto_region 15 with (go_at_call 34; ((with_reducible refine CR.out.mono ?_); rintro e' y7 ⟨rfl, b7⟩; obtain ⟨x8, y8, ex8, kr8, kw8, ey8, b8, k8⟩ := cbox y7 rc; have G10 := Lib.hid ((G9.out.keep b7).keep b8); have R10 := Lib.hid ((R9.out.keep b7).keep b8); have A10 := Lib.hid ((A9.out.keep b7).keep b8); have K10 := Lib.hid ((K9.out.keep b7).keep b8); clear b7 b8 k8))
      clear CR ex8 kr8 kw8 ey8 kc
      have kc := K10.out.rd
      cases pk
      rotate_left
      · go_wp2
        go_roundg (n2 - (i + 1))
        case measure => have := HKK.out; have := HIN.out; omega
        case rel => exact ⟨i + 1, t', s, y, HIN.out, Lib.hid rfl, by go_num, rfl, Lib.hid (by have := HT'.out; omega), HY, Lib.hid (G10.out.mono (by have := HT'.out; omega) (by have := HT'.out; omega) (by omega)), R10⟩
      have CC1 := Lib.hid (lmcheckI (N := N1) (s := s.at y) t' 0 ky q (by have := HKY.out; unfold maxLen; omega) (by unfold inR; omega) (by have := HQ.out; unfold inR; omega) y8 G10.out.a.at_ G10.out.a.I (by omega))
      have CI1 := Lib.hid (G10.out.a.I.check (by omega) 0 ky q)
      obtain ⟨hca, x2, hcb, hcx⟩ := check_at (N := N1) (s := s) (now := t') (cost := q) (x := y) HY.out 0 ky
      have HCX := Lib.hid hcx
      have CC2 := Lib.hid (fun wx (hx : LmAt wx N2 s) => lmcheckI (N := N2) (s := s) t' 0 ky q (by have := HKY.out; unfold maxLen; omega) (by unfold inR; omega) (by have := HQ.out; unfold inR; omega) wx hx G10.out.b.I (by omega))
      have CI2 := Lib.hid (G10.out.b.I.check (by omega) 0 ky q)
      rw [← HE.out.check] at CC2 CI2
      rw [hca, hcb] at CC1
      rw [hcb] at CI1
      have hel := check_ev (N := N1) (s := s) (now := t') (held := 0) (cost := q) ky
      obtain ⟨⟨s2, ⟨cv, cr, ct⟩, ev⟩, hck⟩ : ∃ z, z = s.check N1 t' 0 ky q := ⟨_, rfl⟩
      rw [← hck] at CC1 CC2 CI1 CI2 HCX PC hel
      clear hck hca hcb hcx
      dsimp only at CC1 CC2 CI1 CI2 HCX PC hel
      have HEL := Lib.hid hel
      clear hel
      go_upto_region 17 with (go_at_call 24; go_loud ((with_reducible refine CC1.out.mono ?_); rintro e' z1 ⟨vv1, rfl, o1, a1, f1⟩; obtain ⟨x11, y11, ex11, kr11, kw11, ey11, b11, k11⟩ := boxA z1 cv cr ct; have G11 := Lib.hid ((G10.out.op1 a1 CI1.out (by omega) f1 (fun b hb => hb)).keep b11); have R11 := Lib.hid ((R10.out.fr f1 NR7.out.1).keep b11); have A11 := Lib.hid ((A10.out.fr f1 Z9.out.1).keep b11); have K11 := Lib.hid ((K10.out.fr f1 HBX.out.1.1).keep b11); have C11 := Lib.hid k11; have O11 := Lib.hid (Lm.own_fr (F := fun _ => False) o1 (Fr.of_below b11) (fun k hk => hk.elim)); have Z11 := Lib.hid (show (¬ N2.all z1.heap.size) ∧ (∀ k, N2.all k → k < y8.heap.size) ∧ y8.heap.size ≤ z1.heap.size from ⟨fun hh => by have h1 := G10.out.b.at_.lt _ hh; have h2 := f1.size; omega, fun k hk => G10.out.b.at_.lt k hk, f1.size⟩); clear o1 a1 f1 b11 k11))
      clear CC1 ex11 kr11 kw11 ey11 kc
      obtain ⟨ac, hac⟩ : ∃ z, z = z1.heap.size := ⟨_, rfl⟩
      rw [← hac] at C11 Z11 ⊢
      clear hac
      have kc := K11.out.rd
      have CC3 := Lib.hid (CC2.out _ G11.out.b.at_)
      go_upto_region 18 with (go_at_call 24; ((with_reducible refine CC3.out.mono ?_); rintro e' z2 ⟨vv2, rfl, o2, a2, f2⟩; obtain ⟨x12, y12, ex12, kr12, kw12, ey12, b12, k12⟩ := boxA z2 cv cr ct; have G12 := Lib.hid ((G11.out.op2 a2 CI2.out (Int.le_refl _) f2 (fun b hb => hb)).keep b12); have R12 := Lib.hid ((R11.out.fr f2 NR7.out.2).keep b12); have A12 := Lib.hid ((A11.out.fr f2 Z9.out.2).keep b12); have C12 := Lib.hid ((C11.out.fr f2 Z11.out.1).keep b12); have D12 := Lib.hid k12; have O12 := Lib.hid (Lm.own_fr (F := fun _ => False) o2 (Fr.of_below b12) (fun k hk => hk.elim)); have O13 := Lib.hid (Lm.own_fr (F := fun _ => False) (Lm.own_fr O11.out f2 (fun k hk => Z11.out.2.1 k hk)) (Fr.of_below b12) (fun k hk => hk.elim)); clear o2 a2 f2 b12 k12))
      clear CC2 CC3 ex12 kr12 kw12 ey12 kc
      obtain ⟨ad, had⟩ : ∃ z, z = z2.heap.size := ⟨_, rfl⟩
      rw [← had] at D12 ⊢
      clear had
      have CA := Lib.hid (lmalike_any t' ev HEL.out vv1 vv2 _ _ y12 O13.out O12.out)
      have heq : ∀ w, (Op.equalIn 10000 40 (.agg #[.int .i64 cv, .int .i64 cr, .int .i64 ct]) (.agg #[.int .i64 cv, .int .i64 cr, .int .i64 ct])).run Tryz.prog w = .ok true w := fun w => by rw [answer_equal]; simp
      have kac := C12.out.rd
      have kad := D12.out.rd
      go_upto_region 20 with (go_at_call 26; ((with_reducible refine CA.out.mono ?_); rintro e' z3 ⟨rfl, b3⟩; have G13 := Lib.hid (G12.out.keep b3); have R13 := Lib.hid (R12.out.keep b3); have A13 := Lib.hid (A12.out.keep b3); have C13 := Lib.hid (C12.out.keep b3); clear b3))
      clear CA heq kac kad
      have kac := C13.out.rd
      have kab := A13.out.rd
      cases rb' with
      | false =>
        clear kac kab
        go_wp2
        go_roundg (n2 - (i + 1))
        case measure => have := HKK.out; have := HIN.out; omega
        case rel => exact ⟨i + 1, t', s2, x2, HIN.out, Lib.hid rfl, by go_num, rfl, Lib.hid (by have := HT'.out; omega), HCX, Lib.hid (G13.out.mono (by have := HT'.out; omega) (by have := HT'.out; omega) (by omega)), R13⟩
      | true =>
        obtain ⟨h1, h2, h3⟩ := PC.out HRB'.out.symm
        have u1 : (cv != pv) = false := by rw [h1]; simp
        have u2 : (ct != pt) = false := by rw [h2]; simp
        by_cases h4 : cv = 2
        · have u3 : (cv == 2) = true := by simpa using h4
          have u4 : (cr != pr) = false := by rw [h3 h4]; simp
          clear h1 h2 h3 h4
          go_wp2
          go_roundg (n2 - (i + 1))
          case measure => have := HKK.out; have := HIN.out; omega
          case rel => exact ⟨i + 1, t', s2, x2, HIN.out, Lib.hid rfl, by go_num, rfl, Lib.hid (by have := HT'.out; omega), HCX, Lib.hid (G13.out.mono (by have := HT'.out; omega) (by have := HT'.out; omega) (by omega)), R13⟩
        · have u3 : (cv == 2) = false := by simpa using h4
          clear h1 h2 h3 h4
          go_wp2
          go_roundg (n2 - (i + 1))
          case measure => have := HKK.out; have := HIN.out; omega
          case rel => exact ⟨i + 1, t', s2, x2, HIN.out, Lib.hid rfl, by go_num, rfl, Lib.hid (by have := HT'.out; omega), HCX, Lib.hid (G13.out.mono (by have := HT'.out; omega) (by have := HT'.out; omega) (by omega)), R13⟩
    · have hie : i = n2 := by omega
      subst hie
      have CT1 := lmtotals_any wr HG.out.a.at_
      have CT1 := Lib.hid (show Calls Tryz.prog 27 #[.pointer (some ⟨N1.l, 0, none⟩)] wr (fun e w' => e = .returned (totV s.al s.de s.ba (s.len N2) s.tot) ∧ Below wr.heap.size wr w') from by rw [← HE.out.len]; exact CT1)
      have CT2 := Lib.hid (fun wx (hx : LmAt wx N2 s) => lmtotals_any wx hx)
      obtain ⟨q1, hq1⟩ : ∃ z, z = s.al := ⟨_, rfl⟩
      obtain ⟨q2, hq2⟩ : ∃ z, z = s.de := ⟨_, rfl⟩
      obtain ⟨q3, hq3⟩ : ∃ z, z = s.ba := ⟨_, rfl⟩
      obtain ⟨q4, hq4⟩ : ∃ z, z = s.len N2 := ⟨_, rfl⟩
      obtain ⟨q5, hq5⟩ : ∃ z, z = s.tot := ⟨_, rfl⟩
      rw [← hq1, ← hq2, ← hq3, ← hq4, ← hq5] at CT1 CT2
      clear hq1 hq2 hq3 hq4 hq5 hin
      have heq : ∀ w, (Op.equalIn 10000 47 (.agg #[.int .i64 q1, .int .i64 q2, .int .i64 q3, .int .i64 q4, .int .i64 q5]) (.agg #[.int .i64 q1, .int .i64 q2, .int .i64 q3, .int .i64 q4, .int .i64 q5])).run Tryz.prog w = .ok true w := fun w => by rw [totals_equal]; simp
      go_wp2_with (go_at_call 27; first
        | ((with_reducible refine CT1.out.mono ?_); rintro e' z4 ⟨rfl, b4⟩; have H4 := Lib.hid (HG.out.keep b4); have B4 := Lib.hid b4; clear b4)
        | ((with_reducible refine (CT2.out _ H4.out.b.at_).mono ?_); rintro e' z5 ⟨rfl, b5⟩; have H5 := Lib.hid (H4.out.keep b5); clear b5))
      go_ret
      exact ⟨rfl, H5.out.a.bl⟩
end Go.Proofs.YtbgcpljekcagiaaGreat
