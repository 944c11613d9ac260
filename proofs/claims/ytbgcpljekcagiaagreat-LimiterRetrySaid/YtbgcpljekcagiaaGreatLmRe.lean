import Derived.Test.YtbgcpljekcagiaaGreatZLmN
import Derived.Test.YtbgcpljekcagiaaGreatZLiftS
/- The law LimiterRetry of layer 12 (limiter), walked. -/
namespace Go.Proofs.YtbgcpljekcagiaaGreat
set_option linter.unusedSimpArgs false
set_option linter.unusedVariables false
set_option maxRecDepth 100000
open Go.ChangeShapes Go.WideShapes Go.ChangeAt Go.RowKit
open Ar (inR)
theorem LmLaw.box' {W w w' : World} {N : LmN} {s : LmS} {t m : Int} {b : Nat} (h : LmLaw W w N s t m) (hf : Fr (fun k => k = b) w w') (hb : ¬ N.all b) (hW : W.heap.size ≤ b) : LmLaw W w' N s t m :=
  ⟨h.at_.fr hf (fun k hk e => hb (by rw [← e]; exact hk)), h.I, h.lo, h.bl.trans (hf.below h.bl.size (fun k e => by rw [e]; exact hW))⟩
theorem far3 {W w : World} {N : LmN} {s : LmS} {t m : Int} {b : Nat} {T : TypeId} {C : Array Value} (h : LmLaw W w N s t m) (a : Blk w b T C) : (¬ N.all w.heap.size) ∧ W.heap.size ≤ w.heap.size ∧ b < w.heap.size :=
  ⟨fun hh => by have := h.at_.lt _ hh; omega, h.bl.size, lt_of_block a⟩
theorem three_new {w : World} {b : Nat} {t : TypeId} {a0 a1 a2 : Value} (h : Blk w b t #[a0, a1, a2]) (v0 v1 v2 : Value) : ∃ y, (((w.setCell ⟨b, 0, none⟩ v0).setCell ⟨b, 1, none⟩ v1).setCell ⟨b, 2, none⟩ v2) = y ∧ Fr (fun k => k = b) w y ∧ Blk y b t #[v0, v1, v2] :=
  ⟨_, three_setC h, Fr.setObj (F := fun k => k = b) (Fr.refl _ w) rfl _, setObj_at (lt_of_block h) _⟩
section
variable {N : LmN} {s : LmS} {T cost : Int} {c : Cel}
/-- a peek at a resident, at any time. -/
theorem peek_res {key : ByteArray} (hres : s.cellOf N key = some c) (hc : 1 ≤ cost ∧ cost ≤ N.B) (hT : T < 4611686018427387904) : s.peek N T 0 key cost = (if celW c N.U N.W N.B N.L T cost = 0 then 1 else 2, celR c N.U N.W N.B N.L T, celW c N.U N.W N.B N.L T cost) := by
  unfold LmS.cellOf at hres
  obtain ⟨i, hi, he⟩ := Option.map_eq_some_iff.1 hres
  have hrs : ({ s with r := ⟨max s.r.t T, s.r.num, s.r.F⟩ } : LmS).resi N T key = some c := by
    unfold LmS.resi
    dsimp only
    rw [hi]
    dsimp only
    rw [he]
  unfold LmS.peek
  rw [refZ_ok hc hT, hrs]
  rfl
end
set_option maxRecDepth 100000 in
set_option maxHeartbeats 6000000 in
theorem lmretry_law (w : World) (a b c d e f g h : Int) (sm : Bool) (A2 : Option Addr) (n2 c2 : Nat) (L : List Cl) (ask : Int) (hpl : RuleOK a b c d e f g h) (hr2 : RdL w A2 n2 c2 4 encCl L) (hok : ∀ a ∈ L, okCl a) (hask : inR ask) :
    Calls Tryz.prog 10 #[planV a b c d e f g h sm, .slice A2 n2 c2, .int .i64 ask] w fun e w' => e = .returned (.bool true) ∧ Below w.heap.size w w' := by
  clear hpl
  have hmx2 := hr2.max
  unfold maxLen at hmx2
  have hcp2 := hr2.cap
  have HR2 := Lib.hid hr2
  have HO := Lib.hid hok
  clear hr2 hok
  obtain ⟨w1, hw1, k1, l1', s1⟩ := box_new w (planC a b c d e f g h sm) 23
  obtain ⟨pl, hpl⟩ : ∃ x, x = w.heap.size := ⟨_, rfl⟩
  rw [← hpl] at k1
  have K2 := Lib.hid (And.intro k1 l1')
  have HB := Lib.hid hpl
  clear k1 l1' s1
  go_enter Tryz.func10, Tryz.ntmps10
  go_upto_region 1 with (fail)
  rw [← HB.out]
  clear hw1 hpl
  go_upto_region 3 with (go_at_call 15; ((refine (lmfit_any _).mono ?_); rintro e w3 ⟨rfl, b3⟩; have K3 := Lib.hid (And.intro (K2.out.1.keep b3) (below_in K2.out.2 b3)); clear b3))
  have CLi := Lib.hid (lmlight_any A2 n2 c2 L w3 (HR2.out.below K3.out.2) HO.out)
  cases hlb : lightC L with
  | false =>
    rw [hlb] at CLi
    go_wp2_with (go_at_call 16; ((with_reducible refine CLi.out.mono ?_); rintro e w4 ⟨rfl, b4⟩; have T4 := Lib.hid (below_in K3.out.2 b4); clear b4))
    go_ret
    exact ⟨rfl, T4.out⟩
  | true =>
  rw [hlb] at CLi
  have hlc := lightC_at hlb
  have hlen := hlc.1
  have HLK := Lib.hid hlc.2
  have hln := HR2.out.len
  have hb2 : (n2 : Int) ≤ 150 := by omega
  clear hlb hlen hln hlc
  go_upto_region 5 with (go_at_call 16; ((with_reducible refine CLi.out.mono ?_); rintro e w4 ⟨rfl, b4⟩; have K4 := Lib.hid (And.intro (K3.out.1.keep b4) (below_in K3.out.2 b4)); clear b4))
  clear CLi
  have kp := K4.out.1.rd
  have CRu := Lib.hid (lmrule_any a b c d e f g h sm w4)
  obtain ⟨Li, hLm⟩ : ∃ x, x = lqL a := ⟨_, rfl⟩
  obtain ⟨Wd, hWd⟩ : ∃ x, x = ((lqS b * lqN d : Nat) : Int) := ⟨_, rfl⟩
  obtain ⟨Bu, hBu⟩ : ∃ x, x = lqB a c := ⟨_, rfl⟩
  obtain ⟨Sl, hSl⟩ : ∃ x, x = ((lqN d : Nat) : Int) := ⟨_, rfl⟩
  obtain ⟨Ce, hCe⟩ : ∃ x, x = ((lqC e : Nat) : Int) := ⟨_, rfl⟩
  obtain ⟨kR, hkR⟩ : ∃ x, x = ((lqR f : Nat) : Int) := ⟨_, rfl⟩
  obtain ⟨Wi, hWi⟩ : ∃ x, x = ((lqW g : Nat) : Int) := ⟨_, rfl⟩
  obtain ⟨Tr, hTr⟩ : ∃ x, x = ((lqT h : Nat) : Int) := ⟨_, rfl⟩
  obtain ⟨smm, hsm⟩ : ∃ x, x = lqM sm d := ⟨_, rfl⟩
  rw [← hLm, ← hWd, ← hBu, ← hSl, ← hCe, ← hkR, ← hWi, ← hTr, ← hsm] at CRu
  have CNw := Lib.hid (fun b0 wx (hx : Below w.heap.size w wx) (hb : Blk wx b0 73 #[.int .u64 1, .int .u64 2, .int .u64 3]) => show Calls Tryz.prog 18 #[rlV Li Wd Bu Sl Ce kR Wi Tr smm, .slice (some ⟨b0, 0, none⟩) 3 3] wx _ from by rw [hLm, hWd, hBu, hSl, hCe, hkR, hWi, hTr, hsm]; exact lmplan_new a b c d e f g h (lqM sm d) (some ⟨b0, 0, none⟩) 3 3 [1, 2, 3] wx (rd_blk (k := .u64) (zs := [1, 2, 3]) hb rfl (by unfold maxLen; omega) (by intro z hz; simp only [List.mem_cons, List.not_mem_nil, or_false] at hz; rcases hz with rfl | rfl | rfl <;> decide)))
  have HP := Lib.hid (And.intro hLm (And.intro hWd (And.intro hBu (And.intro hSl (And.intro hCe (And.intro hkR (And.intro hWi (And.intro hTr hsm))))))))
  clear hLm hWd hBu hSl hCe hkR hWi hTr hsm
  go_upto_region 6 with (go_at_call 17; ((with_reducible refine CRu.out.mono ?_); rintro e w5 ⟨rfl, b5⟩; obtain ⟨y1, y2, ey1, kr9, kw9, ey2, bl9, kc9⟩ := box9R w5 (.int .i64 Li) (.int .i64 Wd) (.int .i64 Bu) (.int .i64 Sl) (.int .i64 Ce) (.int .i64 kR) (.int .i64 Wi) (.int .i64 Tr) (.bool smm); have K6 := Lib.hid (And.intro kc9 (below_in (below_in K4.out.2 b5) bl9)); clear b5 bl9 kc9))
  clear ey1 kr9 kw9 ey2 kp CRu
  obtain ⟨rb, hrb⟩ : ∃ rb, rb = w5.heap.size := ⟨_, rfl⟩
  rw [← hrb] at K6 ⊢
  clear hrb
  have kru := K6.out.1.rd
  clear hask
  obtain ⟨yq, hyq, kq, lq, sq⟩ := box_new y2 #[.int .u64 1, .int .u64 2, .int .u64 3] 73
  have KQ := Lib.hid (And.intro kq (And.intro (K6.out.1.keep lq) (below_in K6.out.2 lq)))
  clear kq lq sq
  go_upto_region 7 with (go_at_call 18; ((with_reducible refine (CNw.out _ _ KQ.out.2.2 KQ.out.1).mono ?_); rintro v w7 ⟨N, rfl, a7, p7, n7, b7⟩; have P7 := Lib.hid p7; have G7 := Lib.hid (show LmLaw w w7 N (lmZ (lqC e)) 0 0 from ⟨a7, lmplan_I a7 p7, fun b hb => Nat.le_trans KQ.out.2.2.size (n7 b hb), below_in KQ.out.2.2 b7⟩); have R7 := Lib.hid (KQ.out.2.1.keep b7); have NR7 := Lib.hid (show ¬ N.all rb from fun hb => by have := n7 rb hb; have := lt_of_block KQ.out.2.1; omega); clear a7 p7 n7 b7))
  clear CNw kru hyq
  have HPB := Lib.hid (show LmB N ∧ N.B = Bu ∧ 1 ≤ Bu ∧ Bu ≤ 32 from by rw [HP.out.2.2.1]; exact lmplan_B P7.out)
  go_wp2
  go_loopg [32, 9] n2 (fun kk si sn wr => ∃ (i : Nat) (t : Int) (s : LmS), i ≤ n2 ∧ Hid (kk = n2 - i) ∧ si = .int .i64 (i : Int) ∧ sn = .int .i64 t ∧ Hid (0 ≤ t ∧ t ≤ 1023 * (i : Int)) ∧ Hid (LmLaw w wr N s t (2097153 * (i : Int))) ∧ Hid (Blk wr rb 29 #[.int .i64 Li, .int .i64 Wd, .int .i64 Bu, .int .i64 Sl, .int .i64 Ce, .int .i64 kR, .int .i64 Wi, .int .i64 Tr, .bool smm]))
  case atStart => exact ⟨0, 0, _, by omega, Lib.hid rfl, rfl, rfl, Lib.hid (by omega), G7, R7⟩
  case round =>
    obtain ⟨i, t, s, hi, HKK, rfl, rfl, HT, HG, HRB⟩ := hrel
    by_cases hin : i < n2
    · have hl2 := HR2.out.len
      obtain ⟨b', off, rfl, hbl, hcl⟩ := (HR2.out.below HG.out.bl).at_ (by omega)
      obtain ⟨⟨gp, cs, ky, pk⟩, ha⟩ : ∃ a, L[i]? = some a := ⟨_, List.getElem?_eq_getElem (by omega)⟩
      have HKY := Lib.hid (HLK.out _ (List.mem_of_getElem? ha))
      have hky : ky.size ≤ 64 := HKY.out
      have HCS := Lib.hid (HO.out _ (List.mem_of_getElem? ha))
      have kr0 : wr.cell? ⟨b', off + i * 4, none⟩ = some (.int .i64 gp) := hcl i _ ha 0 (by omega)
      have kr1 : wr.cell? ⟨b', off + i * 4 + 1, none⟩ = some (.int .i64 cs) := hcl i _ ha 1 (by omega)
      have kr2 : wr.cell? ⟨b', off + i * 4 + 2, none⟩ = some (.string ky) := hcl i _ ha 2 (by omega)
      have kr3 : wr.cell? ⟨b', off + i * 4 + 3, none⟩ = some (.bool pk) := hcl i _ ha 3 (by omega)
      obtain ⟨y1, y2, ey1, kr, kw, ey2, bl2, kc2⟩ := box4C wr (.int .i64 gp) (.int .i64 cs) (.string ky) (.bool pk)
      have G6 := Lib.hid (HG.out.keep bl2)
      obtain ⟨bx, hbx⟩ : ∃ bx, bx = wr.heap.size := ⟨_, rfl⟩
      have HBX := Lib.hid (show (¬ N.all bx) ∧ w.heap.size ≤ bx ∧ bx < y2.heap.size from ⟨fun hh => by have := HG.out.at_.lt bx hh; omega, by have := HG.out.bl.size; omega, by have := lt_of_block kc2; omega⟩)
      rw [← hbx] at kc2
      have kc3 := kc2.rd
      have KC := Lib.hid kc2
      have KRu := Lib.hid (HRB.out.keep bl2)
      have hgb := gapL_bd gp
      obtain ⟨gq, hgq⟩ : ∃ x, x = gapL gp := ⟨_, rfl⟩
      have HGQ := Lib.hid hgq
      have CG := Lib.hid (fun wx => gapL_any gp wx)
      rw [← hgq] at CG hgb
      obtain ⟨t', ht'⟩ : ∃ x, x = t + gq := ⟨_, rfl⟩
      have hT := HT.out
      have et : IntKind.i64.wrap (t + gq) = t' := by rw [IntKind.wrap_i64]; omega
      have HT' := Lib.hid (show (0 ≤ t' ∧ t' ≤ 1023 * ((i : Int) + 1)) ∧ t ≤ t' ∧ t' ≤ 4611686018427380000 ∧ t' = t + gq by omega)
      have CC := Lib.hid (fun wx => costL_any Li Wd Bu Sl Ce kR Wi Tr smm cs ⟨HPB.out.2.2.1, HPB.out.2.2.2⟩ wx)
      have hqb := costL_bd (n := cs) ⟨HPB.out.2.2.1, HPB.out.2.2.2⟩
      obtain ⟨q, hq⟩ : ∃ x, x = costL Bu cs := ⟨_, rfl⟩
      rw [← hq] at CC hqb
      have HQ := Lib.hid (And.intro hqb hq)
      have t2 : (i : Int) < (n2 : Int) := by omega
      have HIN := Lib.hid hin
      clear hl2 hcl hbl bl2 kc2 hgb hgq ht' hT hq hin hqb hky
      go_upto_region 11 with (fail)
      rw [← hbx]
      have HBXS := Lib.hid hbx
      clear kr kw ey1 kr0 kr1 kr2 kr3 ey2 hbx
      have krl := KRu.out.rd
      go_upto_region 12 with (go_at_call 20; ((with_reducible refine (CG.out _).mono ?_); rintro v y3 ⟨rfl, rfl⟩))
      clear CG et kc3 krl
      have HG6 := Lib.hid (G6.out.mono (t' := t') (m' := 2097153 * (i : Int)) (by have := HT'.out; omega) (by omega))
      have BN := Lib.hid (show Below y2.heap.size y2 y2.drew from below_draws (Below.refl _ _) 1)
      have SS := Lib.hid (fun wx (hr : Blk wx rb 29 #[.int .i64 Li, .int .i64 Wd, .int .i64 Bu, .int .i64 Sl, .int .i64 Ce, .int .i64 kR, .int .i64 Wi, .int .i64 Tr, .bool smm]) (hk : Blk wx bx 36 #[.int .i64 gp, .int .i64 cs, .string ky, .bool pk]) => show (∀ j, wx.cell? ⟨rb, j, none⟩ = (#[.int .i64 Li, .int .i64 Wd, .int .i64 Bu, .int .i64 Sl, .int .i64 Ce, .int .i64 kR, .int .i64 Wi, .int .i64 Tr, .bool smm] : Array Value)[j]?) ∧ (∀ j, wx.cell? ⟨bx, j, none⟩ = (#[.int .i64 gp, .int .i64 cs, .string ky, .bool pk] : Array Value)[j]?) from ⟨hr.rd, hk.rd⟩)
      have st := SS.out _ (KRu.out.keep BN.out) (KC.out.keep BN.out)
      have CCk := Lib.hid (fun wx (hx : LmAt wx N s) => lmcheckI t' 0 ky q (by have := HKY.out; unfold maxLen; omega) (by unfold inR; omega) (by have := HQ.out; unfold inR; omega) wx hx HG6.out.I (by omega))
      have CI := Lib.hid (HG6.out.I.check (by omega) 0 ky q)
      obtain ⟨s2, hs2⟩ : ∃ x, x = (s.check N t' 0 ky q).1 := ⟨_, rfl⟩
      obtain ⟨ca, hca⟩ : ∃ x, x = (s.check N t' 0 ky q).2.1 := ⟨_, rfl⟩
      rw [← hs2, ← hca] at CCk
      rw [← hs2] at CI
      obtain ⟨⟨cv, cr, ct⟩, hca'⟩ : ∃ z, z = ca := ⟨_, rfl⟩
      rw [← hca'] at CCk
      clear hs2 hca hca'
      refine wp_region_held_drew (S := fun wx => (∀ j, wx.cell? ⟨rb, j, none⟩ = (#[.int .i64 Li, .int .i64 Wd, .int .i64 Bu, .int .i64 Sl, .int .i64 Ce, .int .i64 kR, .int .i64 Wi, .int .i64 Tr, .bool smm] : Array Value)[j]?) ∧ (∀ j, wx.cell? ⟨bx, j, none⟩ = (#[.int .i64 gp, .int .i64 cs, .string ky, .bool pk] : Array Value)[j]?)) (by kernel_rfl) st (fun hHeld => ?_)
      clear st
      refine wpAnyH_take (i := 0) (oi := ?_) (v := ?_) ?_ ?_ ?_ ?_ ?_ ?_ ?_ ?_
      rotate_left 2
      · simp only [List.getElem?_toArray, List.getElem?_cons_succ, List.getElem?_cons_zero]; rfl
      · kernel_rfl
      · kernel_rfl
      · kernel_rfl
      · exact fun _ _ _ h => h
      · refine Or.inl ⟨by rfl, ?_⟩
        intro w' hSw
        (try dsimp only at hSw)
        go_simp
        all_goals (with_reducible rfl)
      · assumption
      try simp only [Act.put, List.setIfInBounds_toArray, List.set_cons_zero, List.set_cons_succ]
      refine wpAnyH_take (i := 1) (oi := ?_) (v := ?_) ?_ ?_ ?_ ?_ ?_ ?_ ?_ ?_
      rotate_left 2
      · simp only [List.getElem?_toArray, List.getElem?_cons_succ, List.getElem?_cons_zero]; rfl
      · kernel_rfl
      · kernel_rfl
      · kernel_rfl
      · exact fun _ _ _ h => h
      · refine Or.inl ⟨by rfl, ?_⟩
        intro w' hSw
        (try dsimp only at hSw)
        go_simp
        all_goals (with_reducible rfl)
      · assumption
      try simp only [Act.put, List.setIfInBounds_toArray, List.set_cons_zero, List.set_cons_succ]
      refine wpAnyH_take (i := 2) (oi := ?_) (v := ?_) ?_ ?_ ?_ ?_ ?_ ?_ ?_ ?_
      rotate_left 2
      · simp only [List.getElem?_toArray, List.getElem?_cons_succ, List.getElem?_cons_zero]; rfl
      · kernel_rfl
      · kernel_rfl
      · kernel_rfl
      · exact fun _ _ _ h => h
      · refine Or.inl ⟨by rfl, ?_⟩
        intro w' hSw
        (try dsimp only at hSw)
        go_simp
        all_goals (with_reducible rfl)
      · assumption
      try simp only [Act.put, List.setIfInBounds_toArray, List.set_cons_zero, List.set_cons_succ]
      refine wpAnyH_take (i := 3) (oi := ?_) (v := ?_) ?_ ?_ ?_ ?_ ?_ ?_ ?_ ?_
      rotate_left 2
      · simp only [List.getElem?_toArray, List.getElem?_cons_succ, List.getElem?_cons_zero]; rfl
      · kernel_rfl
      · kernel_rfl
      · kernel_rfl
      · exact fun _ _ _ h => h
      · refine Or.inl ⟨by rfl, ?_⟩
        intro w' hSw
        (try dsimp only at hSw)
        go_simp
        all_goals (with_reducible rfl)
      · assumption
      try simp only [Act.put, List.setIfInBounds_toArray, List.set_cons_zero, List.set_cons_succ]
      refine wpAnyH_take (i := 4) (oi := ?_) (v := ?_) ?_ ?_ ?_ ?_ ?_ ?_ ?_ ?_
      rotate_left 2
      · simp only [List.getElem?_toArray, List.getElem?_cons_succ, List.getElem?_cons_zero]; rfl
      · kernel_rfl
      · kernel_rfl
      · kernel_rfl
      · exact fun _ _ _ h => h
      · refine Or.inl ⟨by rfl, ?_⟩
        intro w' hSw
        (try dsimp only at hSw)
        go_simp
        all_goals (with_reducible rfl)
      · assumption
      try simp only [Act.put, List.setIfInBounds_toArray, List.set_cons_zero, List.set_cons_succ]
      refine wpAnyH_take (i := 5) (oi := ?_) (v := ?_) ?_ ?_ ?_ ?_ ?_ ?_ ?_ ?_
      rotate_left 2
      · simp only [List.getElem?_toArray, List.getElem?_cons_succ, List.getElem?_cons_zero]; rfl
      · kernel_rfl
      · kernel_rfl
      · kernel_rfl
      · exact fun _ _ _ h => h
      · refine Or.inl ⟨by rfl, ?_⟩
        intro w' hSw
        (try dsimp only at hSw)
        go_simp
        all_goals (with_reducible rfl)
      · assumption
      try simp only [Act.put, List.setIfInBounds_toArray, List.set_cons_zero, List.set_cons_succ]
      refine wpAnyH_take (i := 6) (oi := ?_) (v := ?_) ?_ ?_ ?_ ?_ ?_ ?_ ?_ ?_
      rotate_left 2
      · simp only [List.getElem?_toArray, List.getElem?_cons_succ, List.getElem?_cons_zero]; rfl
      · kernel_rfl
      · kernel_rfl
      · kernel_rfl
      · exact fun _ _ _ h => h
      · refine Or.inl ⟨by rfl, ?_⟩
        intro w' hSw
        (try dsimp only at hSw)
        go_simp
        all_goals (with_reducible rfl)
      · assumption
      try simp only [Act.put, List.setIfInBounds_toArray, List.set_cons_zero, List.set_cons_succ]
      refine wpAnyH_ready (rs := [7]) (by kernel_rfl) (by simp) ?_
      refine AllReadyH.cons (o := ?_) ?_ ?_ ?_
      rotate_left 1
      · simp only [List.getElem?_toArray, List.getElem?_cons_succ, List.getElem?_cons_zero]; rfl
      rotate_left 1
      · exact AllReadyH.nil
      intro K hK
      go_simp
      ((with_reducible refine (CC.out _).mono ?_); rintro v y4 ⟨rfl, be⟩; have N4 := Lib.hid (G.below_on BN.out be); clear be)
      refine hK.out _ _ (SS.out _ (KRu.out.keep N4.out) (KC.out.keep N4.out)) (fun hHeld => ?_)
      clear hK K
      try simp only [Act.put, List.setIfInBounds_toArray, List.set_cons_zero, List.set_cons_succ]
      refine wpAnyH_ready (rs := [8]) (by kernel_rfl) (by simp) ?_
      refine AllReadyH.cons (o := ?_) ?_ ?_ ?_
      rotate_left 1
      · simp only [List.getElem?_toArray, List.getElem?_cons_succ, List.getElem?_cons_zero]; rfl
      rotate_left 1
      · exact AllReadyH.nil
      intro K hK
      go_simp
      ((with_reducible refine (CCk.out _ (HG6.out.at_.keep N4.out)).mono ?_); rintro e' y5 ⟨vv, rfl, o5, a5, f5⟩; have G5 := Lib.hid ((HG6.out.keep N4.out).op a5 CI.out f5 (fun b hb => hb)); have R5 := Lib.hid ((KRu.out.keep N4.out).fr f5 NR7.out); have K5 := Lib.hid ((KC.out.keep N4.out).fr f5 HBX.out.1); clear o5 a5 f5)
      refine hK.out _ _ (SS.out _ R5.out K5.out) (fun hHeld => ?_)
      clear hK K
      try simp only [Act.put, List.setIfInBounds_toArray, List.set_cons_zero, List.set_cons_succ]
      refine wpAnyH_done (by kernel_rfl) ?_ _
      clear hHeld CC CCk
      go_wp2
      go_roundg (n2 - (i + 1))
      case measure => have := HKK.out; have := HIN.out; omega
      case rel => exact ⟨i + 1, t', s2, HIN.out, Lib.hid rfl, by go_num, rfl, Lib.hid (by have := HT'.out; omega), Lib.hid (G5.out.mono (by have := HT'.out; omega) (by omega)), R5⟩
    · have hie : i = n2 := by omega
      subst hie
      obtain ⟨am, ham⟩ : ∃ z, z = ask % 32 := ⟨_, rfl⟩
      have em : bits .and .i64 ask 31 = am := by rw [ham]; exact i64_mask5 ask
      obtain ⟨ar, har⟩ : ∃ z, z = am % Bu := ⟨_, rfl⟩
      have hb := HPB.out.2.2
      have er1 : am.tmod Bu = ar := by rw [har]; exact Int.tmod_eq_emod_of_nonneg (by omega)
      have harb : 0 ≤ ar ∧ ar < Bu := by
        have h1 := Int.emod_nonneg am (show Bu ≠ 0 by omega)
        have h2 := Int.emod_lt_of_pos am (show 0 < Bu by omega)
        rw [← har] at h1 h2
        exact ⟨h1, h2⟩
      have hB0 : ¬ Bu = 0 := by omega
      clear ham har
      obtain ⟨nq, hnq⟩ : ∃ z, z = ar + 1 := ⟨_, rfl⟩
      have en : IntKind.i64.wrap (ar + 1) = nq := by clear er1 em; rw [IntKind.wrap_i64]; omega
      have HQC := Lib.hid (show 1 ≤ nq ∧ nq ≤ N.B from by have := HPB.out.2.1; clear er1 em en; omega)
      have HT2 := Lib.hid (show 0 ≤ t ∧ t ≤ 153450 from by have := HT.out; omega)
      clear hnq hb harb
      obtain ⟨rs, hrs⟩ : ∃ x, x = s.cellOf N ⟨#[97]⟩ := ⟨_, rfl⟩
      have CR := Lib.hid (show Calls Tryz.prog 34 #[.pointer (some ⟨N.l, 0, none⟩), .string ⟨#[97]⟩] wr (fun e w' => e = .returned (resV rs) ∧ Below wr.heap.size wr w') from by rw [hrs]; exact lmcell_any ⟨#[97]⟩ (by show 1 ≤ maxLen; unfold maxLen; omega) wr HG.out.at_)
      have kru := HRB.out.rd
      cases rs with
      | none =>
        clear hrs
        go_upto_region 16 with (go_at_call 34; ((with_reducible refine CR.out.mono ?_); rintro e' y9 ⟨rfl, b9⟩; simp only [resV]; obtain ⟨x10, y10, ex10, kr10, kw10, ey10, b10, k10⟩ := cbox y9 (0, 0, 0, 0); have G11 := Lib.hid ((HG.out.keep b9).keep b10); clear b9 b10 k10))
        go_wp2
        go_ret
        exact ⟨rfl, G11.out.bl⟩
      | some c =>
        have HRS := Lib.hid hrs.symm
        clear hrs
        go_upto_region 16 with (go_at_call 34; ((with_reducible refine CR.out.mono ?_); rintro e' y9 ⟨rfl, b9⟩; simp only [resV]; obtain ⟨x10, y10, ex10, kr10, kw10, ey10, b10, k10⟩ := cbox y9 c; have G11 := Lib.hid ((HG.out.keep b9).keep b10); clear b9 b10 k10))
        clear ex10 kr10 kw10 ey10 CR kru em er1 en
        have PO := HG.out.I.peek_ok HPB.out.1 ⟨#[97]⟩ HQC.out (by have := HT2.out; omega)
        have PI := Lib.hid (HG.out.I.peeked (N := N) 0 nq)
        have CP := lmpeekI t 0 ⟨#[97]⟩ nq (by show 1 ≤ maxLen; unfold maxLen; omega) (by unfold inR; omega) (by have h1 := HQC.out; have h2 := HPB.out; unfold inR; omega) y10 G11.out.at_ G11.out.I
        have PR := peek_res (N := N) (s := s) (T := t) HRS.out HQC.out (by have := HT2.out; omega)
        have PC := peek_check (N := N) (s := s) (now := t) (cost := nq) (key := ⟨#[97]⟩) HG.out.I.U.1 HG.out.I.W.1 HG.out.I.t1 (by rw [HRS.out]; rfl)
        obtain ⟨y, hy1, hy2, hy3⟩ := peeked_at (N := N) (s := s) (now := t) (cost := nq) 0
        have hyt : s.r.t ≤ y ∧ y ≤ t := ⟨hy2, hy3 HG.out.I.t1⟩
        rw [hy1] at CP PI
        have HYT := Lib.hid hyt
        obtain ⟨⟨v, r, tt⟩, hpk⟩ : ∃ z, z = s.peek N t 0 ⟨#[97]⟩ nq := ⟨_, rfl⟩
        rw [← hpk] at CP PO PC PR
        have CPx := Lib.hid CP
        have HPC := Lib.hid PC
        have HPR := Lib.hid PR
        obtain ⟨⟨hpo, h5, h6⟩, h7⟩ := PO
        dsimp only at hpo h5 h6 h7
        have HBD := Lib.hid (And.intro h5 h6)
        have H7 := Lib.hid h7
        clear CP PC PR hy1 hy2 hy3 hyt hpk h5 h6 h7
        go_upto_region 19 with (go_at_call 22; ((with_reducible refine CPx.out.mono ?_); rintro e' y11 ⟨rfl, a5, f5⟩; obtain ⟨x12, y12, ex6, kr6, kw6, ey6, b6, k6⟩ := boxA y11 v r tt; have Gx0 := Lib.hid (show LmLaw w y12 N (s.at y) t (2097153 * (i : Int)) from (G11.out.op a5 PI.out f5 (fun b hb => Or.inl hb)).keep b6); have Ax0 := Lib.hid k6; have NAB := Lib.hid (show ¬ N.all y11.heap.size from fun hh => by have := a5.lt _ hh; omega); clear a5 f5 b6 k6))
        clear CPx ex6 kr6 kw6 ey6
        obtain ⟨ab, hab⟩ : ∃ x, x = y11.heap.size := ⟨_, rfl⟩
        rw [← hab] at Ax0 NAB ⊢
        clear hab
        have ka := Ax0.out.rd
        rcases hpo with ⟨rfl, rfl⟩ | ⟨rfl, h3, h4⟩
        · have u3 : decide (nq ≤ r) = true := decide_eq_true (H7.out rfl)
          have CCk := lmcheckI (N := N) (s := s.at y) t 0 ⟨#[97]⟩ nq (by show 1 ≤ maxLen; unfold maxLen; omega) (by unfold inR; omega) (by have h1 := HQC.out; have h2 := HPB.out; unfold inR; omega) y12 Gx0.out.at_ Gx0.out.I (by omega)
          have CI := Lib.hid (Gx0.out.I.check (by omega) 0 ⟨#[97]⟩ nq)
          have hca := (check_at (N := N) (s := s) (now := t) (cost := nq) (x := y) HYT.out 0 ⟨#[97]⟩).1
          rw [hca] at CCk
          have hv := HPC.out.1
          obtain ⟨⟨⟨cv, cr, ct⟩, ev⟩, hck⟩ : ∃ z, z = (s.check N t 0 ⟨#[97]⟩ nq).2 := ⟨_, rfl⟩
          rw [← hck] at CCk hv
          dsimp only at hv
          subst hv
          have CCx := Lib.hid CCk
          clear CCk hca hck
          go_upto_region 21 with (go_at_call 24; ((with_reducible refine CCx.out.mono ?_); rintro e' y13 ⟨vv, rfl, o7, a7, f7⟩; obtain ⟨x14, y14, ex8, kr8, kw8, ey8, b8, k8⟩ := boxA y13 1 cr ct; have G14 := Lib.hid ((Gx0.out.op a7 CI.out f7 (fun b hb => hb)).keep b8); have A14 := Lib.hid ((Ax0.out.fr f7 NAB.out).keep b8); have C14 := Lib.hid k8; clear o7 a7 f7 b8 k8))
          clear ex8 kr8 kw8 ey8 ka CCx
          have ka := A14.out.rd
          have kc := C14.out.rd
          go_wp2
          go_ret
          exact ⟨rfl, G14.out.bl⟩
        · have u3 : decide (nq ≤ r) = false := decide_eq_false (by omega)
          have u4 : decide (tt < 1) = false := decide_eq_false (by omega)
          have hcg := HG.out.I.peek_ok HPB.out.1 ⟨#[97]⟩ HQC.out (by have := HT2.out; omega)
          have hcm : c ∈ s.C ∨ c = (0, 0, 0, 0) := by
            have := HRS.out
            unfold LmS.cellOf at this
            obtain ⟨j, _, hj⟩ := Option.map_eq_some_iff.1 this
            rw [← hj, List.getD_eq_getElem?_getD]
            cases hq : s.C[j]? with
            | none => exact Or.inr rfl
            | some z => exact Or.inl (List.mem_of_getElem? hq)
          have hcF : c.1 ≤ t + 1099511627776 ∧ c.2.1 ≤ t := by
            rcases hcm with hcm | hcm
            · have := HG.out.I.c c hcm; omega
            · rw [hcm]; have := HT2.out; exact ⟨by show (0 : Int) ≤ _; omega, by show (0 : Int) ≤ _; omega⟩
          have hw : tt = celW c N.U N.W N.B N.L t nq := congrArg (fun z => z.2.2) HPR.out
          have hWW := HG.out.I.W
          have f := cwait_facts (F := c.1) (S := c.2.1) (C := c.2.2.1) (D := c.2.2.2) (L := N.L) (t := t) HG.out.I.U.1 HG.out.I.W.1 HQC.out hw
          have HT3 := Lib.hid (show 1 ≤ tt ∧ t + tt ≤ 2200000000000 from ⟨h3, by have := f.2.2.2.2; have := HT2.out; omega⟩)
          have g1 := cwait_facts (F := c.1) (S := c.2.1) (C := c.2.2.1) (D := c.2.2.2) (L := N.L) (t := t + tt - 1) HG.out.I.U.1 HG.out.I.W.1 HQC.out rfl
          have g2 := cwait_facts (F := c.1) (S := c.2.1) (C := c.2.2.1) (D := c.2.2.2) (L := N.L) (t := t + tt) HG.out.I.U.1 HG.out.I.W.1 HQC.out rfl
          have hne : ¬ celW c N.U N.W N.B N.L (t + tt - 1) nq = 0 := fun hz => by have h1 := g1.2.1.1 hz; have h2 := f.2.2.1 (by omega); omega
          have hze : celW c N.U N.W N.B N.L (t + tt) nq = 0 := g2.2.1.2 f.2.2.2.1
          have pe := peek_res (N := N) (s := s.at y) (T := t + tt - 1) (c := c) HRS.out HQC.out (by have := HT3.out; omega)
          rw [if_neg hne] at pe
          have hru : 0 ≤ nq := by have := HQC.out; omega
          have hlr : nq ≤ celR c N.U N.W N.B N.L (t + tt) := f.2.2.2.1
          have I1 := Gx0.out.I.mono (t' := t + tt - 1) (m' := 2097153 * (i : Int)) (by have := HT3.out; omega) (by omega)
          have c1 := fun wx (hx : LmAt wx N (s.at y)) => lmpeekI (t + tt - 1) 0 ⟨#[97]⟩ nq (by show 1 ≤ maxLen; unfold maxLen; omega) (by unfold inR; omega) (by have h1 := HQC.out; have h2 := HPB.out; unfold inR; omega) wx hx I1
          rw [pe] at c1
          obtain ⟨y', hy1, hy2, hy3⟩ := peeked_at (N := N) (s := s.at y) (now := t + tt - 1) (cost := nq) 0
          have i1 := I1.peeked (N := N) 0 nq
          rw [hy1] at c1 i1
          have pl := peek_res (N := N) (s := (s.at y).at y') (T := t + tt) (c := c) HRS.out HQC.out (by have := HT3.out; omega)
          rw [if_pos hze] at pl
          have I2 := i1.mono (t' := t + tt) (m' := 2097153 * (i : Int)) (by have := HT3.out; omega) (by omega)
          have c2 := fun wx (hx : LmAt wx N ((s.at y).at y')) => lmpeekI (t + tt) 0 ⟨#[97]⟩ nq (by show 1 ≤ maxLen; unfold maxLen; omega) (by unfold inR; omega) (by have h1 := HQC.out; have h2 := HPB.out; unfold inR; omega) wx hx I2
          rw [pl] at c2
          have PL := Lib.hid (I2.peeked (N := N) 0 nq)
          have PE := Lib.hid i1
          obtain ⟨er, her⟩ : ∃ z, z = celR c N.U N.W N.B N.L (t + tt - 1) := ⟨_, rfl⟩
          obtain ⟨et, het⟩ : ∃ z, z = celW c N.U N.W N.B N.L (t + tt - 1) nq := ⟨_, rfl⟩
          obtain ⟨lr, hlre⟩ : ∃ z, z = celR c N.U N.W N.B N.L (t + tt) := ⟨_, rfl⟩
          obtain ⟨lt, hlte⟩ : ∃ z, z = celW c N.U N.W N.B N.L (t + tt) nq := ⟨_, rfl⟩
          rw [← her, ← het] at c1
          rw [← hlre, ← hlte] at c2
          rw [← hlre] at hlr
          have u6 : decide (nq ≤ lr) = true := decide_eq_true hlr
          obtain ⟨T1, hT1⟩ : ∃ z, z = t + tt - 1 := ⟨_, rfl⟩
          obtain ⟨T2, hT2⟩ : ∃ z, z = t + tt := ⟨_, rfl⟩
          rw [← hT1] at c1 PE
          rw [← hT2] at c2 PL
          have e1 : IntKind.i64.wrap (t + tt) = T2 := by rw [IntKind.wrap_i64]; have := HT3.out; have := HT2.out; omega
          have e2 : IntKind.i64.wrap (T2 - 1) = T1 := by rw [IntKind.wrap_i64]; have := HT3.out; have := HT2.out; omega
          have CE := Lib.hid c1
          have CL := Lib.hid c2
          clear hcg hcm hcF hw hWW f g1 g2 hne hze pe hru hlr I1 c1 hy1 hy2 hy3 i1 pl I2 c2 her het hlre hlte hT1 hT2 h3 h4
          go_upto_region 24 with (fail)
          clear u3 u4
          obtain ⟨W0, hW0⟩ : ∃ z, z = y12.drew := ⟨_, rfl⟩
          have BN := Lib.hid (show Below y12.heap.size y12 W0 from by rw [hW0]; exact below_draws (Below.refl _ _) 1)
          have st : ∀ j, y12.drew.cell? ⟨ab, j, none⟩ = (#[.int .i64 2, .int .i64 r, .int .i64 tt] : Array Value)[j]? := Ax0.out.drew.rd
          clear ka
          refine wp_region_held_drew (S := fun wx => ∀ j, wx.cell? ⟨ab, j, none⟩ = (#[.int .i64 2, .int .i64 r, .int .i64 tt] : Array Value)[j]?) (by kernel_rfl) st (fun hHeld => ?_)
          clear st
          rw [← hW0] at hHeld ⊢
          have Gx0 := Lib.hid (Gx0.out.keep BN.out)
          have Ax0 := Lib.hid (Ax0.out.keep BN.out)
          clear hW0
          refine wpAnyH_take (i := 0) (oi := ?_) (v := ?_) ?_ ?_ ?_ ?_ ?_ ?_ ?_ ?_
          rotate_left 2
          · simp only [List.getElem?_toArray, List.getElem?_cons_succ, List.getElem?_cons_zero]; rfl
          · kernel_rfl
          · kernel_rfl
          · kernel_rfl
          · exact fun _ _ _ h => h
          · refine Or.inl ⟨by rfl, ?_⟩
            intro w' hSw
            (try dsimp only at hSw)
            go_simp
            all_goals (with_reducible rfl)
          · assumption
          try simp only [Act.put, List.setIfInBounds_toArray, List.set_cons_zero, List.set_cons_succ]
          refine wpAnyH_take (i := 1) (oi := ?_) (v := ?_) ?_ ?_ ?_ ?_ ?_ ?_ ?_ ?_
          rotate_left 2
          · simp only [List.getElem?_toArray, List.getElem?_cons_succ, List.getElem?_cons_zero]; rfl
          · kernel_rfl
          · kernel_rfl
          · kernel_rfl
          · exact fun _ _ _ h => h
          · refine Or.inl ⟨by rfl, ?_⟩
            intro w' hSw
            (try dsimp only at hSw)
            go_simp
            all_goals (with_reducible rfl)
          · assumption
          try simp only [Act.put, List.setIfInBounds_toArray, List.set_cons_zero, List.set_cons_succ]
          refine wpAnyH_take (i := 2) (oi := ?_) (v := ?_) ?_ ?_ ?_ ?_ ?_ ?_ ?_ ?_
          rotate_left 2
          · simp only [List.getElem?_toArray, List.getElem?_cons_succ, List.getElem?_cons_zero]; rfl
          · kernel_rfl
          · kernel_rfl
          · kernel_rfl
          · exact fun _ _ _ h => h
          · refine Or.inl ⟨by rfl, ?_⟩
            intro w' hSw
            (try dsimp only at hSw)
            go_simp
            all_goals (with_reducible rfl)
          · assumption
          try simp only [Act.put, List.setIfInBounds_toArray, List.set_cons_zero, List.set_cons_succ]
          refine wpAnyH_take (i := 3) (oi := ?_) (v := ?_) ?_ ?_ ?_ ?_ ?_ ?_ ?_ ?_
          rotate_left 2
          · simp only [List.getElem?_toArray, List.getElem?_cons_succ, List.getElem?_cons_zero]; rfl
          · kernel_rfl
          · kernel_rfl
          · kernel_rfl
          · exact fun _ _ _ h => h
          · refine Or.inl ⟨by rfl, ?_⟩
            intro w' hSw
            (try dsimp only at hSw)
            go_simp
            all_goals (with_reducible rfl)
          · assumption
          try simp only [Act.put, List.setIfInBounds_toArray, List.set_cons_zero, List.set_cons_succ]
          refine wpAnyH_take (i := 4) (oi := ?_) (v := ?_) ?_ ?_ ?_ ?_ ?_ ?_ ?_ ?_
          rotate_left 2
          · simp only [List.getElem?_toArray, List.getElem?_cons_succ, List.getElem?_cons_zero]; rfl
          · kernel_rfl
          · kernel_rfl
          · kernel_rfl
          · exact fun _ _ _ h => h
          · refine Or.inl ⟨by rfl, ?_⟩
            intro w' hSw
            (try dsimp only at hSw)
            go_simp
            all_goals (with_reducible rfl)
          · assumption
          try simp only [Act.put, List.setIfInBounds_toArray, List.set_cons_zero, List.set_cons_succ]
          refine wpAnyH_take (i := 5) (oi := ?_) (v := ?_) ?_ ?_ ?_ ?_ ?_ ?_ ?_ ?_
          rotate_left 2
          · simp only [List.getElem?_toArray, List.getElem?_cons_succ, List.getElem?_cons_zero]; rfl
          · kernel_rfl
          · kernel_rfl
          · kernel_rfl
          · exact fun _ _ _ h => h
          · refine Or.inl ⟨by rfl, ?_⟩
            intro w' hSw
            (try dsimp only at hSw)
            go_simp
            all_goals (with_reducible rfl)
          · assumption
          try simp only [Act.put, List.setIfInBounds_toArray, List.set_cons_zero, List.set_cons_succ]
          refine wpAnyH_take (i := 6) (oi := ?_) (v := ?_) ?_ ?_ ?_ ?_ ?_ ?_ ?_ ?_
          rotate_left 2
          · simp only [List.getElem?_toArray, List.getElem?_cons_succ, List.getElem?_cons_zero]; rfl
          · kernel_rfl
          · kernel_rfl
          · kernel_rfl
          · exact fun _ _ _ h => h
          · refine Or.inl ⟨by rfl, ?_⟩
            intro w' hSw
            (try dsimp only at hSw)
            go_simp
            all_goals (with_reducible rfl)
          · assumption
          try simp only [Act.put, List.setIfInBounds_toArray, List.set_cons_zero, List.set_cons_succ]
          refine wpAnyH_take (i := 8) (oi := ?_) (v := ?_) ?_ ?_ ?_ ?_ ?_ ?_ ?_ ?_
          rotate_left 2
          · simp only [List.getElem?_toArray, List.getElem?_cons_succ, List.getElem?_cons_zero]; rfl
          · kernel_rfl
          · kernel_rfl
          · kernel_rfl
          · exact fun _ _ _ h => h
          · refine Or.inl ⟨by rfl, ?_⟩
            intro w' hSw
            (try dsimp only at hSw)
            go_simp
            all_goals (with_reducible rfl)
          · assumption
          try simp only [Act.put, List.setIfInBounds_toArray, List.set_cons_zero, List.set_cons_succ]
          refine wpAnyH_take (i := 9) (oi := ?_) (v := ?_) ?_ ?_ ?_ ?_ ?_ ?_ ?_ ?_
          rotate_left 2
          · simp only [List.getElem?_toArray, List.getElem?_cons_succ, List.getElem?_cons_zero]; rfl
          · kernel_rfl
          · kernel_rfl
          · kernel_rfl
          · exact fun _ _ _ h => h
          · refine Or.inl ⟨by rfl, ?_⟩
            intro w' hSw
            (try dsimp only at hSw)
            go_simp
            all_goals (with_reducible rfl)
          · assumption
          try simp only [Act.put, List.setIfInBounds_toArray, List.set_cons_zero, List.set_cons_succ]
          refine wpAnyH_take (i := 10) (oi := ?_) (v := ?_) ?_ ?_ ?_ ?_ ?_ ?_ ?_ ?_
          rotate_left 2
          · simp only [List.getElem?_toArray, List.getElem?_cons_succ, List.getElem?_cons_zero]; rfl
          · kernel_rfl
          · kernel_rfl
          · kernel_rfl
          · exact fun _ _ _ h => h
          · refine Or.inl ⟨by rfl, ?_⟩
            intro w' hSw
            (try dsimp only at hSw)
            go_simp
            all_goals (with_reducible rfl)
          · assumption
          try simp only [Act.put, List.setIfInBounds_toArray, List.set_cons_zero, List.set_cons_succ]
          refine wpAnyH_take (i := 11) (oi := ?_) (v := ?_) ?_ ?_ ?_ ?_ ?_ ?_ ?_ ?_
          rotate_left 2
          · simp only [List.getElem?_toArray, List.getElem?_cons_succ, List.getElem?_cons_zero]; rfl
          · kernel_rfl
          · kernel_rfl
          · kernel_rfl
          · exact fun _ _ _ h => h
          · refine Or.inl ⟨by rfl, ?_⟩
            intro w' hSw
            (try dsimp only at hSw)
            go_simp
            all_goals (with_reducible rfl)
          · assumption
          try simp only [Act.put, List.setIfInBounds_toArray, List.set_cons_zero, List.set_cons_succ]
          refine wpAnyH_take (i := 12) (oi := ?_) (v := ?_) ?_ ?_ ?_ ?_ ?_ ?_ ?_ ?_
          rotate_left 2
          · simp only [List.getElem?_toArray, List.getElem?_cons_succ, List.getElem?_cons_zero]; rfl
          · kernel_rfl
          · kernel_rfl
          · kernel_rfl
          · exact fun _ _ _ h => h
          · refine Or.inl ⟨by rfl, ?_⟩
            intro w' hSw
            (try dsimp only at hSw)
            go_simp
            all_goals (with_reducible rfl)
          · assumption
          try simp only [Act.put, List.setIfInBounds_toArray, List.set_cons_zero, List.set_cons_succ]
          refine wpAnyH_take (i := 13) (oi := ?_) (v := ?_) ?_ ?_ ?_ ?_ ?_ ?_ ?_ ?_
          rotate_left 2
          · simp only [List.getElem?_toArray, List.getElem?_cons_succ, List.getElem?_cons_zero]; rfl
          · kernel_rfl
          · kernel_rfl
          · kernel_rfl
          · exact fun _ _ _ h => h
          · refine Or.inl ⟨by rfl, ?_⟩
            intro w' hSw
            (try dsimp only at hSw)
            go_simp
            all_goals (with_reducible rfl)
          · assumption
          try simp only [Act.put, List.setIfInBounds_toArray, List.set_cons_zero, List.set_cons_succ]
          refine wpAnyH_ready (rs := [7, 15, 16]) (by kernel_rfl) (by simp) ?_
          refine AllReadyH.cons (o := ?_) ?_ ?_ ?_
          rotate_left 1
          · simp only [List.getElem?_toArray, List.getElem?_cons_succ, List.getElem?_cons_zero]; rfl
          rotate_left 1
          · refine AllReadyH.cons (o := ?_) ?_ ?_ ?_
            rotate_left 1
            · simp only [List.getElem?_toArray, List.getElem?_cons_succ, List.getElem?_cons_zero]; rfl
            rotate_left 1
            · refine AllReadyH.cons (o := ?_) ?_ ?_ ?_
              rotate_left 1
              · simp only [List.getElem?_toArray, List.getElem?_cons_succ, List.getElem?_cons_zero]; rfl
              rotate_left 1
              · exact AllReadyH.nil
              intro K hK
              go_simp
              obtain ⟨W1, hw, kb, lb', sb'⟩ := box_new W0 #[.int .i64 0, .int .i64 0, .int .i64 0] 40; rw [hw]; have Gx1 := Lib.hid (Gx0.out.keep lb'); have Ax1 := Lib.hid (Ax0.out.keep lb'); have hnn := far3 Gx0.out Ax0.out; obtain ⟨lb, hbb⟩ : ∃ z, z = W0.heap.size := ⟨_, rfl⟩; rw [← hbb] at kb hnn  ⊢; have Lx1 := Lib.hid (And.intro kb hnn); clear hw kb lb' sb' hnn hbb
              refine hK.out _ _ Ax1.out.rd (fun hHeld => ?_)
              clear hK K
              try simp only [Act.put, List.setIfInBounds_toArray, List.set_cons_zero, List.set_cons_succ]
              refine wpAnyH_ready (rs := [7, 15]) (by kernel_rfl) (by simp) ?_
              refine AllReadyH.cons (o := ?_) ?_ ?_ ?_
              rotate_left 1
              · simp only [List.getElem?_toArray, List.getElem?_cons_succ, List.getElem?_cons_zero]; rfl
              rotate_left 1
              · refine AllReadyH.cons (o := ?_) ?_ ?_ ?_
                rotate_left 1
                · simp only [List.getElem?_toArray, List.getElem?_cons_succ, List.getElem?_cons_zero]; rfl
                rotate_left 1
                · exact AllReadyH.nil
                intro K hK
                go_simp
                obtain ⟨W2, hw, kb, lb', sb'⟩ := box_new W1 #[.int .i64 0, .int .i64 0, .int .i64 0] 40; rw [hw]; have Gx2 := Lib.hid (Gx1.out.keep lb'); have Ax2 := Lib.hid (Ax1.out.keep lb'); have hnn := far3 Gx1.out Ax1.out; have Lx2 := Lib.hid (And.intro (Lx1.out.1.keep lb') Lx1.out.2); have hoo : lb < W1.heap.size := lt_of_block Lx1.out.1; obtain ⟨eb, hbb⟩ : ∃ z, z = W1.heap.size := ⟨_, rfl⟩; rw [← hbb] at kb hnn hoo ⊢; have Ex2 := Lib.hid (And.intro kb hnn); have NEL := Lib.hid (show eb ≠ lb from by omega); clear hw kb lb' sb' hnn hbb hoo
                refine hK.out _ _ Ax2.out.rd (fun hHeld => ?_)
                clear hK K
                try simp only [Act.put, List.setIfInBounds_toArray, List.set_cons_zero, List.set_cons_succ]
                refine wpAnyH_ready (rs := [7]) (by kernel_rfl) (by simp) ?_
                refine AllReadyH.cons (o := ?_) ?_ ?_ ?_
                rotate_left 1
                · simp only [List.getElem?_toArray, List.getElem?_cons_succ, List.getElem?_cons_zero]; rfl
                rotate_left 1
                · exact AllReadyH.nil
                intro K hK
                go_simp
                ((with_reducible refine (CE.out _ Gx2.out.at_).mono ?_); rintro e' W3 ⟨rfl, aa, ff⟩; have Gx3 := Lib.hid (Gx2.out.op aa PE.out ff (fun b hb => Or.inl hb)); have Ax3 := Lib.hid (Ax2.out.fr ff (fun hh => NAB.out (Or.inl hh))); have Ex3 := Lib.hid (And.intro (Ex2.out.1.fr ff (fun hh => Ex2.out.2.1 (Or.inl hh))) Ex2.out.2); have Lx3 := Lib.hid (And.intro (Lx2.out.1.fr ff (fun hh => Lx2.out.2.1 (Or.inl hh))) Lx2.out.2); clear aa ff)
                refine hK.out _ _ Ax3.out.rd (fun hHeld => ?_)
                clear hK K
                try simp only [Act.put, List.setIfInBounds_toArray, List.set_cons_zero, List.set_cons_succ]
                refine wpAnyH_ready (rs := [14]) (by kernel_rfl) (by simp) ?_
                refine AllReadyH.cons (o := ?_) ?_ ?_ ?_
                rotate_left 1
                · simp only [List.getElem?_toArray, List.getElem?_cons_succ, List.getElem?_cons_zero]; rfl
                rotate_left 1
                · exact AllReadyH.nil
                intro K hK
                go_simp
                ((with_reducible refine (CL.out _ Gx3.out.at_).mono ?_); rintro e' W4 ⟨rfl, aa, ff⟩; have Gx4 := Lib.hid (Gx3.out.op aa PL.out ff (fun b hb => Or.inl hb)); have Ax4 := Lib.hid (Ax3.out.fr ff (fun hh => NAB.out (Or.inl hh))); have Ex4 := Lib.hid (And.intro (Ex3.out.1.fr ff (fun hh => Ex3.out.2.1 (Or.inl hh))) Ex3.out.2); have Lx4 := Lib.hid (And.intro (Lx3.out.1.fr ff (fun hh => Lx3.out.2.1 (Or.inl hh))) Lx3.out.2); clear aa ff)
                refine hK.out _ _ Ax4.out.rd (fun hHeld => ?_)
                clear hK K
                try simp only [Act.put, List.setIfInBounds_toArray, List.set_cons_zero, List.set_cons_succ]
                have ke := Ex4.out.1.rd
                have kew := Ex4.out.1.wr
                refine wpAnyH_ready (rs := [17]) (by kernel_rfl) (by simp) ?_
                refine AllReadyH.cons (o := ?_) ?_ ?_ ?_
                rotate_left 1
                · simp only [List.getElem?_toArray, List.getElem?_cons_succ, List.getElem?_cons_zero]; rfl
                rotate_left 1
                · exact AllReadyH.nil
                intro K hK
                go_simp
                (obtain ⟨W5, q5, f5, k5⟩ := three_new Ex4.out.1 (.int .i64 2) (.int .i64 er) (.int .i64 et); rw [q5]; clear q5; have Gx5 := Lib.hid (LmLaw.box' Gx4.out f5 Ex4.out.2.1 Ex4.out.2.2.1); have Ax5 := Lib.hid (Ax4.out.fr f5 (by have := Ex4.out.2.2.2; omega)); have Lx5 := Lib.hid (Lx4.out.1.fr f5 (fun h => NEL.out h.symm)); have Ex5 := Lib.hid k5; clear f5 k5 ke kew; have kl := Lx5.out.rd; have klw := Lx5.out.wr)
                refine hK.out _ _ Ax5.out.rd (fun hHeld => ?_)
                clear hK K
                try simp only [Act.put, List.setIfInBounds_toArray, List.set_cons_zero, List.set_cons_succ]
                refine wpAnyH_ready (rs := [18]) (by kernel_rfl) (by simp) ?_
                refine AllReadyH.cons (o := ?_) ?_ ?_ ?_
                rotate_left 1
                · simp only [List.getElem?_toArray, List.getElem?_cons_succ, List.getElem?_cons_zero]; rfl
                rotate_left 1
                · exact AllReadyH.nil
                intro K hK
                go_simp
                (obtain ⟨W6, q6, f6, k6⟩ := three_new Lx5.out (.int .i64 1) (.int .i64 lr) (.int .i64 lt); rw [q6]; clear q6; have Gx6 := Lib.hid (LmLaw.box' Gx5.out f6 Lx4.out.2.1 Lx4.out.2.2.1); have Ax6 := Lib.hid (Ax5.out.fr f6 (by have := Lx4.out.2.2.2; omega)); have Ex6 := Lib.hid (Ex5.out.fr f6 (fun h => NEL.out h)); have Lx6 := Lib.hid k6; clear f6 k6 kl klw)
                refine hK.out _ _ Ax6.out.rd (fun hHeld => ?_)
                clear hK K
                try simp only [Act.put, List.setIfInBounds_toArray, List.set_cons_zero, List.set_cons_succ]
                refine wpAnyH_done (by kernel_rfl) ?_ _
                clear hHeld
                have ke := Ex6.out.rd
                have kl := Lx6.out.rd
                go_wp2
                go_ret
                exact ⟨rfl, Gx6.out.bl⟩
              intro K hK
              go_simp
              (with_reducible refine (CE.out _ Gx1.out.at_).mono ?_); rintro e' W2 ⟨rfl, aa, ff⟩; have Gx2 := Lib.hid (Gx1.out.op aa PE.out ff (fun b hb => Or.inl hb)); have Ax2 := Lib.hid (Ax1.out.fr ff (fun hh => NAB.out (Or.inl hh))); have Lx2 := Lib.hid (And.intro (Lx1.out.1.fr ff (fun hh => Lx1.out.2.1 (Or.inl hh))) Lx1.out.2); clear aa ff
              refine hK.out _ _ Ax2.out.rd (fun hHeld => ?_)
              clear hK K
              try simp only [Act.put, List.setIfInBounds_toArray, List.set_cons_zero, List.set_cons_succ]
              refine wpAnyH_ready (rs := [14, 15]) (by kernel_rfl) (by simp) ?_
              refine AllReadyH.cons (o := ?_) ?_ ?_ ?_
              rotate_left 1
              · simp only [List.getElem?_toArray, List.getElem?_cons_succ, List.getElem?_cons_zero]; rfl
              rotate_left 1
              · refine AllReadyH.cons (o := ?_) ?_ ?_ ?_
                rotate_left 1
                · simp only [List.getElem?_toArray, List.getElem?_cons_succ, List.getElem?_cons_zero]; rfl
                rotate_left 1
                · exact AllReadyH.nil
                intro K hK
                go_simp
                obtain ⟨W3, hw, kb, lb', sb'⟩ := box_new W2 #[.int .i64 0, .int .i64 0, .int .i64 0] 40; rw [hw]; have Gx3 := Lib.hid (Gx2.out.keep lb'); have Ax3 := Lib.hid (Ax2.out.keep lb'); have hnn := far3 Gx2.out Ax2.out; have Lx3 := Lib.hid (And.intro (Lx2.out.1.keep lb') Lx2.out.2); have hoo : lb < W2.heap.size := lt_of_block Lx2.out.1; obtain ⟨eb, hbb⟩ : ∃ z, z = W2.heap.size := ⟨_, rfl⟩; rw [← hbb] at kb hnn hoo ⊢; have Ex3 := Lib.hid (And.intro kb hnn); have NEL := Lib.hid (show eb ≠ lb from by omega); clear hw kb lb' sb' hnn hbb hoo
                refine hK.out _ _ Ax3.out.rd (fun hHeld => ?_)
                clear hK K
                try simp only [Act.put, List.setIfInBounds_toArray, List.set_cons_zero, List.set_cons_succ]
                refine wpAnyH_ready (rs := [14]) (by kernel_rfl) (by simp) ?_
                refine AllReadyH.cons (o := ?_) ?_ ?_ ?_
                rotate_left 1
                · simp only [List.getElem?_toArray, List.getElem?_cons_succ, List.getElem?_cons_zero]; rfl
                rotate_left 1
                · exact AllReadyH.nil
                intro K hK
                go_simp
                ((with_reducible refine (CL.out _ Gx3.out.at_).mono ?_); rintro e' W4 ⟨rfl, aa, ff⟩; have Gx4 := Lib.hid (Gx3.out.op aa PL.out ff (fun b hb => Or.inl hb)); have Ax4 := Lib.hid (Ax3.out.fr ff (fun hh => NAB.out (Or.inl hh))); have Ex4 := Lib.hid (And.intro (Ex3.out.1.fr ff (fun hh => Ex3.out.2.1 (Or.inl hh))) Ex3.out.2); have Lx4 := Lib.hid (And.intro (Lx3.out.1.fr ff (fun hh => Lx3.out.2.1 (Or.inl hh))) Lx3.out.2); clear aa ff)
                refine hK.out _ _ Ax4.out.rd (fun hHeld => ?_)
                clear hK K
                try simp only [Act.put, List.setIfInBounds_toArray, List.set_cons_zero, List.set_cons_succ]
                have ke := Ex4.out.1.rd
                have kew := Ex4.out.1.wr
                refine wpAnyH_ready (rs := [17]) (by kernel_rfl) (by simp) ?_
                refine AllReadyH.cons (o := ?_) ?_ ?_ ?_
                rotate_left 1
                · simp only [List.getElem?_toArray, List.getElem?_cons_succ, List.getElem?_cons_zero]; rfl
                rotate_left 1
                · exact AllReadyH.nil
                intro K hK
                go_simp
                (obtain ⟨W5, q5, f5, k5⟩ := three_new Ex4.out.1 (.int .i64 2) (.int .i64 er) (.int .i64 et); rw [q5]; clear q5; have Gx5 := Lib.hid (LmLaw.box' Gx4.out f5 Ex4.out.2.1 Ex4.out.2.2.1); have Ax5 := Lib.hid (Ax4.out.fr f5 (by have := Ex4.out.2.2.2; omega)); have Lx5 := Lib.hid (Lx4.out.1.fr f5 (fun h => NEL.out h.symm)); have Ex5 := Lib.hid k5; clear f5 k5 ke kew; have kl := Lx5.out.rd; have klw := Lx5.out.wr)
                refine hK.out _ _ Ax5.out.rd (fun hHeld => ?_)
                clear hK K
                try simp only [Act.put, List.setIfInBounds_toArray, List.set_cons_zero, List.set_cons_succ]
                refine wpAnyH_ready (rs := [18]) (by kernel_rfl) (by simp) ?_
                refine AllReadyH.cons (o := ?_) ?_ ?_ ?_
                rotate_left 1
                · simp only [List.getElem?_toArray, List.getElem?_cons_succ, List.getElem?_cons_zero]; rfl
                rotate_left 1
                · exact AllReadyH.nil
                intro K hK
                go_simp
                (obtain ⟨W6, q6, f6, k6⟩ := three_new Lx5.out (.int .i64 1) (.int .i64 lr) (.int .i64 lt); rw [q6]; clear q6; have Gx6 := Lib.hid (LmLaw.box' Gx5.out f6 Lx4.out.2.1 Lx4.out.2.2.1); have Ax6 := Lib.hid (Ax5.out.fr f6 (by have := Lx4.out.2.2.2; omega)); have Ex6 := Lib.hid (Ex5.out.fr f6 (fun h => NEL.out h)); have Lx6 := Lib.hid k6; clear f6 k6 kl klw)
                refine hK.out _ _ Ax6.out.rd (fun hHeld => ?_)
                clear hK K
                try simp only [Act.put, List.setIfInBounds_toArray, List.set_cons_zero, List.set_cons_succ]
                refine wpAnyH_done (by kernel_rfl) ?_ _
                clear hHeld
                have ke := Ex6.out.rd
                have kl := Lx6.out.rd
                go_wp2
                go_ret
                exact ⟨rfl, Gx6.out.bl⟩
              intro K hK
              go_simp
              (with_reducible refine (CL.out _ Gx2.out.at_).mono ?_); rintro e' W3 ⟨rfl, aa, ff⟩; have Gx3 := Lib.hid (Gx2.out.op aa PL.out ff (fun b hb => Or.inl hb)); have Ax3 := Lib.hid (Ax2.out.fr ff (fun hh => NAB.out (Or.inl hh))); have Lx3 := Lib.hid (And.intro (Lx2.out.1.fr ff (fun hh => Lx2.out.2.1 (Or.inl hh))) Lx2.out.2); clear aa ff
              refine hK.out _ _ Ax3.out.rd (fun hHeld => ?_)
              clear hK K
              try simp only [Act.put, List.setIfInBounds_toArray, List.set_cons_zero, List.set_cons_succ]
              refine wpAnyH_ready (rs := [15]) (by kernel_rfl) (by simp) ?_
              refine AllReadyH.cons (o := ?_) ?_ ?_ ?_
              rotate_left 1
              · simp only [List.getElem?_toArray, List.getElem?_cons_succ, List.getElem?_cons_zero]; rfl
              rotate_left 1
              · exact AllReadyH.nil
              intro K hK
              go_simp
              (obtain ⟨W4, hw, kb, lb', sb'⟩ := box_new W3 #[.int .i64 0, .int .i64 0, .int .i64 0] 40; rw [hw]; have Gx4 := Lib.hid (Gx3.out.keep lb'); have Ax4 := Lib.hid (Ax3.out.keep lb'); have hnn := far3 Gx3.out Ax3.out; have Lx4 := Lib.hid (And.intro (Lx3.out.1.keep lb') Lx3.out.2); have hoo : lb < W3.heap.size := lt_of_block Lx3.out.1; obtain ⟨eb, hbb⟩ : ∃ z, z = W3.heap.size := ⟨_, rfl⟩; rw [← hbb] at kb hnn hoo ⊢; have Ex4 := Lib.hid (And.intro kb hnn); have NEL := Lib.hid (show eb ≠ lb from by omega); clear hw kb lb' sb' hnn hbb hoo)
              refine hK.out _ _ Ax4.out.rd (fun hHeld => ?_)
              clear hK K
              try simp only [Act.put, List.setIfInBounds_toArray, List.set_cons_zero, List.set_cons_succ]
              have ke := Ex4.out.1.rd
              have kew := Ex4.out.1.wr
              refine wpAnyH_ready (rs := [17]) (by kernel_rfl) (by simp) ?_
              refine AllReadyH.cons (o := ?_) ?_ ?_ ?_
              rotate_left 1
              · simp only [List.getElem?_toArray, List.getElem?_cons_succ, List.getElem?_cons_zero]; rfl
              rotate_left 1
              · exact AllReadyH.nil
              intro K hK
              go_simp
              (obtain ⟨W5, q5, f5, k5⟩ := three_new Ex4.out.1 (.int .i64 2) (.int .i64 er) (.int .i64 et); rw [q5]; clear q5; have Gx5 := Lib.hid (LmLaw.box' Gx4.out f5 Ex4.out.2.1 Ex4.out.2.2.1); have Ax5 := Lib.hid (Ax4.out.fr f5 (by have := Ex4.out.2.2.2; omega)); have Lx5 := Lib.hid (Lx4.out.1.fr f5 (fun h => NEL.out h.symm)); have Ex5 := Lib.hid k5; clear f5 k5 ke kew; have kl := Lx5.out.rd; have klw := Lx5.out.wr)
              refine hK.out _ _ Ax5.out.rd (fun hHeld => ?_)
              clear hK K
              try simp only [Act.put, List.setIfInBounds_toArray, List.set_cons_zero, List.set_cons_succ]
              refine wpAnyH_ready (rs := [18]) (by kernel_rfl) (by simp) ?_
              refine AllReadyH.cons (o := ?_) ?_ ?_ ?_
              rotate_left 1
              · simp only [List.getElem?_toArray, List.getElem?_cons_succ, List.getElem?_cons_zero]; rfl
              rotate_left 1
              · exact AllReadyH.nil
              intro K hK
              go_simp
              (obtain ⟨W6, q6, f6, k6⟩ := three_new Lx5.out (.int .i64 1) (.int .i64 lr) (.int .i64 lt); rw [q6]; clear q6; have Gx6 := Lib.hid (LmLaw.box' Gx5.out f6 Lx4.out.2.1 Lx4.out.2.2.1); have Ax6 := Lib.hid (Ax5.out.fr f6 (by have := Lx4.out.2.2.2; omega)); have Ex6 := Lib.hid (Ex5.out.fr f6 (fun h => NEL.out h)); have Lx6 := Lib.hid k6; clear f6 k6 kl klw)
              refine hK.out _ _ Ax6.out.rd (fun hHeld => ?_)
              clear hK K
              try simp only [Act.put, List.setIfInBounds_toArray, List.set_cons_zero, List.set_cons_succ]
              refine wpAnyH_done (by kernel_rfl) ?_ _
              clear hHeld
              have ke := Ex6.out.rd
              have kl := Lx6.out.rd
              go_wp2
              go_ret
              exact ⟨rfl, Gx6.out.bl⟩
            intro K hK
            go_simp
            obtain ⟨W1, hw, kb, lb', sb'⟩ := box_new W0 #[.int .i64 0, .int .i64 0, .int .i64 0] 40; rw [hw]; have Gx1 := Lib.hid (Gx0.out.keep lb'); have Ax1 := Lib.hid (Ax0.out.keep lb'); have hnn := far3 Gx0.out Ax0.out; obtain ⟨eb, hbb⟩ : ∃ z, z = W0.heap.size := ⟨_, rfl⟩; rw [← hbb] at kb hnn  ⊢; have Ex1 := Lib.hid (And.intro kb hnn); clear hw kb lb' sb' hnn hbb
            refine hK.out _ _ Ax1.out.rd (fun hHeld => ?_)
            clear hK K
            try simp only [Act.put, List.setIfInBounds_toArray, List.set_cons_zero, List.set_cons_succ]
            refine wpAnyH_ready (rs := [7, 16]) (by kernel_rfl) (by simp) ?_
            refine AllReadyH.cons (o := ?_) ?_ ?_ ?_
            rotate_left 1
            · simp only [List.getElem?_toArray, List.getElem?_cons_succ, List.getElem?_cons_zero]; rfl
            rotate_left 1
            · refine AllReadyH.cons (o := ?_) ?_ ?_ ?_
              rotate_left 1
              · simp only [List.getElem?_toArray, List.getElem?_cons_succ, List.getElem?_cons_zero]; rfl
              rotate_left 1
              · exact AllReadyH.nil
              intro K hK
              go_simp
              obtain ⟨W2, hw, kb, lb', sb'⟩ := box_new W1 #[.int .i64 0, .int .i64 0, .int .i64 0] 40; rw [hw]; have Gx2 := Lib.hid (Gx1.out.keep lb'); have Ax2 := Lib.hid (Ax1.out.keep lb'); have hnn := far3 Gx1.out Ax1.out; have Ex2 := Lib.hid (And.intro (Ex1.out.1.keep lb') Ex1.out.2); have hoo : eb < W1.heap.size := lt_of_block Ex1.out.1; obtain ⟨lb, hbb⟩ : ∃ z, z = W1.heap.size := ⟨_, rfl⟩; rw [← hbb] at kb hnn hoo ⊢; have Lx2 := Lib.hid (And.intro kb hnn); have NEL := Lib.hid (show eb ≠ lb from by omega); clear hw kb lb' sb' hnn hbb hoo
              refine hK.out _ _ Ax2.out.rd (fun hHeld => ?_)
              clear hK K
              try simp only [Act.put, List.setIfInBounds_toArray, List.set_cons_zero, List.set_cons_succ]
              refine wpAnyH_ready (rs := [7]) (by kernel_rfl) (by simp) ?_
              refine AllReadyH.cons (o := ?_) ?_ ?_ ?_
              rotate_left 1
              · simp only [List.getElem?_toArray, List.getElem?_cons_succ, List.getElem?_cons_zero]; rfl
              rotate_left 1
              · exact AllReadyH.nil
              intro K hK
              go_simp
              ((with_reducible refine (CE.out _ Gx2.out.at_).mono ?_); rintro e' W3 ⟨rfl, aa, ff⟩; have Gx3 := Lib.hid (Gx2.out.op aa PE.out ff (fun b hb => Or.inl hb)); have Ax3 := Lib.hid (Ax2.out.fr ff (fun hh => NAB.out (Or.inl hh))); have Ex3 := Lib.hid (And.intro (Ex2.out.1.fr ff (fun hh => Ex2.out.2.1 (Or.inl hh))) Ex2.out.2); have Lx3 := Lib.hid (And.intro (Lx2.out.1.fr ff (fun hh => Lx2.out.2.1 (Or.inl hh))) Lx2.out.2); clear aa ff)
              refine hK.out _ _ Ax3.out.rd (fun hHeld => ?_)
              clear hK K
              try simp only [Act.put, List.setIfInBounds_toArray, List.set_cons_zero, List.set_cons_succ]
              refine wpAnyH_ready (rs := [14]) (by kernel_rfl) (by simp) ?_
              refine AllReadyH.cons (o := ?_) ?_ ?_ ?_
              rotate_left 1
              · simp only [List.getElem?_toArray, List.getElem?_cons_succ, List.getElem?_cons_zero]; rfl
              rotate_left 1
              · exact AllReadyH.nil
              intro K hK
              go_simp
              ((with_reducible refine (CL.out _ Gx3.out.at_).mono ?_); rintro e' W4 ⟨rfl, aa, ff⟩; have Gx4 := Lib.hid (Gx3.out.op aa PL.out ff (fun b hb => Or.inl hb)); have Ax4 := Lib.hid (Ax3.out.fr ff (fun hh => NAB.out (Or.inl hh))); have Ex4 := Lib.hid (And.intro (Ex3.out.1.fr ff (fun hh => Ex3.out.2.1 (Or.inl hh))) Ex3.out.2); have Lx4 := Lib.hid (And.intro (Lx3.out.1.fr ff (fun hh => Lx3.out.2.1 (Or.inl hh))) Lx3.out.2); clear aa ff)
              refine hK.out _ _ Ax4.out.rd (fun hHeld => ?_)
              clear hK K
              try simp only [Act.put, List.setIfInBounds_toArray, List.set_cons_zero, List.set_cons_succ]
              have ke := Ex4.out.1.rd
              have kew := Ex4.out.1.wr
              refine wpAnyH_ready (rs := [17]) (by kernel_rfl) (by simp) ?_
              refine AllReadyH.cons (o := ?_) ?_ ?_ ?_
              rotate_left 1
              · simp only [List.getElem?_toArray, List.getElem?_cons_succ, List.getElem?_cons_zero]; rfl
              rotate_left 1
              · exact AllReadyH.nil
              intro K hK
              go_simp
              (obtain ⟨W5, q5, f5, k5⟩ := three_new Ex4.out.1 (.int .i64 2) (.int .i64 er) (.int .i64 et); rw [q5]; clear q5; have Gx5 := Lib.hid (LmLaw.box' Gx4.out f5 Ex4.out.2.1 Ex4.out.2.2.1); have Ax5 := Lib.hid (Ax4.out.fr f5 (by have := Ex4.out.2.2.2; omega)); have Lx5 := Lib.hid (Lx4.out.1.fr f5 (fun h => NEL.out h.symm)); have Ex5 := Lib.hid k5; clear f5 k5 ke kew; have kl := Lx5.out.rd; have klw := Lx5.out.wr)
              refine hK.out _ _ Ax5.out.rd (fun hHeld => ?_)
              clear hK K
              try simp only [Act.put, List.setIfInBounds_toArray, List.set_cons_zero, List.set_cons_succ]
              refine wpAnyH_ready (rs := [18]) (by kernel_rfl) (by simp) ?_
              refine AllReadyH.cons (o := ?_) ?_ ?_ ?_
              rotate_left 1
              · simp only [List.getElem?_toArray, List.getElem?_cons_succ, List.getElem?_cons_zero]; rfl
              rotate_left 1
              · exact AllReadyH.nil
              intro K hK
              go_simp
              (obtain ⟨W6, q6, f6, k6⟩ := three_new Lx5.out (.int .i64 1) (.int .i64 lr) (.int .i64 lt); rw [q6]; clear q6; have Gx6 := Lib.hid (LmLaw.box' Gx5.out f6 Lx4.out.2.1 Lx4.out.2.2.1); have Ax6 := Lib.hid (Ax5.out.fr f6 (by have := Lx4.out.2.2.2; omega)); have Ex6 := Lib.hid (Ex5.out.fr f6 (fun h => NEL.out h)); have Lx6 := Lib.hid k6; clear f6 k6 kl klw)
              refine hK.out _ _ Ax6.out.rd (fun hHeld => ?_)
              clear hK K
              try simp only [Act.put, List.setIfInBounds_toArray, List.set_cons_zero, List.set_cons_succ]
              refine wpAnyH_done (by kernel_rfl) ?_ _
              clear hHeld
              have ke := Ex6.out.rd
              have kl := Lx6.out.rd
              go_wp2
              go_ret
              exact ⟨rfl, Gx6.out.bl⟩
            intro K hK
            go_simp
            (with_reducible refine (CE.out _ Gx1.out.at_).mono ?_); rintro e' W2 ⟨rfl, aa, ff⟩; have Gx2 := Lib.hid (Gx1.out.op aa PE.out ff (fun b hb => Or.inl hb)); have Ax2 := Lib.hid (Ax1.out.fr ff (fun hh => NAB.out (Or.inl hh))); have Ex2 := Lib.hid (And.intro (Ex1.out.1.fr ff (fun hh => Ex1.out.2.1 (Or.inl hh))) Ex1.out.2); clear aa ff
            refine hK.out _ _ Ax2.out.rd (fun hHeld => ?_)
            clear hK K
            try simp only [Act.put, List.setIfInBounds_toArray, List.set_cons_zero, List.set_cons_succ]
            refine wpAnyH_ready (rs := [14, 16]) (by kernel_rfl) (by simp) ?_
            refine AllReadyH.cons (o := ?_) ?_ ?_ ?_
            rotate_left 1
            · simp only [List.getElem?_toArray, List.getElem?_cons_succ, List.getElem?_cons_zero]; rfl
            rotate_left 1
            · refine AllReadyH.cons (o := ?_) ?_ ?_ ?_
              rotate_left 1
              · simp only [List.getElem?_toArray, List.getElem?_cons_succ, List.getElem?_cons_zero]; rfl
              rotate_left 1
              · exact AllReadyH.nil
              intro K hK
              go_simp
              obtain ⟨W3, hw, kb, lb', sb'⟩ := box_new W2 #[.int .i64 0, .int .i64 0, .int .i64 0] 40; rw [hw]; have Gx3 := Lib.hid (Gx2.out.keep lb'); have Ax3 := Lib.hid (Ax2.out.keep lb'); have hnn := far3 Gx2.out Ax2.out; have Ex3 := Lib.hid (And.intro (Ex2.out.1.keep lb') Ex2.out.2); have hoo : eb < W2.heap.size := lt_of_block Ex2.out.1; obtain ⟨lb, hbb⟩ : ∃ z, z = W2.heap.size := ⟨_, rfl⟩; rw [← hbb] at kb hnn hoo ⊢; have Lx3 := Lib.hid (And.intro kb hnn); have NEL := Lib.hid (show eb ≠ lb from by omega); clear hw kb lb' sb' hnn hbb hoo
              refine hK.out _ _ Ax3.out.rd (fun hHeld => ?_)
              clear hK K
              try simp only [Act.put, List.setIfInBounds_toArray, List.set_cons_zero, List.set_cons_succ]
              refine wpAnyH_ready (rs := [14]) (by kernel_rfl) (by simp) ?_
              refine AllReadyH.cons (o := ?_) ?_ ?_ ?_
              rotate_left 1
              · simp only [List.getElem?_toArray, List.getElem?_cons_succ, List.getElem?_cons_zero]; rfl
              rotate_left 1
              · exact AllReadyH.nil
              intro K hK
              go_simp
              ((with_reducible refine (CL.out _ Gx3.out.at_).mono ?_); rintro e' W4 ⟨rfl, aa, ff⟩; have Gx4 := Lib.hid (Gx3.out.op aa PL.out ff (fun b hb => Or.inl hb)); have Ax4 := Lib.hid (Ax3.out.fr ff (fun hh => NAB.out (Or.inl hh))); have Ex4 := Lib.hid (And.intro (Ex3.out.1.fr ff (fun hh => Ex3.out.2.1 (Or.inl hh))) Ex3.out.2); have Lx4 := Lib.hid (And.intro (Lx3.out.1.fr ff (fun hh => Lx3.out.2.1 (Or.inl hh))) Lx3.out.2); clear aa ff)
              refine hK.out _ _ Ax4.out.rd (fun hHeld => ?_)
              clear hK K
              try simp only [Act.put, List.setIfInBounds_toArray, List.set_cons_zero, List.set_cons_succ]
              have ke := Ex4.out.1.rd
              have kew := Ex4.out.1.wr
              refine wpAnyH_ready (rs := [17]) (by kernel_rfl) (by simp) ?_
              refine AllReadyH.cons (o := ?_) ?_ ?_ ?_
              rotate_left 1
              · simp only [List.getElem?_toArray, List.getElem?_cons_succ, List.getElem?_cons_zero]; rfl
              rotate_left 1
              · exact AllReadyH.nil
              intro K hK
              go_simp
              (obtain ⟨W5, q5, f5, k5⟩ := three_new Ex4.out.1 (.int .i64 2) (.int .i64 er) (.int .i64 et); rw [q5]; clear q5; have Gx5 := Lib.hid (LmLaw.box' Gx4.out f5 Ex4.out.2.1 Ex4.out.2.2.1); have Ax5 := Lib.hid (Ax4.out.fr f5 (by have := Ex4.out.2.2.2; omega)); have Lx5 := Lib.hid (Lx4.out.1.fr f5 (fun h => NEL.out h.symm)); have Ex5 := Lib.hid k5; clear f5 k5 ke kew; have kl := Lx5.out.rd; have klw := Lx5.out.wr)
              refine hK.out _ _ Ax5.out.rd (fun hHeld => ?_)
              clear hK K
              try simp only [Act.put, List.setIfInBounds_toArray, List.set_cons_zero, List.set_cons_succ]
              refine wpAnyH_ready (rs := [18]) (by kernel_rfl) (by simp) ?_
              refine AllReadyH.cons (o := ?_) ?_ ?_ ?_
              rotate_left 1
              · simp only [List.getElem?_toArray, List.getElem?_cons_succ, List.getElem?_cons_zero]; rfl
              rotate_left 1
              · exact AllReadyH.nil
              intro K hK
              go_simp
              (obtain ⟨W6, q6, f6, k6⟩ := three_new Lx5.out (.int .i64 1) (.int .i64 lr) (.int .i64 lt); rw [q6]; clear q6; have Gx6 := Lib.hid (LmLaw.box' Gx5.out f6 Lx4.out.2.1 Lx4.out.2.2.1); have Ax6 := Lib.hid (Ax5.out.fr f6 (by have := Lx4.out.2.2.2; omega)); have Ex6 := Lib.hid (Ex5.out.fr f6 (fun h => NEL.out h)); have Lx6 := Lib.hid k6; clear f6 k6 kl klw)
              refine hK.out _ _ Ax6.out.rd (fun hHeld => ?_)
              clear hK K
              try simp only [Act.put, List.setIfInBounds_toArray, List.set_cons_zero, List.set_cons_succ]
              refine wpAnyH_done (by kernel_rfl) ?_ _
              clear hHeld
              have ke := Ex6.out.rd
              have kl := Lx6.out.rd
              go_wp2
              go_ret
              exact ⟨rfl, Gx6.out.bl⟩
            intro K hK
            go_simp
            (with_reducible refine (CL.out _ Gx2.out.at_).mono ?_); rintro e' W3 ⟨rfl, aa, ff⟩; have Gx3 := Lib.hid (Gx2.out.op aa PL.out ff (fun b hb => Or.inl hb)); have Ax3 := Lib.hid (Ax2.out.fr ff (fun hh => NAB.out (Or.inl hh))); have Ex3 := Lib.hid (And.intro (Ex2.out.1.fr ff (fun hh => Ex2.out.2.1 (Or.inl hh))) Ex2.out.2); clear aa ff
            refine hK.out _ _ Ax3.out.rd (fun hHeld => ?_)
            clear hK K
            try simp only [Act.put, List.setIfInBounds_toArray, List.set_cons_zero, List.set_cons_succ]
            refine wpAnyH_ready (rs := [16]) (by kernel_rfl) (by simp) ?_
            refine AllReadyH.cons (o := ?_) ?_ ?_ ?_
            rotate_left 1
            · simp only [List.getElem?_toArray, List.getElem?_cons_succ, List.getElem?_cons_zero]; rfl
            rotate_left 1
            · exact AllReadyH.nil
            intro K hK
            go_simp
            (obtain ⟨W4, hw, kb, lb', sb'⟩ := box_new W3 #[.int .i64 0, .int .i64 0, .int .i64 0] 40; rw [hw]; have Gx4 := Lib.hid (Gx3.out.keep lb'); have Ax4 := Lib.hid (Ax3.out.keep lb'); have hnn := far3 Gx3.out Ax3.out; have Ex4 := Lib.hid (And.intro (Ex3.out.1.keep lb') Ex3.out.2); have hoo : eb < W3.heap.size := lt_of_block Ex3.out.1; obtain ⟨lb, hbb⟩ : ∃ z, z = W3.heap.size := ⟨_, rfl⟩; rw [← hbb] at kb hnn hoo ⊢; have Lx4 := Lib.hid (And.intro kb hnn); have NEL := Lib.hid (show eb ≠ lb from by omega); clear hw kb lb' sb' hnn hbb hoo)
            refine hK.out _ _ Ax4.out.rd (fun hHeld => ?_)
            clear hK K
            try simp only [Act.put, List.setIfInBounds_toArray, List.set_cons_zero, List.set_cons_succ]
            have ke := Ex4.out.1.rd
            have kew := Ex4.out.1.wr
            refine wpAnyH_ready (rs := [17]) (by kernel_rfl) (by simp) ?_
            refine AllReadyH.cons (o := ?_) ?_ ?_ ?_
            rotate_left 1
            · simp only [List.getElem?_toArray, List.getElem?_cons_succ, List.getElem?_cons_zero]; rfl
            rotate_left 1
            · exact AllReadyH.nil
            intro K hK
            go_simp
            (obtain ⟨W5, q5, f5, k5⟩ := three_new Ex4.out.1 (.int .i64 2) (.int .i64 er) (.int .i64 et); rw [q5]; clear q5; have Gx5 := Lib.hid (LmLaw.box' Gx4.out f5 Ex4.out.2.1 Ex4.out.2.2.1); have Ax5 := Lib.hid (Ax4.out.fr f5 (by have := Ex4.out.2.2.2; omega)); have Lx5 := Lib.hid (Lx4.out.1.fr f5 (fun h => NEL.out h.symm)); have Ex5 := Lib.hid k5; clear f5 k5 ke kew; have kl := Lx5.out.rd; have klw := Lx5.out.wr)
            refine hK.out _ _ Ax5.out.rd (fun hHeld => ?_)
            clear hK K
            try simp only [Act.put, List.setIfInBounds_toArray, List.set_cons_zero, List.set_cons_succ]
            refine wpAnyH_ready (rs := [18]) (by kernel_rfl) (by simp) ?_
            refine AllReadyH.cons (o := ?_) ?_ ?_ ?_
            rotate_left 1
            · simp only [List.getElem?_toArray, List.getElem?_cons_succ, List.getElem?_cons_zero]; rfl
            rotate_left 1
            · exact AllReadyH.nil
            intro K hK
            go_simp
            (obtain ⟨W6, q6, f6, k6⟩ := three_new Lx5.out (.int .i64 1) (.int .i64 lr) (.int .i64 lt); rw [q6]; clear q6; have Gx6 := Lib.hid (LmLaw.box' Gx5.out f6 Lx4.out.2.1 Lx4.out.2.2.1); have Ax6 := Lib.hid (Ax5.out.fr f6 (by have := Lx4.out.2.2.2; omega)); have Ex6 := Lib.hid (Ex5.out.fr f6 (fun h => NEL.out h)); have Lx6 := Lib.hid k6; clear f6 k6 kl klw)
            refine hK.out _ _ Ax6.out.rd (fun hHeld => ?_)
            clear hK K
            try simp only [Act.put, List.setIfInBounds_toArray, List.set_cons_zero, List.set_cons_succ]
            refine wpAnyH_done (by kernel_rfl) ?_ _
            clear hHeld
            have ke := Ex6.out.rd
            have kl := Lx6.out.rd
            go_wp2
            go_ret
            exact ⟨rfl, Gx6.out.bl⟩
          intro K hK
          go_simp
          (with_reducible refine (CE.out _ Gx0.out.at_).mono ?_); rintro e' W1 ⟨rfl, aa, ff⟩; have Gx1 := Lib.hid (Gx0.out.op aa PE.out ff (fun b hb => Or.inl hb)); have Ax1 := Lib.hid (Ax0.out.fr ff (fun hh => NAB.out (Or.inl hh))); clear aa ff
          refine hK.out _ _ Ax1.out.rd (fun hHeld => ?_)
          clear hK K
          try simp only [Act.put, List.setIfInBounds_toArray, List.set_cons_zero, List.set_cons_succ]
          refine wpAnyH_ready (rs := [14, 15, 16]) (by kernel_rfl) (by simp) ?_
          refine AllReadyH.cons (o := ?_) ?_ ?_ ?_
          rotate_left 1
          · simp only [List.getElem?_toArray, List.getElem?_cons_succ, List.getElem?_cons_zero]; rfl
          rotate_left 1
          · refine AllReadyH.cons (o := ?_) ?_ ?_ ?_
            rotate_left 1
            · simp only [List.getElem?_toArray, List.getElem?_cons_succ, List.getElem?_cons_zero]; rfl
            rotate_left 1
            · refine AllReadyH.cons (o := ?_) ?_ ?_ ?_
              rotate_left 1
              · simp only [List.getElem?_toArray, List.getElem?_cons_succ, List.getElem?_cons_zero]; rfl
              rotate_left 1
              · exact AllReadyH.nil
              intro K hK
              go_simp
              obtain ⟨W2, hw, kb, lb', sb'⟩ := box_new W1 #[.int .i64 0, .int .i64 0, .int .i64 0] 40; rw [hw]; have Gx2 := Lib.hid (Gx1.out.keep lb'); have Ax2 := Lib.hid (Ax1.out.keep lb'); have hnn := far3 Gx1.out Ax1.out; obtain ⟨lb, hbb⟩ : ∃ z, z = W1.heap.size := ⟨_, rfl⟩; rw [← hbb] at kb hnn  ⊢; have Lx2 := Lib.hid (And.intro kb hnn); clear hw kb lb' sb' hnn hbb
              refine hK.out _ _ Ax2.out.rd (fun hHeld => ?_)
              clear hK K
              try simp only [Act.put, List.setIfInBounds_toArray, List.set_cons_zero, List.set_cons_succ]
              refine wpAnyH_ready (rs := [14, 15]) (by kernel_rfl) (by simp) ?_
              refine AllReadyH.cons (o := ?_) ?_ ?_ ?_
              rotate_left 1
              · simp only [List.getElem?_toArray, List.getElem?_cons_succ, List.getElem?_cons_zero]; rfl
              rotate_left 1
              · refine AllReadyH.cons (o := ?_) ?_ ?_ ?_
                rotate_left 1
                · simp only [List.getElem?_toArray, List.getElem?_cons_succ, List.getElem?_cons_zero]; rfl
                rotate_left 1
                · exact AllReadyH.nil
                intro K hK
                go_simp
                obtain ⟨W3, hw, kb, lb', sb'⟩ := box_new W2 #[.int .i64 0, .int .i64 0, .int .i64 0] 40; rw [hw]; have Gx3 := Lib.hid (Gx2.out.keep lb'); have Ax3 := Lib.hid (Ax2.out.keep lb'); have hnn := far3 Gx2.out Ax2.out; have Lx3 := Lib.hid (And.intro (Lx2.out.1.keep lb') Lx2.out.2); have hoo : lb < W2.heap.size := lt_of_block Lx2.out.1; obtain ⟨eb, hbb⟩ : ∃ z, z = W2.heap.size := ⟨_, rfl⟩; rw [← hbb] at kb hnn hoo ⊢; have Ex3 := Lib.hid (And.intro kb hnn); have NEL := Lib.hid (show eb ≠ lb from by omega); clear hw kb lb' sb' hnn hbb hoo
                refine hK.out _ _ Ax3.out.rd (fun hHeld => ?_)
                clear hK K
                try simp only [Act.put, List.setIfInBounds_toArray, List.set_cons_zero, List.set_cons_succ]
                refine wpAnyH_ready (rs := [14]) (by kernel_rfl) (by simp) ?_
                refine AllReadyH.cons (o := ?_) ?_ ?_ ?_
                rotate_left 1
                · simp only [List.getElem?_toArray, List.getElem?_cons_succ, List.getElem?_cons_zero]; rfl
                rotate_left 1
                · exact AllReadyH.nil
                intro K hK
                go_simp
                ((with_reducible refine (CL.out _ Gx3.out.at_).mono ?_); rintro e' W4 ⟨rfl, aa, ff⟩; have Gx4 := Lib.hid (Gx3.out.op aa PL.out ff (fun b hb => Or.inl hb)); have Ax4 := Lib.hid (Ax3.out.fr ff (fun hh => NAB.out (Or.inl hh))); have Ex4 := Lib.hid (And.intro (Ex3.out.1.fr ff (fun hh => Ex3.out.2.1 (Or.inl hh))) Ex3.out.2); have Lx4 := Lib.hid (And.intro (Lx3.out.1.fr ff (fun hh => Lx3.out.2.1 (Or.inl hh))) Lx3.out.2); clear aa ff)
                refine hK.out _ _ Ax4.out.rd (fun hHeld => ?_)
                clear hK K
                try simp only [Act.put, List.setIfInBounds_toArray, List.set_cons_zero, List.set_cons_succ]
                have ke := Ex4.out.1.rd
                have kew := Ex4.out.1.wr
                refine wpAnyH_ready (rs := [17]) (by kernel_rfl) (by simp) ?_
                refine AllReadyH.cons (o := ?_) ?_ ?_ ?_
                rotate_left 1
                · simp only [List.getElem?_toArray, List.getElem?_cons_succ, List.getElem?_cons_zero]; rfl
                rotate_left 1
                · exact AllReadyH.nil
                intro K hK
                go_simp
                (obtain ⟨W5, q5, f5, k5⟩ := three_new Ex4.out.1 (.int .i64 2) (.int .i64 er) (.int .i64 et); rw [q5]; clear q5; have Gx5 := Lib.hid (LmLaw.box' Gx4.out f5 Ex4.out.2.1 Ex4.out.2.2.1); have Ax5 := Lib.hid (Ax4.out.fr f5 (by have := Ex4.out.2.2.2; omega)); have Lx5 := Lib.hid (Lx4.out.1.fr f5 (fun h => NEL.out h.symm)); have Ex5 := Lib.hid k5; clear f5 k5 ke kew; have kl := Lx5.out.rd; have klw := Lx5.out.wr)
                refine hK.out _ _ Ax5.out.rd (fun hHeld => ?_)
                clear hK K
                try simp only [Act.put, List.setIfInBounds_toArray, List.set_cons_zero, List.set_cons_succ]
                refine wpAnyH_ready (rs := [18]) (by kernel_rfl) (by simp) ?_
                refine AllReadyH.cons (o := ?_) ?_ ?_ ?_
                rotate_left 1
                · simp only [List.getElem?_toArray, List.getElem?_cons_succ, List.getElem?_cons_zero]; rfl
                rotate_left 1
                · exact AllReadyH.nil
                intro K hK
                go_simp
                (obtain ⟨W6, q6, f6, k6⟩ := three_new Lx5.out (.int .i64 1) (.int .i64 lr) (.int .i64 lt); rw [q6]; clear q6; have Gx6 := Lib.hid (LmLaw.box' Gx5.out f6 Lx4.out.2.1 Lx4.out.2.2.1); have Ax6 := Lib.hid (Ax5.out.fr f6 (by have := Lx4.out.2.2.2; omega)); have Ex6 := Lib.hid (Ex5.out.fr f6 (fun h => NEL.out h)); have Lx6 := Lib.hid k6; clear f6 k6 kl klw)
                refine hK.out _ _ Ax6.out.rd (fun hHeld => ?_)
                clear hK K
                try simp only [Act.put, List.setIfInBounds_toArray, List.set_cons_zero, List.set_cons_succ]
                refine wpAnyH_done (by kernel_rfl) ?_ _
                clear hHeld
                have ke := Ex6.out.rd
                have kl := Lx6.out.rd
                go_wp2
                go_ret
                exact ⟨rfl, Gx6.out.bl⟩
              intro K hK
              go_simp
              (with_reducible refine (CL.out _ Gx2.out.at_).mono ?_); rintro e' W3 ⟨rfl, aa, ff⟩; have Gx3 := Lib.hid (Gx2.out.op aa PL.out ff (fun b hb => Or.inl hb)); have Ax3 := Lib.hid (Ax2.out.fr ff (fun hh => NAB.out (Or.inl hh))); have Lx3 := Lib.hid (And.intro (Lx2.out.1.fr ff (fun hh => Lx2.out.2.1 (Or.inl hh))) Lx2.out.2); clear aa ff
              refine hK.out _ _ Ax3.out.rd (fun hHeld => ?_)
              clear hK K
              try simp only [Act.put, List.setIfInBounds_toArray, List.set_cons_zero, List.set_cons_succ]
              refine wpAnyH_ready (rs := [15]) (by kernel_rfl) (by simp) ?_
              refine AllReadyH.cons (o := ?_) ?_ ?_ ?_
              rotate_left 1
              · simp only [List.getElem?_toArray, List.getElem?_cons_succ, List.getElem?_cons_zero]; rfl
              rotate_left 1
              · exact AllReadyH.nil
              intro K hK
              go_simp
              (obtain ⟨W4, hw, kb, lb', sb'⟩ := box_new W3 #[.int .i64 0, .int .i64 0, .int .i64 0] 40; rw [hw]; have Gx4 := Lib.hid (Gx3.out.keep lb'); have Ax4 := Lib.hid (Ax3.out.keep lb'); have hnn := far3 Gx3.out Ax3.out; have Lx4 := Lib.hid (And.intro (Lx3.out.1.keep lb') Lx3.out.2); have hoo : lb < W3.heap.size := lt_of_block Lx3.out.1; obtain ⟨eb, hbb⟩ : ∃ z, z = W3.heap.size := ⟨_, rfl⟩; rw [← hbb] at kb hnn hoo ⊢; have Ex4 := Lib.hid (And.intro kb hnn); have NEL := Lib.hid (show eb ≠ lb from by omega); clear hw kb lb' sb' hnn hbb hoo)
              refine hK.out _ _ Ax4.out.rd (fun hHeld => ?_)
              clear hK K
              try simp only [Act.put, List.setIfInBounds_toArray, List.set_cons_zero, List.set_cons_succ]
              have ke := Ex4.out.1.rd
              have kew := Ex4.out.1.wr
              refine wpAnyH_ready (rs := [17]) (by kernel_rfl) (by simp) ?_
              refine AllReadyH.cons (o := ?_) ?_ ?_ ?_
              rotate_left 1
              · simp only [List.getElem?_toArray, List.getElem?_cons_succ, List.getElem?_cons_zero]; rfl
              rotate_left 1
              · exact AllReadyH.nil
              intro K hK
              go_simp
              (obtain ⟨W5, q5, f5, k5⟩ := three_new Ex4.out.1 (.int .i64 2) (.int .i64 er) (.int .i64 et); rw [q5]; clear q5; have Gx5 := Lib.hid (LmLaw.box' Gx4.out f5 Ex4.out.2.1 Ex4.out.2.2.1); have Ax5 := Lib.hid (Ax4.out.fr f5 (by have := Ex4.out.2.2.2; omega)); have Lx5 := Lib.hid (Lx4.out.1.fr f5 (fun h => NEL.out h.symm)); have Ex5 := Lib.hid k5; clear f5 k5 ke kew; have kl := Lx5.out.rd; have klw := Lx5.out.wr)
              refine hK.out _ _ Ax5.out.rd (fun hHeld => ?_)
              clear hK K
              try simp only [Act.put, List.setIfInBounds_toArray, List.set_cons_zero, List.set_cons_succ]
              refine wpAnyH_ready (rs := [18]) (by kernel_rfl) (by simp) ?_
              refine AllReadyH.cons (o := ?_) ?_ ?_ ?_
              rotate_left 1
              · simp only [List.getElem?_toArray, List.getElem?_cons_succ, List.getElem?_cons_zero]; rfl
              rotate_left 1
              · exact AllReadyH.nil
              intro K hK
              go_simp
              (obtain ⟨W6, q6, f6, k6⟩ := three_new Lx5.out (.int .i64 1) (.int .i64 lr) (.int .i64 lt); rw [q6]; clear q6; have Gx6 := Lib.hid (LmLaw.box' Gx5.out f6 Lx4.out.2.1 Lx4.out.2.2.1); have Ax6 := Lib.hid (Ax5.out.fr f6 (by have := Lx4.out.2.2.2; omega)); have Ex6 := Lib.hid (Ex5.out.fr f6 (fun h => NEL.out h)); have Lx6 := Lib.hid k6; clear f6 k6 kl klw)
              refine hK.out _ _ Ax6.out.rd (fun hHeld => ?_)
              clear hK K
              try simp only [Act.put, List.setIfInBounds_toArray, List.set_cons_zero, List.set_cons_succ]
              refine wpAnyH_done (by kernel_rfl) ?_ _
              clear hHeld
              have ke := Ex6.out.rd
              have kl := Lx6.out.rd
              go_wp2
              go_ret
              exact ⟨rfl, Gx6.out.bl⟩
            intro K hK
            go_simp
            obtain ⟨W2, hw, kb, lb', sb'⟩ := box_new W1 #[.int .i64 0, .int .i64 0, .int .i64 0] 40; rw [hw]; have Gx2 := Lib.hid (Gx1.out.keep lb'); have Ax2 := Lib.hid (Ax1.out.keep lb'); have hnn := far3 Gx1.out Ax1.out; obtain ⟨eb, hbb⟩ : ∃ z, z = W1.heap.size := ⟨_, rfl⟩; rw [← hbb] at kb hnn  ⊢; have Ex2 := Lib.hid (And.intro kb hnn); clear hw kb lb' sb' hnn hbb
            refine hK.out _ _ Ax2.out.rd (fun hHeld => ?_)
            clear hK K
            try simp only [Act.put, List.setIfInBounds_toArray, List.set_cons_zero, List.set_cons_succ]
            refine wpAnyH_ready (rs := [14, 16]) (by kernel_rfl) (by simp) ?_
            refine AllReadyH.cons (o := ?_) ?_ ?_ ?_
            rotate_left 1
            · simp only [List.getElem?_toArray, List.getElem?_cons_succ, List.getElem?_cons_zero]; rfl
            rotate_left 1
            · refine AllReadyH.cons (o := ?_) ?_ ?_ ?_
              rotate_left 1
              · simp only [List.getElem?_toArray, List.getElem?_cons_succ, List.getElem?_cons_zero]; rfl
              rotate_left 1
              · exact AllReadyH.nil
              intro K hK
              go_simp
              obtain ⟨W3, hw, kb, lb', sb'⟩ := box_new W2 #[.int .i64 0, .int .i64 0, .int .i64 0] 40; rw [hw]; have Gx3 := Lib.hid (Gx2.out.keep lb'); have Ax3 := Lib.hid (Ax2.out.keep lb'); have hnn := far3 Gx2.out Ax2.out; have Ex3 := Lib.hid (And.intro (Ex2.out.1.keep lb') Ex2.out.2); have hoo : eb < W2.heap.size := lt_of_block Ex2.out.1; obtain ⟨lb, hbb⟩ : ∃ z, z = W2.heap.size := ⟨_, rfl⟩; rw [← hbb] at kb hnn hoo ⊢; have Lx3 := Lib.hid (And.intro kb hnn); have NEL := Lib.hid (show eb ≠ lb from by omega); clear hw kb lb' sb' hnn hbb hoo
              refine hK.out _ _ Ax3.out.rd (fun hHeld => ?_)
              clear hK K
              try simp only [Act.put, List.setIfInBounds_toArray, List.set_cons_zero, List.set_cons_succ]
              refine wpAnyH_ready (rs := [14]) (by kernel_rfl) (by simp) ?_
              refine AllReadyH.cons (o := ?_) ?_ ?_ ?_
              rotate_left 1
              · simp only [List.getElem?_toArray, List.getElem?_cons_succ, List.getElem?_cons_zero]; rfl
              rotate_left 1
              · exact AllReadyH.nil
              intro K hK
              go_simp
              ((with_reducible refine (CL.out _ Gx3.out.at_).mono ?_); rintro e' W4 ⟨rfl, aa, ff⟩; have Gx4 := Lib.hid (Gx3.out.op aa PL.out ff (fun b hb => Or.inl hb)); have Ax4 := Lib.hid (Ax3.out.fr ff (fun hh => NAB.out (Or.inl hh))); have Ex4 := Lib.hid (And.intro (Ex3.out.1.fr ff (fun hh => Ex3.out.2.1 (Or.inl hh))) Ex3.out.2); have Lx4 := Lib.hid (And.intro (Lx3.out.1.fr ff (fun hh => Lx3.out.2.1 (Or.inl hh))) Lx3.out.2); clear aa ff)
              refine hK.out _ _ Ax4.out.rd (fun hHeld => ?_)
              clear hK K
              try simp only [Act.put, List.setIfInBounds_toArray, List.set_cons_zero, List.set_cons_succ]
              have ke := Ex4.out.1.rd
              have kew := Ex4.out.1.wr
              refine wpAnyH_ready (rs := [17]) (by kernel_rfl) (by simp) ?_
              refine AllReadyH.cons (o := ?_) ?_ ?_ ?_
              rotate_left 1
              · simp only [List.getElem?_toArray, List.getElem?_cons_succ, List.getElem?_cons_zero]; rfl
              rotate_left 1
              · exact AllReadyH.nil
              intro K hK
              go_simp
              (obtain ⟨W5, q5, f5, k5⟩ := three_new Ex4.out.1 (.int .i64 2) (.int .i64 er) (.int .i64 et); rw [q5]; clear q5; have Gx5 := Lib.hid (LmLaw.box' Gx4.out f5 Ex4.out.2.1 Ex4.out.2.2.1); have Ax5 := Lib.hid (Ax4.out.fr f5 (by have := Ex4.out.2.2.2; omega)); have Lx5 := Lib.hid (Lx4.out.1.fr f5 (fun h => NEL.out h.symm)); have Ex5 := Lib.hid k5; clear f5 k5 ke kew; have kl := Lx5.out.rd; have klw := Lx5.out.wr)
              refine hK.out _ _ Ax5.out.rd (fun hHeld => ?_)
              clear hK K
              try simp only [Act.put, List.setIfInBounds_toArray, List.set_cons_zero, List.set_cons_succ]
              refine wpAnyH_ready (rs := [18]) (by kernel_rfl) (by simp) ?_
              refine AllReadyH.cons (o := ?_) ?_ ?_ ?_
              rotate_left 1
              · simp only [List.getElem?_toArray, List.getElem?_cons_succ, List.getElem?_cons_zero]; rfl
              rotate_left 1
              · exact AllReadyH.nil
              intro K hK
              go_simp
              (obtain ⟨W6, q6, f6, k6⟩ := three_new Lx5.out (.int .i64 1) (.int .i64 lr) (.int .i64 lt); rw [q6]; clear q6; have Gx6 := Lib.hid (LmLaw.box' Gx5.out f6 Lx4.out.2.1 Lx4.out.2.2.1); have Ax6 := Lib.hid (Ax5.out.fr f6 (by have := Lx4.out.2.2.2; omega)); have Ex6 := Lib.hid (Ex5.out.fr f6 (fun h => NEL.out h)); have Lx6 := Lib.hid k6; clear f6 k6 kl klw)
              refine hK.out _ _ Ax6.out.rd (fun hHeld => ?_)
              clear hK K
              try simp only [Act.put, List.setIfInBounds_toArray, List.set_cons_zero, List.set_cons_succ]
              refine wpAnyH_done (by kernel_rfl) ?_ _
              clear hHeld
              have ke := Ex6.out.rd
              have kl := Lx6.out.rd
              go_wp2
              go_ret
              exact ⟨rfl, Gx6.out.bl⟩
            intro K hK
            go_simp
            (with_reducible refine (CL.out _ Gx2.out.at_).mono ?_); rintro e' W3 ⟨rfl, aa, ff⟩; have Gx3 := Lib.hid (Gx2.out.op aa PL.out ff (fun b hb => Or.inl hb)); have Ax3 := Lib.hid (Ax2.out.fr ff (fun hh => NAB.out (Or.inl hh))); have Ex3 := Lib.hid (And.intro (Ex2.out.1.fr ff (fun hh => Ex2.out.2.1 (Or.inl hh))) Ex2.out.2); clear aa ff
            refine hK.out _ _ Ax3.out.rd (fun hHeld => ?_)
            clear hK K
            try simp only [Act.put, List.setIfInBounds_toArray, List.set_cons_zero, List.set_cons_succ]
            refine wpAnyH_ready (rs := [16]) (by kernel_rfl) (by simp) ?_
            refine AllReadyH.cons (o := ?_) ?_ ?_ ?_
            rotate_left 1
            · simp only [List.getElem?_toArray, List.getElem?_cons_succ, List.getElem?_cons_zero]; rfl
            rotate_left 1
            · exact AllReadyH.nil
            intro K hK
            go_simp
            (obtain ⟨W4, hw, kb, lb', sb'⟩ := box_new W3 #[.int .i64 0, .int .i64 0, .int .i64 0] 40; rw [hw]; have Gx4 := Lib.hid (Gx3.out.keep lb'); have Ax4 := Lib.hid (Ax3.out.keep lb'); have hnn := far3 Gx3.out Ax3.out; have Ex4 := Lib.hid (And.intro (Ex3.out.1.keep lb') Ex3.out.2); have hoo : eb < W3.heap.size := lt_of_block Ex3.out.1; obtain ⟨lb, hbb⟩ : ∃ z, z = W3.heap.size := ⟨_, rfl⟩; rw [← hbb] at kb hnn hoo ⊢; have Lx4 := Lib.hid (And.intro kb hnn); have NEL := Lib.hid (show eb ≠ lb from by omega); clear hw kb lb' sb' hnn hbb hoo)
            refine hK.out _ _ Ax4.out.rd (fun hHeld => ?_)
            clear hK K
            try simp only [Act.put, List.setIfInBounds_toArray, List.set_cons_zero, List.set_cons_succ]
            have ke := Ex4.out.1.rd
            have kew := Ex4.out.1.wr
            refine wpAnyH_ready (rs := [17]) (by kernel_rfl) (by simp) ?_
            refine AllReadyH.cons (o := ?_) ?_ ?_ ?_
            rotate_left 1
            · simp only [List.getElem?_toArray, List.getElem?_cons_succ, List.getElem?_cons_zero]; rfl
            rotate_left 1
            · exact AllReadyH.nil
            intro K hK
            go_simp
            (obtain ⟨W5, q5, f5, k5⟩ := three_new Ex4.out.1 (.int .i64 2) (.int .i64 er) (.int .i64 et); rw [q5]; clear q5; have Gx5 := Lib.hid (LmLaw.box' Gx4.out f5 Ex4.out.2.1 Ex4.out.2.2.1); have Ax5 := Lib.hid (Ax4.out.fr f5 (by have := Ex4.out.2.2.2; omega)); have Lx5 := Lib.hid (Lx4.out.1.fr f5 (fun h => NEL.out h.symm)); have Ex5 := Lib.hid k5; clear f5 k5 ke kew; have kl := Lx5.out.rd; have klw := Lx5.out.wr)
            refine hK.out _ _ Ax5.out.rd (fun hHeld => ?_)
            clear hK K
            try simp only [Act.put, List.setIfInBounds_toArray, List.set_cons_zero, List.set_cons_succ]
            refine wpAnyH_ready (rs := [18]) (by kernel_rfl) (by simp) ?_
            refine AllReadyH.cons (o := ?_) ?_ ?_ ?_
            rotate_left 1
            · simp only [List.getElem?_toArray, List.getElem?_cons_succ, List.getElem?_cons_zero]; rfl
            rotate_left 1
            · exact AllReadyH.nil
            intro K hK
            go_simp
            (obtain ⟨W6, q6, f6, k6⟩ := three_new Lx5.out (.int .i64 1) (.int .i64 lr) (.int .i64 lt); rw [q6]; clear q6; have Gx6 := Lib.hid (LmLaw.box' Gx5.out f6 Lx4.out.2.1 Lx4.out.2.2.1); have Ax6 := Lib.hid (Ax5.out.fr f6 (by have := Lx4.out.2.2.2; omega)); have Ex6 := Lib.hid (Ex5.out.fr f6 (fun h => NEL.out h)); have Lx6 := Lib.hid k6; clear f6 k6 kl klw)
            refine hK.out _ _ Ax6.out.rd (fun hHeld => ?_)
            clear hK K
            try simp only [Act.put, List.setIfInBounds_toArray, List.set_cons_zero, List.set_cons_succ]
            refine wpAnyH_done (by kernel_rfl) ?_ _
            clear hHeld
            have ke := Ex6.out.rd
            have kl := Lx6.out.rd
            go_wp2
            go_ret
            exact ⟨rfl, Gx6.out.bl⟩
          intro K hK
          go_simp
          (with_reducible refine (CL.out _ Gx1.out.at_).mono ?_); rintro e' W2 ⟨rfl, aa, ff⟩; have Gx2 := Lib.hid (Gx1.out.op aa PL.out ff (fun b hb => Or.inl hb)); have Ax2 := Lib.hid (Ax1.out.fr ff (fun hh => NAB.out (Or.inl hh))); clear aa ff
          refine hK.out _ _ Ax2.out.rd (fun hHeld => ?_)
          clear hK K
          try simp only [Act.put, List.setIfInBounds_toArray, List.set_cons_zero, List.set_cons_succ]
          refine wpAnyH_ready (rs := [15, 16]) (by kernel_rfl) (by simp) ?_
          refine AllReadyH.cons (o := ?_) ?_ ?_ ?_
          rotate_left 1
          · simp only [List.getElem?_toArray, List.getElem?_cons_succ, List.getElem?_cons_zero]; rfl
          rotate_left 1
          · refine AllReadyH.cons (o := ?_) ?_ ?_ ?_
            rotate_left 1
            · simp only [List.getElem?_toArray, List.getElem?_cons_succ, List.getElem?_cons_zero]; rfl
            rotate_left 1
            · exact AllReadyH.nil
            intro K hK
            go_simp
            obtain ⟨W3, hw, kb, lb', sb'⟩ := box_new W2 #[.int .i64 0, .int .i64 0, .int .i64 0] 40; rw [hw]; have Gx3 := Lib.hid (Gx2.out.keep lb'); have Ax3 := Lib.hid (Ax2.out.keep lb'); have hnn := far3 Gx2.out Ax2.out; obtain ⟨lb, hbb⟩ : ∃ z, z = W2.heap.size := ⟨_, rfl⟩; rw [← hbb] at kb hnn  ⊢; have Lx3 := Lib.hid (And.intro kb hnn); clear hw kb lb' sb' hnn hbb
            refine hK.out _ _ Ax3.out.rd (fun hHeld => ?_)
            clear hK K
            try simp only [Act.put, List.setIfInBounds_toArray, List.set_cons_zero, List.set_cons_succ]
            refine wpAnyH_ready (rs := [15]) (by kernel_rfl) (by simp) ?_
            refine AllReadyH.cons (o := ?_) ?_ ?_ ?_
            rotate_left 1
            · simp only [List.getElem?_toArray, List.getElem?_cons_succ, List.getElem?_cons_zero]; rfl
            rotate_left 1
            · exact AllReadyH.nil
            intro K hK
            go_simp
            (obtain ⟨W4, hw, kb, lb', sb'⟩ := box_new W3 #[.int .i64 0, .int .i64 0, .int .i64 0] 40; rw [hw]; have Gx4 := Lib.hid (Gx3.out.keep lb'); have Ax4 := Lib.hid (Ax3.out.keep lb'); have hnn := far3 Gx3.out Ax3.out; have Lx4 := Lib.hid (And.intro (Lx3.out.1.keep lb') Lx3.out.2); have hoo : lb < W3.heap.size := lt_of_block Lx3.out.1; obtain ⟨eb, hbb⟩ : ∃ z, z = W3.heap.size := ⟨_, rfl⟩; rw [← hbb] at kb hnn hoo ⊢; have Ex4 := Lib.hid (And.intro kb hnn); have NEL := Lib.hid (show eb ≠ lb from by omega); clear hw kb lb' sb' hnn hbb hoo)
            refine hK.out _ _ Ax4.out.rd (fun hHeld => ?_)
            clear hK K
            try simp only [Act.put, List.setIfInBounds_toArray, List.set_cons_zero, List.set_cons_succ]
            have ke := Ex4.out.1.rd
            have kew := Ex4.out.1.wr
            refine wpAnyH_ready (rs := [17]) (by kernel_rfl) (by simp) ?_
            refine AllReadyH.cons (o := ?_) ?_ ?_ ?_
            rotate_left 1
            · simp only [List.getElem?_toArray, List.getElem?_cons_succ, List.getElem?_cons_zero]; rfl
            rotate_left 1
            · exact AllReadyH.nil
            intro K hK
            go_simp
            (obtain ⟨W5, q5, f5, k5⟩ := three_new Ex4.out.1 (.int .i64 2) (.int .i64 er) (.int .i64 et); rw [q5]; clear q5; have Gx5 := Lib.hid (LmLaw.box' Gx4.out f5 Ex4.out.2.1 Ex4.out.2.2.1); have Ax5 := Lib.hid (Ax4.out.fr f5 (by have := Ex4.out.2.2.2; omega)); have Lx5 := Lib.hid (Lx4.out.1.fr f5 (fun h => NEL.out h.symm)); have Ex5 := Lib.hid k5; clear f5 k5 ke kew; have kl := Lx5.out.rd; have klw := Lx5.out.wr)
            refine hK.out _ _ Ax5.out.rd (fun hHeld => ?_)
            clear hK K
            try simp only [Act.put, List.setIfInBounds_toArray, List.set_cons_zero, List.set_cons_succ]
            refine wpAnyH_ready (rs := [18]) (by kernel_rfl) (by simp) ?_
            refine AllReadyH.cons (o := ?_) ?_ ?_ ?_
            rotate_left 1
            · simp only [List.getElem?_toArray, List.getElem?_cons_succ, List.getElem?_cons_zero]; rfl
            rotate_left 1
            · exact AllReadyH.nil
            intro K hK
            go_simp
            (obtain ⟨W6, q6, f6, k6⟩ := three_new Lx5.out (.int .i64 1) (.int .i64 lr) (.int .i64 lt); rw [q6]; clear q6; have Gx6 := Lib.hid (LmLaw.box' Gx5.out f6 Lx4.out.2.1 Lx4.out.2.2.1); have Ax6 := Lib.hid (Ax5.out.fr f6 (by have := Lx4.out.2.2.2; omega)); have Ex6 := Lib.hid (Ex5.out.fr f6 (fun h => NEL.out h)); have Lx6 := Lib.hid k6; clear f6 k6 kl klw)
            refine hK.out _ _ Ax6.out.rd (fun hHeld => ?_)
            clear hK K
            try simp only [Act.put, List.setIfInBounds_toArray, List.set_cons_zero, List.set_cons_succ]
            refine wpAnyH_done (by kernel_rfl) ?_ _
            clear hHeld
            have ke := Ex6.out.rd
            have kl := Lx6.out.rd
            go_wp2
            go_ret
            exact ⟨rfl, Gx6.out.bl⟩
          intro K hK
          go_simp
          obtain ⟨W3, hw, kb, lb', sb'⟩ := box_new W2 #[.int .i64 0, .int .i64 0, .int .i64 0] 40; rw [hw]; have Gx3 := Lib.hid (Gx2.out.keep lb'); have Ax3 := Lib.hid (Ax2.out.keep lb'); have hnn := far3 Gx2.out Ax2.out; obtain ⟨eb, hbb⟩ : ∃ z, z = W2.heap.size := ⟨_, rfl⟩; rw [← hbb] at kb hnn  ⊢; have Ex3 := Lib.hid (And.intro kb hnn); clear hw kb lb' sb' hnn hbb
          refine hK.out _ _ Ax3.out.rd (fun hHeld => ?_)
          clear hK K
          try simp only [Act.put, List.setIfInBounds_toArray, List.set_cons_zero, List.set_cons_succ]
          refine wpAnyH_ready (rs := [16]) (by kernel_rfl) (by simp) ?_
          refine AllReadyH.cons (o := ?_) ?_ ?_ ?_
          rotate_left 1
          · simp only [List.getElem?_toArray, List.getElem?_cons_succ, List.getElem?_cons_zero]; rfl
          rotate_left 1
          · exact AllReadyH.nil
          intro K hK
          go_simp
          (obtain ⟨W4, hw, kb, lb', sb'⟩ := box_new W3 #[.int .i64 0, .int .i64 0, .int .i64 0] 40; rw [hw]; have Gx4 := Lib.hid (Gx3.out.keep lb'); have Ax4 := Lib.hid (Ax3.out.keep lb'); have hnn := far3 Gx3.out Ax3.out; have Ex4 := Lib.hid (And.intro (Ex3.out.1.keep lb') Ex3.out.2); have hoo : eb < W3.heap.size := lt_of_block Ex3.out.1; obtain ⟨lb, hbb⟩ : ∃ z, z = W3.heap.size := ⟨_, rfl⟩; rw [← hbb] at kb hnn hoo ⊢; have Lx4 := Lib.hid (And.intro kb hnn); have NEL := Lib.hid (show eb ≠ lb from by omega); clear hw kb lb' sb' hnn hbb hoo)
          refine hK.out _ _ Ax4.out.rd (fun hHeld => ?_)
          clear hK K
          try simp only [Act.put, List.setIfInBounds_toArray, List.set_cons_zero, List.set_cons_succ]
          have ke := Ex4.out.1.rd
          have kew := Ex4.out.1.wr
          refine wpAnyH_ready (rs := [17]) (by kernel_rfl) (by simp) ?_
          refine AllReadyH.cons (o := ?_) ?_ ?_ ?_
          rotate_left 1
          · simp only [List.getElem?_toArray, List.getElem?_cons_succ, List.getElem?_cons_zero]; rfl
          rotate_left 1
          · exact AllReadyH.nil
          intro K hK
          go_simp
          (obtain ⟨W5, q5, f5, k5⟩ := three_new Ex4.out.1 (.int .i64 2) (.int .i64 er) (.int .i64 et); rw [q5]; clear q5; have Gx5 := Lib.hid (LmLaw.box' Gx4.out f5 Ex4.out.2.1 Ex4.out.2.2.1); have Ax5 := Lib.hid (Ax4.out.fr f5 (by have := Ex4.out.2.2.2; omega)); have Lx5 := Lib.hid (Lx4.out.1.fr f5 (fun h => NEL.out h.symm)); have Ex5 := Lib.hid k5; clear f5 k5 ke kew; have kl := Lx5.out.rd; have klw := Lx5.out.wr)
          refine hK.out _ _ Ax5.out.rd (fun hHeld => ?_)
          clear hK K
          try simp only [Act.put, List.setIfInBounds_toArray, List.set_cons_zero, List.set_cons_succ]
          refine wpAnyH_ready (rs := [18]) (by kernel_rfl) (by simp) ?_
          refine AllReadyH.cons (o := ?_) ?_ ?_ ?_
          rotate_left 1
          · simp only [List.getElem?_toArray, List.getElem?_cons_succ, List.getElem?_cons_zero]; rfl
          rotate_left 1
          · exact AllReadyH.nil
          intro K hK
          go_simp
          (obtain ⟨W6, q6, f6, k6⟩ := three_new Lx5.out (.int .i64 1) (.int .i64 lr) (.int .i64 lt); rw [q6]; clear q6; have Gx6 := Lib.hid (LmLaw.box' Gx5.out f6 Lx4.out.2.1 Lx4.out.2.2.1); have Ax6 := Lib.hid (Ax5.out.fr f6 (by have := Lx4.out.2.2.2; omega)); have Ex6 := Lib.hid (Ex5.out.fr f6 (fun h => NEL.out h)); have Lx6 := Lib.hid k6; clear f6 k6 kl klw)
          refine hK.out _ _ Ax6.out.rd (fun hHeld => ?_)
          clear hK K
          try simp only [Act.put, List.setIfInBounds_toArray, List.set_cons_zero, List.set_cons_succ]
          refine wpAnyH_done (by kernel_rfl) ?_ _
          clear hHeld
          have ke := Ex6.out.rd
          have kl := Lx6.out.rd
          go_wp2
          go_ret
          exact ⟨rfl, Gx6.out.bl⟩
end Go.Proofs.YtbgcpljekcagiaaGreat
