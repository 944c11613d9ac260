import Derived.Test.YtbgcpljekcagiaaGreatZLmN
import Derived.Test.YtbgcpljekcagiaaGreatZLiftS
/- The law LimiterTotals of layer 12 (limiter), walked. -/
namespace Go.Proofs.YtbgcpljekcagiaaGreat
set_option linter.unusedSimpArgs false
set_option linter.unusedVariables false
set_option maxRecDepth 100000
open Go.ChangeShapes Go.WideShapes Go.ChangeAt Go.RowKit
open Ar (inR)
section
variable {N : LmN} {s : LmS} {now held m cost : Int}
theorem count_tot (v : Int) : (s.count v).tot = s.tot := by
  unfold LmS.count
  split
  · rfl
  · split
    · rfl
    · split <;> rfl
theorem judge_tot (key : ByteArray) : (s.judge N now key cost).2.tot = s.tot := by
  unfold LmS.judge
  split
  · split <;> rfl
  · split <;> rfl
theorem admit_tot (key : ByteArray) : (s.adm N now key).1.tot = s.tot := by
  unfold LmS.adm
  split
  · rfl
  · split
    · split <;> rfl
    · rfl
theorem count_one : (s.count 1).al = s.al + 1 ∧ (s.count 1).de = s.de ∧ (s.count 1).ba = s.ba := ⟨rfl, rfl, rfl⟩
theorem count_two : (s.count 2).al = s.al ∧ (s.count 2).de = s.de + 1 ∧ (s.count 2).ba = s.ba := ⟨rfl, rfl, rfl⟩
theorem count_three : (s.count 3).al = s.al ∧ (s.count 3).de = s.de ∧ (s.count 3).ba = s.ba + 1 := ⟨rfl, rfl, rfl⟩
/-- a cost that may not be. -/
theorem check_bad (key : ByteArray) (hc : cost < 1 ∨ N.B < cost) : (s.check N now held key cost).2.1.1 = 3 ∧ (s.check N now held key cost).1.al = s.al ∧ (s.check N now held key cost).1.de = s.de ∧ (s.check N now held key cost).1.ba = s.ba + 1 ∧ (s.check N now held key cost).1.tot = s.tot := by
  have hr : refZ N now held cost = ((3, 0, 0), true) := by unfold refZ; rw [if_pos hc]
  unfold LmS.check
  rw [hr, if_pos (by rfl)]
  exact ⟨rfl, rfl, rfl, rfl, count_tot 3⟩
/-- a time that is held. -/
theorem check_held (key : ByteArray) (hc : 1 ≤ cost ∧ cost ≤ N.B) (hn : now < 4611686018427387904) (hh : 0 < held) : (s.check N now held key cost).2.1.1 = 2 ∧ (s.check N now held key cost).1.al = s.al ∧ (s.check N now held key cost).1.de = s.de + 1 ∧ (s.check N now held key cost).1.ba = s.ba ∧ (s.check N now held key cost).1.tot = s.tot := by
  have hr : refZ N now held cost = ((2, 0, held), true) := by unfold refZ; rw [if_neg (by omega), if_neg (by omega), if_pos hh]
  unfold LmS.check
  rw [hr, if_pos (by rfl)]
  exact ⟨rfl, rfl, rfl, rfl, count_tot 2⟩
/-- what is judged. -/
theorem check_judged (key : ByteArray) (hk : key.size ≤ 64) (hc : 1 ≤ cost ∧ cost ≤ N.B) (hB : N.B ≤ 1048576) (hn : now < 4611686018427387904) (ht : 0 ≤ s.tot ∧ s.tot ≤ 1048576000) :
    (s.check N now 0 key cost).1.tot = s.tot + cost ∧ (((s.check N now 0 key cost).2.1.1 = 1 ∧ (s.check N now 0 key cost).1.al = s.al + 1 ∧ (s.check N now 0 key cost).1.de = s.de ∧ (s.check N now 0 key cost).1.ba = s.ba) ∨ ((s.check N now 0 key cost).2.1.1 = 2 ∧ (s.check N now 0 key cost).1.al = s.al ∧ (s.check N now 0 key cost).1.de = s.de + 1 ∧ (s.check N now 0 key cost).1.ba = s.ba)) := by
  unfold LmS.check
  rw [refZ_ok hc hn]
  simp only [Bool.false_eq_true, if_false]
  have j1 := judge_cnt (N := N) (s := ((s.seen N now key cost).adm N now key).1) now key cost
  have a1 := admit_cnt (N := N) (s := s.seen N now key cost) now key
  have ho : (offerM N.S.N.n s.M s.tot key cost).2 = s.tot + cost := by
    unfold offerM begM
    rw [if_neg (by omega), if_neg (by omega)]
  refine ⟨?_, ?_⟩
  · rw [count_tot, judge_tot, admit_tot]; exact ho
  · have hv : (((s.seen N now key cost).adm N now key).1.judge N now key cost).1.1 = 1 ∨ (((s.seen N now key cost).adm N now key).1.judge N now key cost).1.1 = 2 := by
      unfold LmS.judge
      split
      · split
        · exact Or.inl rfl
        · exact Or.inr rfl
      · split
        · exact Or.inl rfl
        · exact Or.inr rfl
    have e1 : (s.seen N now key cost).al = s.al ∧ (s.seen N now key cost).de = s.de ∧ (s.seen N now key cost).ba = s.ba := ⟨rfl, rfl, rfl⟩
    generalize ((s.seen N now key cost).adm N now key).1 = s3 at *
    generalize s3.judge N now key cost = js at *
    rcases hv with hv | hv
    · left
      rw [hv]
      refine ⟨rfl, ?_, ?_, ?_⟩
      · show js.2.al + 1 = _; omega
      · show js.2.de = _; omega
      · show js.2.ba = _; omega
    · right
      rw [hv]
      refine ⟨rfl, ?_, ?_, ?_⟩
      · show js.2.al = _; omega
      · show js.2.de + 1 = _; omega
      · show js.2.ba = _; omega
theorem len_le : s.len N ≤ (N.Q.N.n : Int) := by unfold LmS.len; omega
end
theorem LmLaw.box {W w w' : World} {N : LmN} {s : LmS} {t m : Int} {b : Nat} (h : LmLaw W w N s t m) (hf : Fr (fun k => k = b) w w') (hb : ¬ N.all b) (hW : W.heap.size ≤ b) : LmLaw W w' N s t m :=
  ⟨h.at_.fr hf (fun k hk e => hb (by rw [← e]; exact hk)), h.I, h.lo, h.bl.trans (hf.below h.bl.size (fun k e => by rw [e]; exact hW))⟩
theorem box5T (X : World) (a b c d e : Int) : ∃ w1 w2, X.alloc (.cells #[.int .i64 0, .int .i64 0, .int .i64 0, .int .i64 0, .int .i64 0] 47) = w1 ∧
    (∀ j, w1.cell? ⟨X.heap.size, j, none⟩ = (#[.int .i64 0, .int .i64 0, .int .i64 0, .int .i64 0, .int .i64 0] : Array Value)[j]?) ∧ (∀ j, w1.frozen? ⟨X.heap.size, j, none⟩ = false) ∧
    ((((w1.setCell ⟨X.heap.size, 0, none⟩ (.int .i64 a)).setCell ⟨X.heap.size, 1, none⟩ (.int .i64 b)).setCell ⟨X.heap.size, 2, none⟩ (.int .i64 c)).setCell ⟨X.heap.size, 3, none⟩ (.int .i64 d)).setCell ⟨X.heap.size, 4, none⟩ (.int .i64 e) = w2 ∧
    Below X.heap.size X w2 ∧ Blk w2 X.heap.size 47 #[.int .i64 a, .int .i64 b, .int .i64 c, .int .i64 d, .int .i64 e] := by
  obtain ⟨w1, hw1, kc1, l1, s1⟩ := box_new X #[.int .i64 0, .int .i64 0, .int .i64 0, .int .i64 0, .int .i64 0] 47
  exact ⟨w1, _, hw1, kc1.rd, kc1.wr, five_setC kc1, l1.trans ((Fr.setObj (F := fun k => k = X.heap.size) (Fr.refl _ _) rfl _).below l1.size (fun k hk => by omega)), setObj_at (lt_of_block kc1) _⟩
set_option maxRecDepth 100000 in
set_option maxHeartbeats 6000000 in
theorem lmtotals_law (w : World) (a b c d e f g h : Int) (sm : Bool) (A2 : Option Addr) (n2 c2 : Nat) (L : List Cl) (hpl : RuleOK a b c d e f g h) (hr2 : RdL w A2 n2 c2 4 encCl L) (hok : ∀ a ∈ L, okCl a) :
    Calls Tryz.prog 11 #[planV a b c d e f g h sm, .slice A2 n2 c2] w fun e w' => e = .returned (.bool true) ∧ Below w.heap.size w w' := by
  clear hpl
  have hmx2 := hr2.max
  unfold maxLen at hmx2
  have hcp2 := hr2.cap
  have HR2 := Lib.hid hr2
  have HO := Lib.hid hok
  clear hr2 hok
  obtain ⟨w1, hw1, k1, l1', s1⟩ := box_new w (planC a b c d e f g h sm) 23
  obtain ⟨pl, hpl⟩ : ∃ x, x = w.heap.size := ⟨_, rfl⟩
  rw [← hpl] at k1
  have K2 := Lib.hid (And.intro k1 l1')
  have HB := Lib.hid hpl
  clear k1 l1' s1
  go_enter Tryz.func11, Tryz.ntmps11
  go_upto_region 1 with (fail)
  rw [← HB.out]
  clear hw1 hpl
  go_upto_region 3 with (go_at_call 15; ((refine (lmfit_any _).mono ?_); rintro e w3 ⟨rfl, b3⟩; have K3 := Lib.hid (And.intro (K2.out.1.keep b3) (below_in K2.out.2 b3)); clear b3))
  have CLi := Lib.hid (lmlight_any A2 n2 c2 L w3 (HR2.out.below K3.out.2) HO.out)
  cases hlb : lightC L with
  | false =>
    rw [hlb] at CLi
    go_wp2_with (go_at_call 16; ((with_reducible refine CLi.out.mono ?_); rintro e w4 ⟨rfl, b4⟩; have T4 := Lib.hid (below_in K3.out.2 b4); clear b4))
    go_ret
    exact ⟨rfl, T4.out⟩
  | true =>
  rw [hlb] at CLi
  have hlc := lightC_at hlb
  have hlen := hlc.1
  have HLK := Lib.hid hlc.2
  have hln := HR2.out.len
  have hb2 : (n2 : Int) ≤ 150 := by omega
  clear hlb hlen hln hlc
  go_upto_region 5 with (go_at_call 16; ((with_reducible refine CLi.out.mono ?_); rintro e w4 ⟨rfl, b4⟩; have K4 := Lib.hid (And.intro (K3.out.1.keep b4) (below_in K3.out.2 b4)); clear b4))
  clear CLi
  have kp := K4.out.1.rd
  have CRu := Lib.hid (lmrule_any a b c d e f g h sm w4)
  obtain ⟨Li, hLm⟩ : ∃ x, x = lqL a := ⟨_, rfl⟩
  obtain ⟨Wd, hWd⟩ : ∃ x, x = ((lqS b * lqN d : Nat) : Int) := ⟨_, rfl⟩
  obtain ⟨Bu, hBu⟩ : ∃ x, x = lqB a c := ⟨_, rfl⟩
  obtain ⟨Sl, hSl⟩ : ∃ x, x = ((lqN d : Nat) : Int) := ⟨_, rfl⟩
  obtain ⟨Ce, hCe⟩ : ∃ x, x = ((lqC e : Nat) : Int) := ⟨_, rfl⟩
  obtain ⟨kR, hkR⟩ : ∃ x, x = ((lqR f : Nat) : Int) := ⟨_, rfl⟩
  obtain ⟨Wi, hWi⟩ : ∃ x, x = ((lqW g : Nat) : Int) := ⟨_, rfl⟩
  obtain ⟨Tr, hTr⟩ : ∃ x, x = ((lqT h : Nat) : Int) := ⟨_, rfl⟩
  obtain ⟨smm, hsm⟩ : ∃ x, x = lqM sm d := ⟨_, rfl⟩
  rw [← hLm, ← hWd, ← hBu, ← hSl, ← hCe, ← hkR, ← hWi, ← hTr, ← hsm] at CRu
  have CNw := Lib.hid (fun b0 wx (hx : Below w.heap.size w wx) (hb : Blk wx b0 73 #[.int .u64 9]) => show Calls Tryz.prog 18 #[rlV Li Wd Bu Sl Ce kR Wi Tr smm, .slice (some ⟨b0, 0, none⟩) 1 1] wx _ from by rw [hLm, hWd, hBu, hSl, hCe, hkR, hWi, hTr, hsm]; exact lmplan_new a b c d e f g h (lqM sm d) (some ⟨b0, 0, none⟩) 1 1 [9] wx (rd_blk (k := .u64) (zs := [9]) hb rfl (by unfold maxLen; omega) (by intro z hz; rw [List.mem_singleton.1 hz]; decide)))
  have HP := Lib.hid (And.intro hLm (And.intro hWd (And.intro hBu (And.intro hSl (And.intro hCe (And.intro hkR (And.intro hWi (And.intro hTr hsm))))))))
  clear hLm hWd hBu hSl hCe hkR hWi hTr hsm
  go_upto_region 6 with (go_at_call 17; ((with_reducible refine CRu.out.mono ?_); rintro e w5 ⟨rfl, b5⟩; obtain ⟨y1, y2, ey1, kr9, kw9, ey2, bl9, kc9⟩ := box9R w5 (.int .i64 Li) (.int .i64 Wd) (.int .i64 Bu) (.int .i64 Sl) (.int .i64 Ce) (.int .i64 kR) (.int .i64 Wi) (.int .i64 Tr) (.bool smm); have K6 := Lib.hid (And.intro kc9 (below_in (below_in K4.out.2 b5) bl9)); clear b5 bl9 kc9))
  clear ey1 kr9 kw9 ey2 kp CRu
  obtain ⟨rb, hrb⟩ : ∃ rb, rb = w5.heap.size := ⟨_, rfl⟩
  rw [← hrb] at K6 ⊢
  clear hrb
  have kru := K6.out.1.rd
  obtain ⟨yq, hyq, kq, lq, sq⟩ := box_new y2 #[.int .u64 9] 73
  have KQ := Lib.hid (And.intro kq (And.intro (K6.out.1.keep lq) (below_in K6.out.2 lq)))
  clear kq lq sq
  go_upto_region 7 with (go_at_call 18; ((with_reducible refine (CNw.out _ _ KQ.out.2.2 KQ.out.1).mono ?_); rintro v w7 ⟨N, rfl, a7, p7, n7, b7⟩; have P7 := Lib.hid p7; have G7 := Lib.hid (show LmLaw w w7 N (lmZ (lqC e)) 0 0 from ⟨a7, lmplan_I a7 p7, fun b hb => Nat.le_trans KQ.out.2.2.size (n7 b hb), below_in KQ.out.2.2 b7⟩); have R7 := Lib.hid (KQ.out.2.1.keep b7); have NR7 := Lib.hid (show ¬ N.all rb from fun hb => by have := n7 rb hb; have := lt_of_block KQ.out.2.1; omega); clear a7 p7 n7 b7))
  clear CNw kru hyq
  have HPB := Lib.hid (show LmB N ∧ N.B = Bu ∧ 1 ≤ Bu ∧ Bu ≤ 32 from by rw [HP.out.2.2.1]; exact lmplan_B P7.out)
  have HCe := Lib.hid (show (N.Q.N.n : Int) = Ce from by rw [P7.out.pC, HP.out.2.2.2.2.1])
  obtain ⟨w8, hw8, k8, l8, s8⟩ := box_new w7 #[.int .i64 0, .int .i64 0, .int .i64 0, .int .i64 0, .int .i64 0] 47
  have WLT := Lib.hid (show w.heap.size ≤ w7.heap.size from G7.out.bl.size)
  have NT7 := Lib.hid (show ¬ N.all w7.heap.size from fun hh => by have := G7.out.at_.lt _ hh; omega)
  have NRT := Lib.hid (show rb ≠ w7.heap.size from by have := lt_of_block R7.out; omega)
  obtain ⟨wt, hwt⟩ : ∃ x, x = w7.heap.size := ⟨_, rfl⟩
  rw [← hwt] at k8 WLT NT7 NRT
  have T7 := Lib.hid k8
  have GG := Lib.hid (G7.out.keep l8)
  have RR := Lib.hid (R7.out.keep l8)
  have HWT := Lib.hid hwt
  clear k8 l8 s8 hwt
  go_upto_region 8 with (fail)
  rw [← HWT.out]
  clear hw8
  go_wp2
  go_loopg [28, 8] n2 (fun kk si sn wr => ∃ (i : Nat) (t : Int) (s : LmS) (c : Int), i ≤ n2 ∧ Hid (kk = n2 - i) ∧ si = .int .i64 (i : Int) ∧ sn = .int .i64 t ∧ Hid (0 ≤ t ∧ t ≤ 1023 * (i : Int)) ∧ Hid (0 ≤ s.tot ∧ s.tot ≤ 63 * (i : Int)) ∧ Hid (LmLaw w wr N s t (2097153 * (i : Int))) ∧ Hid (Blk wr rb 29 #[.int .i64 Li, .int .i64 Wd, .int .i64 Bu, .int .i64 Sl, .int .i64 Ce, .int .i64 kR, .int .i64 Wi, .int .i64 Tr, .bool smm]) ∧ Hid (Blk wr wt 47 #[.int .i64 s.al, .int .i64 s.de, .int .i64 s.ba, .int .i64 c, .int .i64 s.tot]))
  case atStart => exact ⟨0, 0, lmZ (lqC e), 0, by omega, Lib.hid rfl, rfl, rfl, Lib.hid (by omega), Lib.hid ⟨Int.le_refl _, Int.le_refl _⟩, GG, RR, T7⟩
  case round =>
    obtain ⟨i, t, s, c, hi, HKK, rfl, rfl, HT, HTO, HG, HRB, HTW⟩ := hrel
    by_cases hin : i < n2
    · obtain ⟨al, hal⟩ : ∃ z, z = s.al := ⟨_, rfl⟩
      obtain ⟨de, hde⟩ : ∃ z, z = s.de := ⟨_, rfl⟩
      obtain ⟨ba, hba⟩ : ∃ z, z = s.ba := ⟨_, rfl⟩
      obtain ⟨tot, hto⟩ : ∃ z, z = s.tot := ⟨_, rfl⟩
      rw [← hal, ← hde, ← hba, ← hto] at HTW
      have HN := Lib.hid (And.intro hal (And.intro hde (And.intro hba hto)))
      have HNB := Lib.hid (show (0 ≤ al ∧ al ≤ 2097153 * (i : Int)) ∧ (0 ≤ de ∧ de ≤ 2097153 * (i : Int)) ∧ (0 ≤ ba ∧ ba ≤ 2097153 * (i : Int)) ∧ (0 ≤ tot ∧ tot ≤ 63 * (i : Int)) ∧ (i : Int) ≤ 150 from by rw [hal, hde, hba, hto]; exact ⟨HG.out.I.al, HG.out.I.de, HG.out.I.ba, HTO.out, by omega⟩)
      clear hal hde hba hto
      have hl2 := HR2.out.len
      obtain ⟨b', off, rfl, hbl, hcl⟩ := (HR2.out.below HG.out.bl).at_ (by omega)
      obtain ⟨⟨gp, cs, ky, pk⟩, ha⟩ : ∃ a, L[i]? = some a := ⟨_, List.getElem?_eq_getElem (by omega)⟩
      have HKY := Lib.hid (HLK.out _ (List.mem_of_getElem? ha))
      have hky : ky.size ≤ 64 := HKY.out
      have HCS := Lib.hid (HO.out _ (List.mem_of_getElem? ha))
      have kr0 : wr.cell? ⟨b', off + i * 4, none⟩ = some (.int .i64 gp) := hcl i _ ha 0 (by omega)
      have kr1 : wr.cell? ⟨b', off + i * 4 + 1, none⟩ = some (.int .i64 cs) := hcl i _ ha 1 (by omega)
      have kr2 : wr.cell? ⟨b', off + i * 4 + 2, none⟩ = some (.string ky) := hcl i _ ha 2 (by omega)
      have kr3 : wr.cell? ⟨b', off + i * 4 + 3, none⟩ = some (.bool pk) := hcl i _ ha 3 (by omega)
      obtain ⟨y1, y2, ey1, kr, kw, ey2, bl2, kc2⟩ := box4C wr (.int .i64 gp) (.int .i64 cs) (.string ky) (.bool pk)
      have G6 := Lib.hid (HG.out.keep bl2)
      obtain ⟨bx, hbx⟩ : ∃ bx, bx = wr.heap.size := ⟨_, rfl⟩
      have HBX := Lib.hid (show (¬ N.all bx) ∧ w.heap.size ≤ bx ∧ bx < y2.heap.size from ⟨fun hh => by have := HG.out.at_.lt bx hh; omega, by have := HG.out.bl.size; omega, by have := lt_of_block kc2; omega⟩)
      rw [← hbx] at kc2
      have kc3 := kc2.rd
      have KC := Lib.hid kc2
      have KRu := Lib.hid (HRB.out.keep bl2)
      have KTw := Lib.hid (HTW.out.keep bl2)
      have hgb := gapL_bd gp
      obtain ⟨gq, hgq⟩ : ∃ x, x = gapL gp := ⟨_, rfl⟩
      have HGQ := Lib.hid hgq
      have CG := Lib.hid (fun wx => gapL_any gp wx)
      rw [← hgq] at CG hgb
      obtain ⟨t', ht'⟩ : ∃ x, x = t + gq := ⟨_, rfl⟩
      have hT := HT.out
      have et : IntKind.i64.wrap (t + gq) = t' := by rw [IntKind.wrap_i64]; omega
      have HT' := Lib.hid (show (0 ≤ t' ∧ t' ≤ 1023 * ((i : Int) + 1)) ∧ t ≤ t' ∧ t' ≤ 4611686018427380000 ∧ t' = t + gq by omega)
      have CC := Lib.hid (fun wx => costL_any Li Wd Bu Sl Ce kR Wi Tr smm cs ⟨HPB.out.2.2.1, HPB.out.2.2.2⟩ wx)
      have hqb := costL_bd (n := cs) ⟨HPB.out.2.2.1, HPB.out.2.2.2⟩
      obtain ⟨q, hq⟩ : ∃ x, x = costL Bu cs := ⟨_, rfl⟩
      rw [← hq] at CC hqb
      have HQ := Lib.hid (And.intro hqb hq)
      have t2 : (i : Int) < (n2 : Int) := by omega
      have HIN := Lib.hid hin
      clear hl2 hcl hbl bl2 kc2 hgb hgq ht' hT hq hin hqb hky
      go_upto_region 12 with (fail)
      rw [← hbx]
      have HBXS := Lib.hid hbx
      clear kr kw ey1 kr0 kr1 kr2 kr3 ey2 hbx
      have krl := KRu.out.rd
      go_upto_region 14 with (first
        | (go_at_call 20; ((with_reducible refine (CG.out _).mono ?_); rintro v y3 ⟨rfl, rfl⟩))
        | (go_at_call 21; ((with_reducible refine (CC.out _).mono ?_); rintro v y4 ⟨rfl, b4⟩; have G8 := Lib.hid (G6.out.keep b4); have K8 := Lib.hid (KC.out.keep b4); have R8 := Lib.hid (KRu.out.keep b4); have T8 := Lib.hid (KTw.out.keep b4); have HB8 := Lib.hid (show bx < y4.heap.size from Nat.lt_of_lt_of_le HBX.out.2.2 b4.size); clear b4)))
      clear CG CC et kc3 krl
      have HG8 := Lib.hid (G8.out.mono (t' := t') (m' := 2097153 * (i : Int)) (by have := HT'.out; omega) (by omega))
      have CCk := Lib.hid (fun (held : Int) (hh : inR held) => lmcheckI t' held ky q (by have := HKY.out; unfold maxLen; omega) hh (by have := HQ.out; unfold inR; omega) y4 HG8.out.at_ HG8.out.I (by omega))
      have CI := Lib.hid (fun (held : Int) => HG8.out.I.check (by omega) held ky q)
      have kc := K8.out.rd
      have kru := R8.out.rd
      obtain ⟨im, him⟩ : ∃ z, z = (i : Int) % 7 := ⟨_, rfl⟩
      have em : (i : Int).tmod 7 = im := by rw [him]; exact Int.tmod_eq_emod_of_nonneg (by omega)
      clear him
      have HTP := HT'.out
      have hBu := HPB.out.2.1
      have hB32 := HPB.out.2.2.2
      by_cases h3 : im = 3
      · have u1 : (im == 3) = true := by simpa using h3
        by_cases hq : 1 ≤ q ∧ q ≤ Bu
        · have c1 := CCk.out 5 (by unfold inR; omega)
          have CIx := Lib.hid (CI.out 5)
          have ff := check_held (N := N) (s := s) (now := t') (held := 5) (cost := q) ky (by omega) (by omega) (by omega)
          obtain ⟨⟨s2, ⟨cv, cr, ct⟩, ev⟩, hck⟩ : ∃ x, x = s.check N t' 5 ky q := ⟨_, rfl⟩
          rw [← hck] at c1 CIx ff
          clear hck
          dsimp only at c1 CIx ff
          obtain ⟨rfl, g1, g2, g3, g4⟩ := ff
          rw [← HN.out.1] at g1
          rw [← HN.out.2.1] at g2
          rw [← HN.out.2.2.1] at g3
          rw [← HN.out.2.2.2] at g4
          have HF := Lib.hid (And.intro g1 (And.intro g2 (And.intro g3 g4)))
          have CCx := Lib.hid c1
          clear c1 g1 g2 g3 g4
          clear h3 hq HTP hBu hB32
          go_upto_region 18 with (go_at_call 24; ((with_reducible refine CCx.out.mono ?_); rintro e' y7 ⟨vv, rfl, o7, a7, f7⟩; obtain ⟨x8, y8, ex8, kr8, kw8, ey8, b8, k8⟩ := boxA y7 2 cr ct; have G10 := Lib.hid ((HG8.out.op a7 CIx.out f7 (fun b hb => hb)).keep b8); have R10 := Lib.hid ((R8.out.fr f7 NR7.out).keep b8); have T10 := Lib.hid ((T8.out.fr f7 NT7.out).keep b8); have A10 := Lib.hid k8; have Z10 := Lib.hid (show wt < y7.heap.size ∧ w.heap.size ≤ y7.heap.size ∧ rb < y7.heap.size from ⟨Nat.lt_of_lt_of_le (lt_of_block T8.out) f7.size, Nat.le_trans HG8.out.bl.size f7.size, Nat.lt_of_lt_of_le (lt_of_block R8.out) f7.size⟩); clear o7 a7 f7 b8 k8))
          clear CCx ex8 kr8 kw8 ey8 kc kru em
          obtain ⟨ac, hac⟩ : ∃ x, x = y7.heap.size := ⟨_, rfl⟩
          rw [← hac] at A10 Z10 ⊢
          clear hac
          have ka := A10.out.rd
          have kt := T10.out.rd
          have ktw := T10.out.wr
          have e1 : IntKind.i64.wrap (de + 1) = de + 1 := by rw [IntKind.wrap_i64]; have := HNB.out; omega
          go_upto_region 25 with (fail)
          rw [setCell_obj T10.out]
          simp only [List.setIfInBounds_toArray, List.set_cons_zero, List.set_cons_succ]
          have fy9 : Fr (fun b => b = wt) y8 (setObj y8 wt (.cells #[.int .i64 al, .int .i64 (de + 1), .int .i64 ba, .int .i64 c, .int .i64 tot] 47 (0, 0))) := Fr.setObj (F := fun b => b = wt) (Fr.refl _ _) rfl _
          have ky9 : Blk (setObj y8 wt (.cells #[.int .i64 al, .int .i64 (de + 1), .int .i64 ba, .int .i64 c, .int .i64 tot] 47 (0, 0))) wt 47 #[.int .i64 al, .int .i64 (de + 1), .int .i64 ba, .int .i64 c, .int .i64 tot] := setObj_at (lt_of_block T10.out) _
          change Code.wp _ _ _ _ (setObj y8 wt (.cells #[.int .i64 al, .int .i64 (de + 1), .int .i64 ba, .int .i64 c, .int .i64 tot] 47 (0, 0)))
          generalize setObj y8 wt (.cells #[.int .i64 al, .int .i64 (de + 1), .int .i64 ba, .int .i64 c, .int .i64 tot] 47 (0, 0)) = y9 at fy9 ky9 ⊢
          have A11 := Lib.hid (A10.out.fr fy9 (by have := Z10.out; omega))
          have R11 := Lib.hid (R10.out.fr fy9 (NRT.out))
          have G11 := Lib.hid (LmLaw.box G10.out fy9 NT7.out WLT.out)
          have T11 := Lib.hid ky9
          clear ka kt ktw e1 fy9 ky9
          have kru := R11.out.rd
          go_upto_region 27 with (fail)
          obtain ⟨y10, hy10⟩ : ∃ z, z = y9 := ⟨_, rfl⟩
          rw [← hy10] at A11 R11 G11 T11 ⊢
          have A12 := A11
          have R12 := R11
          have G12 := G11
          have T12 := T11
          clear kru hy10
          have c2 := lmtotals_any y10 G12.out.at_
          rw [HF.out.1, HF.out.2.1, HF.out.2.2.1, HF.out.2.2.2] at c2
          have hln := len_le (N := N) (s := s2)
          obtain ⟨ln, hlne⟩ : ∃ z, z = s2.len N := ⟨_, rfl⟩
          rw [← hlne] at c2 hln
          have u9 : decide (Ce < ln) = false := decide_eq_false (by have := HCe.out; omega)
          have CT := Lib.hid c2
          clear c2 hln hlne
          go_upto_region 28 with (go_at_call 27; ((with_reducible refine CT.out.mono ?_); rintro e' z1 ⟨rfl, b1⟩; obtain ⟨x13, y13, ex13, kr13, kw13, ey13, b13, k13⟩ := box5T z1 al (de + 1) ba ln tot; have G13 := Lib.hid ((G12.out.keep b1).keep b13); have R13 := Lib.hid ((R12.out.keep b1).keep b13); have T13 := Lib.hid ((T12.out.keep b1).keep b13); have A13 := Lib.hid ((A12.out.keep b1).keep b13); have B13 := Lib.hid k13; have Z13 := Lib.hid (show wt < z1.heap.size from Nat.lt_of_lt_of_le (lt_of_block T12.out) b1.size); clear b1 b13 k13))
          clear CT ex13 kr13 kw13 ey13
          obtain ⟨ad, had⟩ : ∃ x, x = z1.heap.size := ⟨_, rfl⟩
          rw [← had] at B13 Z13 ⊢
          clear had
          have kb := B13.out.rd
          have kt := T13.out.rd
          have ktw := T13.out.wr
          go_upto_region 29 with (fail)
          rw [setCell_obj T13.out]
          simp only [List.setIfInBounds_toArray, List.set_cons_zero, List.set_cons_succ]
          have fy14 : Fr (fun b => b = wt) y13 (setObj y13 wt (.cells #[.int .i64 al, .int .i64 (de + 1), .int .i64 ba, .int .i64 ln, .int .i64 tot] 47 (0, 0))) := Fr.setObj (F := fun b => b = wt) (Fr.refl _ _) rfl _
          have ky14 : Blk (setObj y13 wt (.cells #[.int .i64 al, .int .i64 (de + 1), .int .i64 ba, .int .i64 ln, .int .i64 tot] 47 (0, 0))) wt 47 #[.int .i64 al, .int .i64 (de + 1), .int .i64 ba, .int .i64 ln, .int .i64 tot] := setObj_at (lt_of_block T13.out) _
          change Code.wp _ _ _ _ (setObj y13 wt (.cells #[.int .i64 al, .int .i64 (de + 1), .int .i64 ba, .int .i64 ln, .int .i64 tot] 47 (0, 0)))
          generalize setObj y13 wt (.cells #[.int .i64 al, .int .i64 (de + 1), .int .i64 ba, .int .i64 ln, .int .i64 tot] 47 (0, 0)) = y14 at fy14 ky14 ⊢
          have A14 := Lib.hid (A13.out.fr fy14 (by have := Z10.out; omega))
          have R14 := Lib.hid (R13.out.fr fy14 (NRT.out))
          have B14 := Lib.hid (B13.out.fr fy14 (by have := Z13.out; omega))
          have G14 := Lib.hid (LmLaw.box G13.out fy14 NT7.out WLT.out)
          have T14 := Lib.hid ky14
          clear kb kt ktw fy14 ky14
          have kb := B14.out.rd
          have kt := T14.out.rd
          have kru := R14.out.rd
          have ka := A14.out.rd
          have heq : ∀ w, (Op.equalIn 10000 47 (.agg #[.int .i64 al, .int .i64 (de + 1), .int .i64 ba, .int .i64 ln, .int .i64 tot]) (.agg #[.int .i64 al, .int .i64 (de + 1), .int .i64 ba, .int .i64 ln, .int .i64 tot])).run Tryz.prog w = .ok true w := fun w => by rw [totals_equal]; simp
          go_wp2
          go_roundg (n2 - (i + 1))
          case measure => have := HKK.out; have := HIN.out; omega
          case rel => exact ⟨i + 1, t', s2, ln, HIN.out, Lib.hid rfl, by go_num, rfl, Lib.hid (by have := HT'.out; omega), Lib.hid (by have h1 := HF.out.2.2.2; have h2 := HNB.out; have h3 := HQ.out.1; omega), Lib.hid (G14.out.mono (by have := HT'.out; omega) (by omega)), R14, Lib.hid (by have hf := HF.out; rw [hf.1, hf.2.1, hf.2.2.1, hf.2.2.2]; exact T14.out)⟩
        · have c1 := CCk.out 5 (by unfold inR; omega)
          have CIx := Lib.hid (CI.out 5)
          have ff := check_bad (N := N) (s := s) (now := t') (held := 5) (cost := q) ky (by omega)
          obtain ⟨⟨s2, ⟨cv, cr, ct⟩, ev⟩, hck⟩ : ∃ x, x = s.check N t' 5 ky q := ⟨_, rfl⟩
          rw [← hck] at c1 CIx ff
          clear hck
          dsimp only at c1 CIx ff
          obtain ⟨rfl, g1, g2, g3, g4⟩ := ff
          rw [← HN.out.1] at g1
          rw [← HN.out.2.1] at g2
          rw [← HN.out.2.2.1] at g3
          rw [← HN.out.2.2.2] at g4
          have HF := Lib.hid (And.intro g1 (And.intro g2 (And.intro g3 g4)))
          have CCx := Lib.hid c1
          clear c1 g1 g2 g3 g4
          clear h3 hq HTP hBu hB32
          go_upto_region 18 with (go_at_call 24; ((with_reducible refine CCx.out.mono ?_); rintro e' y7 ⟨vv, rfl, o7, a7, f7⟩; obtain ⟨x8, y8, ex8, kr8, kw8, ey8, b8, k8⟩ := boxA y7 3 cr ct; have G10 := Lib.hid ((HG8.out.op a7 CIx.out f7 (fun b hb => hb)).keep b8); have R10 := Lib.hid ((R8.out.fr f7 NR7.out).keep b8); have T10 := Lib.hid ((T8.out.fr f7 NT7.out).keep b8); have A10 := Lib.hid k8; have Z10 := Lib.hid (show wt < y7.heap.size ∧ w.heap.size ≤ y7.heap.size ∧ rb < y7.heap.size from ⟨Nat.lt_of_lt_of_le (lt_of_block T8.out) f7.size, Nat.le_trans HG8.out.bl.size f7.size, Nat.lt_of_lt_of_le (lt_of_block R8.out) f7.size⟩); clear o7 a7 f7 b8 k8))
          clear CCx ex8 kr8 kw8 ey8 kc kru em
          obtain ⟨ac, hac⟩ : ∃ x, x = y7.heap.size := ⟨_, rfl⟩
          rw [← hac] at A10 Z10 ⊢
          clear hac
          have ka := A10.out.rd
          have kt := T10.out.rd
          have ktw := T10.out.wr
          have e1 : IntKind.i64.wrap (ba + 1) = ba + 1 := by rw [IntKind.wrap_i64]; have := HNB.out; omega
          go_upto_region 25 with (fail)
          rw [setCell_obj T10.out]
          simp only [List.setIfInBounds_toArray, List.set_cons_zero, List.set_cons_succ]
          have fy9 : Fr (fun b => b = wt) y8 (setObj y8 wt (.cells #[.int .i64 al, .int .i64 de, .int .i64 (ba + 1), .int .i64 c, .int .i64 tot] 47 (0, 0))) := Fr.setObj (F := fun b => b = wt) (Fr.refl _ _) rfl _
          have ky9 : Blk (setObj y8 wt (.cells #[.int .i64 al, .int .i64 de, .int .i64 (ba + 1), .int .i64 c, .int .i64 tot] 47 (0, 0))) wt 47 #[.int .i64 al, .int .i64 de, .int .i64 (ba + 1), .int .i64 c, .int .i64 tot] := setObj_at (lt_of_block T10.out) _
          change Code.wp _ _ _ _ (setObj y8 wt (.cells #[.int .i64 al, .int .i64 de, .int .i64 (ba + 1), .int .i64 c, .int .i64 tot] 47 (0, 0)))
          generalize setObj y8 wt (.cells #[.int .i64 al, .int .i64 de, .int .i64 (ba + 1), .int .i64 c, .int .i64 tot] 47 (0, 0)) = y9 at fy9 ky9 ⊢
          have A11 := Lib.hid (A10.out.fr fy9 (by have := Z10.out; omega))
          have R11 := Lib.hid (R10.out.fr fy9 (NRT.out))
          have G11 := Lib.hid (LmLaw.box G10.out fy9 NT7.out WLT.out)
          have T11 := Lib.hid ky9
          clear ka kt ktw e1 fy9 ky9
          have kru := R11.out.rd
          go_upto_region 27 with (fail)
          obtain ⟨y10, hy10⟩ : ∃ z, z = y9 := ⟨_, rfl⟩
          rw [← hy10] at A11 R11 G11 T11 ⊢
          have A12 := A11
          have R12 := R11
          have G12 := G11
          have T12 := T11
          clear kru hy10
          have c2 := lmtotals_any y10 G12.out.at_
          rw [HF.out.1, HF.out.2.1, HF.out.2.2.1, HF.out.2.2.2] at c2
          have hln := len_le (N := N) (s := s2)
          obtain ⟨ln, hlne⟩ : ∃ z, z = s2.len N := ⟨_, rfl⟩
          rw [← hlne] at c2 hln
          have u9 : decide (Ce < ln) = false := decide_eq_false (by have := HCe.out; omega)
          have CT := Lib.hid c2
          clear c2 hln hlne
          go_upto_region 28 with (go_at_call 27; ((with_reducible refine CT.out.mono ?_); rintro e' z1 ⟨rfl, b1⟩; obtain ⟨x13, y13, ex13, kr13, kw13, ey13, b13, k13⟩ := box5T z1 al de (ba + 1) ln tot; have G13 := Lib.hid ((G12.out.keep b1).keep b13); have R13 := Lib.hid ((R12.out.keep b1).keep b13); have T13 := Lib.hid ((T12.out.keep b1).keep b13); have A13 := Lib.hid ((A12.out.keep b1).keep b13); have B13 := Lib.hid k13; have Z13 := Lib.hid (show wt < z1.heap.size from Nat.lt_of_lt_of_le (lt_of_block T12.out) b1.size); clear b1 b13 k13))
          clear CT ex13 kr13 kw13 ey13
          obtain ⟨ad, had⟩ : ∃ x, x = z1.heap.size := ⟨_, rfl⟩
          rw [← had] at B13 Z13 ⊢
          clear had
          have kb := B13.out.rd
          have kt := T13.out.rd
          have ktw := T13.out.wr
          go_upto_region 29 with (fail)
          rw [setCell_obj T13.out]
          simp only [List.setIfInBounds_toArray, List.set_cons_zero, List.set_cons_succ]
          have fy14 : Fr (fun b => b = wt) y13 (setObj y13 wt (.cells #[.int .i64 al, .int .i64 de, .int .i64 (ba + 1), .int .i64 ln, .int .i64 tot] 47 (0, 0))) := Fr.setObj (F := fun b => b = wt) (Fr.refl _ _) rfl _
          have ky14 : Blk (setObj y13 wt (.cells #[.int .i64 al, .int .i64 de, .int .i64 (ba + 1), .int .i64 ln, .int .i64 tot] 47 (0, 0))) wt 47 #[.int .i64 al, .int .i64 de, .int .i64 (ba + 1), .int .i64 ln, .int .i64 tot] := setObj_at (lt_of_block T13.out) _
          change Code.wp _ _ _ _ (setObj y13 wt (.cells #[.int .i64 al, .int .i64 de, .int .i64 (ba + 1), .int .i64 ln, .int .i64 tot] 47 (0, 0)))
          generalize setObj y13 wt (.cells #[.int .i64 al, .int .i64 de, .int .i64 (ba + 1), .int .i64 ln, .int .i64 tot] 47 (0, 0)) = y14 at fy14 ky14 ⊢
          have A14 := Lib.hid (A13.out.fr fy14 (by have := Z10.out; omega))
          have R14 := Lib.hid (R13.out.fr fy14 (NRT.out))
          have B14 := Lib.hid (B13.out.fr fy14 (by have := Z13.out; omega))
          have G14 := Lib.hid (LmLaw.box G13.out fy14 NT7.out WLT.out)
          have T14 := Lib.hid ky14
          clear kb kt ktw fy14 ky14
          have kb := B14.out.rd
          have kt := T14.out.rd
          have kru := R14.out.rd
          have ka := A14.out.rd
          have heq : ∀ w, (Op.equalIn 10000 47 (.agg #[.int .i64 al, .int .i64 de, .int .i64 (ba + 1), .int .i64 ln, .int .i64 tot]) (.agg #[.int .i64 al, .int .i64 de, .int .i64 (ba + 1), .int .i64 ln, .int .i64 tot])).run Tryz.prog w = .ok true w := fun w => by rw [totals_equal]; simp
          go_wp2
          go_roundg (n2 - (i + 1))
          case measure => have := HKK.out; have := HIN.out; omega
          case rel => exact ⟨i + 1, t', s2, ln, HIN.out, Lib.hid rfl, by go_num, rfl, Lib.hid (by have := HT'.out; omega), Lib.hid (by have h1 := HF.out.2.2.2; have h2 := HNB.out; have h3 := HQ.out.1; omega), Lib.hid (G14.out.mono (by have := HT'.out; omega) (by omega)), R14, Lib.hid (by have hf := HF.out; rw [hf.1, hf.2.1, hf.2.2.1, hf.2.2.2]; exact T14.out)⟩
      · have u1 : (im == 3) = false := by simpa using h3
        by_cases hq1 : q < 1
        · have c1 := CCk.out 0 (by unfold inR; omega)
          have CIx := Lib.hid (CI.out 0)
          have ff := check_bad (N := N) (s := s) (now := t') (held := 0) (cost := q) ky (by omega)
          obtain ⟨⟨s2, ⟨cv, cr, ct⟩, ev⟩, hck⟩ : ∃ x, x = s.check N t' 0 ky q := ⟨_, rfl⟩
          rw [← hck] at c1 CIx ff
          clear hck
          dsimp only at c1 CIx ff
          obtain ⟨rfl, g1, g2, g3, g4⟩ := ff
          rw [← HN.out.1] at g1
          rw [← HN.out.2.1] at g2
          rw [← HN.out.2.2.1] at g3
          rw [← HN.out.2.2.2] at g4
          have HF := Lib.hid (And.intro g1 (And.intro g2 (And.intro g3 g4)))
          have CCx := Lib.hid c1
          clear c1 g1 g2 g3 g4
          have u2 : decide (1 ≤ q) = false := decide_eq_false (by omega)
          clear h3 HTP hBu hB32 hq1
          go_upto_region 18 with (go_at_call 24; ((with_reducible refine CCx.out.mono ?_); rintro e' y7 ⟨vv, rfl, o7, a7, f7⟩; obtain ⟨x8, y8, ex8, kr8, kw8, ey8, b8, k8⟩ := boxA y7 3 cr ct; have G10 := Lib.hid ((HG8.out.op a7 CIx.out f7 (fun b hb => hb)).keep b8); have R10 := Lib.hid ((R8.out.fr f7 NR7.out).keep b8); have T10 := Lib.hid ((T8.out.fr f7 NT7.out).keep b8); have A10 := Lib.hid k8; have Z10 := Lib.hid (show wt < y7.heap.size ∧ w.heap.size ≤ y7.heap.size ∧ rb < y7.heap.size from ⟨Nat.lt_of_lt_of_le (lt_of_block T8.out) f7.size, Nat.le_trans HG8.out.bl.size f7.size, Nat.lt_of_lt_of_le (lt_of_block R8.out) f7.size⟩); clear o7 a7 f7 b8 k8))
          clear CCx ex8 kr8 kw8 ey8 kc kru em
          obtain ⟨ac, hac⟩ : ∃ x, x = y7.heap.size := ⟨_, rfl⟩
          rw [← hac] at A10 Z10 ⊢
          clear hac
          have ka := A10.out.rd
          have kt := T10.out.rd
          have ktw := T10.out.wr
          have e1 : IntKind.i64.wrap (ba + 1) = ba + 1 := by rw [IntKind.wrap_i64]; have := HNB.out; omega
          go_upto_region 25 with (fail)
          rw [setCell_obj T10.out]
          simp only [List.setIfInBounds_toArray, List.set_cons_zero, List.set_cons_succ]
          have fy9 : Fr (fun b => b = wt) y8 (setObj y8 wt (.cells #[.int .i64 al, .int .i64 de, .int .i64 (ba + 1), .int .i64 c, .int .i64 tot] 47 (0, 0))) := Fr.setObj (F := fun b => b = wt) (Fr.refl _ _) rfl _
          have ky9 : Blk (setObj y8 wt (.cells #[.int .i64 al, .int .i64 de, .int .i64 (ba + 1), .int .i64 c, .int .i64 tot] 47 (0, 0))) wt 47 #[.int .i64 al, .int .i64 de, .int .i64 (ba + 1), .int .i64 c, .int .i64 tot] := setObj_at (lt_of_block T10.out) _
          change Code.wp _ _ _ _ (setObj y8 wt (.cells #[.int .i64 al, .int .i64 de, .int .i64 (ba + 1), .int .i64 c, .int .i64 tot] 47 (0, 0)))
          generalize setObj y8 wt (.cells #[.int .i64 al, .int .i64 de, .int .i64 (ba + 1), .int .i64 c, .int .i64 tot] 47 (0, 0)) = y9 at fy9 ky9 ⊢
          have A11 := Lib.hid (A10.out.fr fy9 (by have := Z10.out; omega))
          have R11 := Lib.hid (R10.out.fr fy9 (NRT.out))
          have G11 := Lib.hid (LmLaw.box G10.out fy9 NT7.out WLT.out)
          have T11 := Lib.hid ky9
          clear ka kt ktw e1 fy9 ky9
          have kru := R11.out.rd
          go_upto_region 27 with (fail)
          obtain ⟨y10, hy10⟩ : ∃ z, z = y9 := ⟨_, rfl⟩
          rw [← hy10] at A11 R11 G11 T11 ⊢
          have A12 := A11
          have R12 := R11
          have G12 := G11
          have T12 := T11
          clear kru hy10
          have c2 := lmtotals_any y10 G12.out.at_
          rw [HF.out.1, HF.out.2.1, HF.out.2.2.1, HF.out.2.2.2] at c2
          have hln := len_le (N := N) (s := s2)
          obtain ⟨ln, hlne⟩ : ∃ z, z = s2.len N := ⟨_, rfl⟩
          rw [← hlne] at c2 hln
          have u9 : decide (Ce < ln) = false := decide_eq_false (by have := HCe.out; omega)
          have CT := Lib.hid c2
          clear c2 hln hlne
          go_upto_region 28 with (go_at_call 27; ((with_reducible refine CT.out.mono ?_); rintro e' z1 ⟨rfl, b1⟩; obtain ⟨x13, y13, ex13, kr13, kw13, ey13, b13, k13⟩ := box5T z1 al de (ba + 1) ln tot; have G13 := Lib.hid ((G12.out.keep b1).keep b13); have R13 := Lib.hid ((R12.out.keep b1).keep b13); have T13 := Lib.hid ((T12.out.keep b1).keep b13); have A13 := Lib.hid ((A12.out.keep b1).keep b13); have B13 := Lib.hid k13; have Z13 := Lib.hid (show wt < z1.heap.size from Nat.lt_of_lt_of_le (lt_of_block T12.out) b1.size); clear b1 b13 k13))
          clear CT ex13 kr13 kw13 ey13
          obtain ⟨ad, had⟩ : ∃ x, x = z1.heap.size := ⟨_, rfl⟩
          rw [← had] at B13 Z13 ⊢
          clear had
          have kb := B13.out.rd
          have kt := T13.out.rd
          have ktw := T13.out.wr
          go_upto_region 29 with (fail)
          rw [setCell_obj T13.out]
          simp only [List.setIfInBounds_toArray, List.set_cons_zero, List.set_cons_succ]
          have fy14 : Fr (fun b => b = wt) y13 (setObj y13 wt (.cells #[.int .i64 al, .int .i64 de, .int .i64 (ba + 1), .int .i64 ln, .int .i64 tot] 47 (0, 0))) := Fr.setObj (F := fun b => b = wt) (Fr.refl _ _) rfl _
          have ky14 : Blk (setObj y13 wt (.cells #[.int .i64 al, .int .i64 de, .int .i64 (ba + 1), .int .i64 ln, .int .i64 tot] 47 (0, 0))) wt 47 #[.int .i64 al, .int .i64 de, .int .i64 (ba + 1), .int .i64 ln, .int .i64 tot] := setObj_at (lt_of_block T13.out) _
          change Code.wp _ _ _ _ (setObj y13 wt (.cells #[.int .i64 al, .int .i64 de, .int .i64 (ba + 1), .int .i64 ln, .int .i64 tot] 47 (0, 0)))
          generalize setObj y13 wt (.cells #[.int .i64 al, .int .i64 de, .int .i64 (ba + 1), .int .i64 ln, .int .i64 tot] 47 (0, 0)) = y14 at fy14 ky14 ⊢
          have A14 := Lib.hid (A13.out.fr fy14 (by have := Z10.out; omega))
          have R14 := Lib.hid (R13.out.fr fy14 (NRT.out))
          have B14 := Lib.hid (B13.out.fr fy14 (by have := Z13.out; omega))
          have G14 := Lib.hid (LmLaw.box G13.out fy14 NT7.out WLT.out)
          have T14 := Lib.hid ky14
          clear kb kt ktw fy14 ky14
          have kb := B14.out.rd
          have kt := T14.out.rd
          have kru := R14.out.rd
          have ka := A14.out.rd
          have heq : ∀ w, (Op.equalIn 10000 47 (.agg #[.int .i64 al, .int .i64 de, .int .i64 (ba + 1), .int .i64 ln, .int .i64 tot]) (.agg #[.int .i64 al, .int .i64 de, .int .i64 (ba + 1), .int .i64 ln, .int .i64 tot])).run Tryz.prog w = .ok true w := fun w => by rw [totals_equal]; simp
          go_wp2
          go_roundg (n2 - (i + 1))
          case measure => have := HKK.out; have := HIN.out; omega
          case rel => exact ⟨i + 1, t', s2, ln, HIN.out, Lib.hid rfl, by go_num, rfl, Lib.hid (by have := HT'.out; omega), Lib.hid (by have h1 := HF.out.2.2.2; have h2 := HNB.out; have h3 := HQ.out.1; omega), Lib.hid (G14.out.mono (by have := HT'.out; omega) (by omega)), R14, Lib.hid (by have hf := HF.out; rw [hf.1, hf.2.1, hf.2.2.1, hf.2.2.2]; exact T14.out)⟩
        have u2 : decide (1 ≤ q) = true := decide_eq_true (by omega)
        by_cases hq2 : Bu < q
        · have c1 := CCk.out 0 (by unfold inR; omega)
          have CIx := Lib.hid (CI.out 0)
          have ff := check_bad (N := N) (s := s) (now := t') (held := 0) (cost := q) ky (by omega)
          obtain ⟨⟨s2, ⟨cv, cr, ct⟩, ev⟩, hck⟩ : ∃ x, x = s.check N t' 0 ky q := ⟨_, rfl⟩
          rw [← hck] at c1 CIx ff
          clear hck
          dsimp only at c1 CIx ff
          obtain ⟨rfl, g1, g2, g3, g4⟩ := ff
          rw [← HN.out.1] at g1
          rw [← HN.out.2.1] at g2
          rw [← HN.out.2.2.1] at g3
          rw [← HN.out.2.2.2] at g4
          have HF := Lib.hid (And.intro g1 (And.intro g2 (And.intro g3 g4)))
          have CCx := Lib.hid c1
          clear c1 g1 g2 g3 g4
          have u3 : decide (q ≤ Bu) = false := decide_eq_false (by omega)
          clear h3 HTP hBu hB32 hq1 hq2
          go_upto_region 18 with (go_at_call 24; ((with_reducible refine CCx.out.mono ?_); rintro e' y7 ⟨vv, rfl, o7, a7, f7⟩; obtain ⟨x8, y8, ex8, kr8, kw8, ey8, b8, k8⟩ := boxA y7 3 cr ct; have G10 := Lib.hid ((HG8.out.op a7 CIx.out f7 (fun b hb => hb)).keep b8); have R10 := Lib.hid ((R8.out.fr f7 NR7.out).keep b8); have T10 := Lib.hid ((T8.out.fr f7 NT7.out).keep b8); have A10 := Lib.hid k8; have Z10 := Lib.hid (show wt < y7.heap.size ∧ w.heap.size ≤ y7.heap.size ∧ rb < y7.heap.size from ⟨Nat.lt_of_lt_of_le (lt_of_block T8.out) f7.size, Nat.le_trans HG8.out.bl.size f7.size, Nat.lt_of_lt_of_le (lt_of_block R8.out) f7.size⟩); clear o7 a7 f7 b8 k8))
          clear CCx ex8 kr8 kw8 ey8 kc kru em
          obtain ⟨ac, hac⟩ : ∃ x, x = y7.heap.size := ⟨_, rfl⟩
          rw [← hac] at A10 Z10 ⊢
          clear hac
          have ka := A10.out.rd
          have kt := T10.out.rd
          have ktw := T10.out.wr
          have e1 : IntKind.i64.wrap (ba + 1) = ba + 1 := by rw [IntKind.wrap_i64]; have := HNB.out; omega
          go_upto_region 25 with (fail)
          rw [setCell_obj T10.out]
          simp only [List.setIfInBounds_toArray, List.set_cons_zero, List.set_cons_succ]
          have fy9 : Fr (fun b => b = wt) y8 (setObj y8 wt (.cells #[.int .i64 al, .int .i64 de, .int .i64 (ba + 1), .int .i64 c, .int .i64 tot] 47 (0, 0))) := Fr.setObj (F := fun b => b = wt) (Fr.refl _ _) rfl _
          have ky9 : Blk (setObj y8 wt (.cells #[.int .i64 al, .int .i64 de, .int .i64 (ba + 1), .int .i64 c, .int .i64 tot] 47 (0, 0))) wt 47 #[.int .i64 al, .int .i64 de, .int .i64 (ba + 1), .int .i64 c, .int .i64 tot] := setObj_at (lt_of_block T10.out) _
          change Code.wp _ _ _ _ (setObj y8 wt (.cells #[.int .i64 al, .int .i64 de, .int .i64 (ba + 1), .int .i64 c, .int .i64 tot] 47 (0, 0)))
          generalize setObj y8 wt (.cells #[.int .i64 al, .int .i64 de, .int .i64 (ba + 1), .int .i64 c, .int .i64 tot] 47 (0, 0)) = y9 at fy9 ky9 ⊢
          have A11 := Lib.hid (A10.out.fr fy9 (by have := Z10.out; omega))
          have R11 := Lib.hid (R10.out.fr fy9 (NRT.out))
          have G11 := Lib.hid (LmLaw.box G10.out fy9 NT7.out WLT.out)
          have T11 := Lib.hid ky9
          clear ka kt ktw e1 fy9 ky9
          have kru := R11.out.rd
          go_upto_region 27 with (fail)
          obtain ⟨y10, hy10⟩ : ∃ z, z = y9 := ⟨_, rfl⟩
          rw [← hy10] at A11 R11 G11 T11 ⊢
          have A12 := A11
          have R12 := R11
          have G12 := G11
          have T12 := T11
          clear kru hy10
          have c2 := lmtotals_any y10 G12.out.at_
          rw [HF.out.1, HF.out.2.1, HF.out.2.2.1, HF.out.2.2.2] at c2
          have hln := len_le (N := N) (s := s2)
          obtain ⟨ln, hlne⟩ : ∃ z, z = s2.len N := ⟨_, rfl⟩
          rw [← hlne] at c2 hln
          have u9 : decide (Ce < ln) = false := decide_eq_false (by have := HCe.out; omega)
          have CT := Lib.hid c2
          clear c2 hln hlne
          go_upto_region 28 with (go_at_call 27; ((with_reducible refine CT.out.mono ?_); rintro e' z1 ⟨rfl, b1⟩; obtain ⟨x13, y13, ex13, kr13, kw13, ey13, b13, k13⟩ := box5T z1 al de (ba + 1) ln tot; have G13 := Lib.hid ((G12.out.keep b1).keep b13); have R13 := Lib.hid ((R12.out.keep b1).keep b13); have T13 := Lib.hid ((T12.out.keep b1).keep b13); have A13 := Lib.hid ((A12.out.keep b1).keep b13); have B13 := Lib.hid k13; have Z13 := Lib.hid (show wt < z1.heap.size from Nat.lt_of_lt_of_le (lt_of_block T12.out) b1.size); clear b1 b13 k13))
          clear CT ex13 kr13 kw13 ey13
          obtain ⟨ad, had⟩ : ∃ x, x = z1.heap.size := ⟨_, rfl⟩
          rw [← had] at B13 Z13 ⊢
          clear had
          have kb := B13.out.rd
          have kt := T13.out.rd
          have ktw := T13.out.wr
          go_upto_region 29 with (fail)
          rw [setCell_obj T13.out]
          simp only [List.setIfInBounds_toArray, List.set_cons_zero, List.set_cons_succ]
          have fy14 : Fr (fun b => b = wt) y13 (setObj y13 wt (.cells #[.int .i64 al, .int .i64 de, .int .i64 (ba + 1), .int .i64 ln, .int .i64 tot] 47 (0, 0))) := Fr.setObj (F := fun b => b = wt) (Fr.refl _ _) rfl _
          have ky14 : Blk (setObj y13 wt (.cells #[.int .i64 al, .int .i64 de, .int .i64 (ba + 1), .int .i64 ln, .int .i64 tot] 47 (0, 0))) wt 47 #[.int .i64 al, .int .i64 de, .int .i64 (ba + 1), .int .i64 ln, .int .i64 tot] := setObj_at (lt_of_block T13.out) _
          change Code.wp _ _ _ _ (setObj y13 wt (.cells #[.int .i64 al, .int .i64 de, .int .i64 (ba + 1), .int .i64 ln, .int .i64 tot] 47 (0, 0)))
          generalize setObj y13 wt (.cells #[.int .i64 al, .int .i64 de, .int .i64 (ba + 1), .int .i64 ln, .int .i64 tot] 47 (0, 0)) = y14 at fy14 ky14 ⊢
          have A14 := Lib.hid (A13.out.fr fy14 (by have := Z10.out; omega))
          have R14 := Lib.hid (R13.out.fr fy14 (NRT.out))
          have B14 := Lib.hid (B13.out.fr fy14 (by have := Z13.out; omega))
          have G14 := Lib.hid (LmLaw.box G13.out fy14 NT7.out WLT.out)
          have T14 := Lib.hid ky14
          clear kb kt ktw fy14 ky14
          have kb := B14.out.rd
          have kt := T14.out.rd
          have kru := R14.out.rd
          have ka := A14.out.rd
          have heq : ∀ w, (Op.equalIn 10000 47 (.agg #[.int .i64 al, .int .i64 de, .int .i64 (ba + 1), .int .i64 ln, .int .i64 tot]) (.agg #[.int .i64 al, .int .i64 de, .int .i64 (ba + 1), .int .i64 ln, .int .i64 tot])).run Tryz.prog w = .ok true w := fun w => by rw [totals_equal]; simp
          go_wp2
          go_roundg (n2 - (i + 1))
          case measure => have := HKK.out; have := HIN.out; omega
          case rel => exact ⟨i + 1, t', s2, ln, HIN.out, Lib.hid rfl, by go_num, rfl, Lib.hid (by have := HT'.out; omega), Lib.hid (by have h1 := HF.out.2.2.2; have h2 := HNB.out; have h3 := HQ.out.1; omega), Lib.hid (G14.out.mono (by have := HT'.out; omega) (by omega)), R14, Lib.hid (by have hf := HF.out; rw [hf.1, hf.2.1, hf.2.2.1, hf.2.2.2]; exact T14.out)⟩
        have u3 : decide (q ≤ Bu) = true := decide_eq_true (by omega)
        have hj := check_judged (N := N) (s := s) (now := t') (cost := q) ky HKY.out (by omega) (by omega) (by omega) (by have h1 := HN.out.2.2.2; have h2 := HNB.out; omega)
        obtain ⟨hj0, ⟨j1, j2, j3, j4⟩ | ⟨j1, j2, j3, j4⟩⟩ := hj
        · have c1 := CCk.out 0 (by unfold inR; omega)
          have CIx := Lib.hid (CI.out 0)
          have ff := And.intro j1 (And.intro j2 (And.intro j3 (And.intro j4 hj0)))
          obtain ⟨⟨s2, ⟨cv, cr, ct⟩, ev⟩, hck⟩ : ∃ x, x = s.check N t' 0 ky q := ⟨_, rfl⟩
          rw [← hck] at c1 CIx ff
          clear hck
          dsimp only at c1 CIx ff
          obtain ⟨rfl, g1, g2, g3, g4⟩ := ff
          rw [← HN.out.1] at g1
          rw [← HN.out.2.1] at g2
          rw [← HN.out.2.2.1] at g3
          rw [← HN.out.2.2.2] at g4
          have HF := Lib.hid (And.intro g1 (And.intro g2 (And.intro g3 g4)))
          have CCx := Lib.hid c1
          clear c1 g1 g2 g3 g4
          clear h3 HTP hBu hB32 hq1 hq2
          go_upto_region 18 with (go_at_call 24; ((with_reducible refine CCx.out.mono ?_); rintro e' y7 ⟨vv, rfl, o7, a7, f7⟩; obtain ⟨x8, y8, ex8, kr8, kw8, ey8, b8, k8⟩ := boxA y7 1 cr ct; have G10 := Lib.hid ((HG8.out.op a7 CIx.out f7 (fun b hb => hb)).keep b8); have R10 := Lib.hid ((R8.out.fr f7 NR7.out).keep b8); have T10 := Lib.hid ((T8.out.fr f7 NT7.out).keep b8); have A10 := Lib.hid k8; have Z10 := Lib.hid (show wt < y7.heap.size ∧ w.heap.size ≤ y7.heap.size ∧ rb < y7.heap.size from ⟨Nat.lt_of_lt_of_le (lt_of_block T8.out) f7.size, Nat.le_trans HG8.out.bl.size f7.size, Nat.lt_of_lt_of_le (lt_of_block R8.out) f7.size⟩); clear o7 a7 f7 b8 k8))
          clear CCx ex8 kr8 kw8 ey8 kc kru em
          obtain ⟨ac, hac⟩ : ∃ x, x = y7.heap.size := ⟨_, rfl⟩
          rw [← hac] at A10 Z10 ⊢
          clear hac
          have ka := A10.out.rd
          have kt := T10.out.rd
          have ktw := T10.out.wr
          have e1 : IntKind.i64.wrap (al + 1) = al + 1 := by rw [IntKind.wrap_i64]; have := HNB.out; omega
          go_upto_region 25 with (fail)
          rw [setCell_obj T10.out]
          simp only [List.setIfInBounds_toArray, List.set_cons_zero, List.set_cons_succ]
          have fy9 : Fr (fun b => b = wt) y8 (setObj y8 wt (.cells #[.int .i64 (al + 1), .int .i64 de, .int .i64 ba, .int .i64 c, .int .i64 tot] 47 (0, 0))) := Fr.setObj (F := fun b => b = wt) (Fr.refl _ _) rfl _
          have ky9 : Blk (setObj y8 wt (.cells #[.int .i64 (al + 1), .int .i64 de, .int .i64 ba, .int .i64 c, .int .i64 tot] 47 (0, 0))) wt 47 #[.int .i64 (al + 1), .int .i64 de, .int .i64 ba, .int .i64 c, .int .i64 tot] := setObj_at (lt_of_block T10.out) _
          change Code.wp _ _ _ _ (setObj y8 wt (.cells #[.int .i64 (al + 1), .int .i64 de, .int .i64 ba, .int .i64 c, .int .i64 tot] 47 (0, 0)))
          generalize setObj y8 wt (.cells #[.int .i64 (al + 1), .int .i64 de, .int .i64 ba, .int .i64 c, .int .i64 tot] 47 (0, 0)) = y9 at fy9 ky9 ⊢
          have A11 := Lib.hid (A10.out.fr fy9 (by have := Z10.out; omega))
          have R11 := Lib.hid (R10.out.fr fy9 (NRT.out))
          have G11 := Lib.hid (LmLaw.box G10.out fy9 NT7.out WLT.out)
          have T11 := Lib.hid ky9
          clear ka kt ktw e1 fy9 ky9
          have kru := R11.out.rd
          have kt := T11.out.rd
          have ktw := T11.out.wr
          have e2 : IntKind.i64.wrap (tot + q) = tot + q := by rw [IntKind.wrap_i64]; have := HNB.out; have := HQ.out.1; omega
          go_upto_region 27 with (fail)
          rw [setCell_obj T11.out]
          simp only [List.setIfInBounds_toArray, List.set_cons_zero, List.set_cons_succ]
          have fy10 : Fr (fun b => b = wt) y9 (setObj y9 wt (.cells #[.int .i64 (al + 1), .int .i64 de, .int .i64 ba, .int .i64 c, .int .i64 (tot + q)] 47 (0, 0))) := Fr.setObj (F := fun b => b = wt) (Fr.refl _ _) rfl _
          have ky10 : Blk (setObj y9 wt (.cells #[.int .i64 (al + 1), .int .i64 de, .int .i64 ba, .int .i64 c, .int .i64 (tot + q)] 47 (0, 0))) wt 47 #[.int .i64 (al + 1), .int .i64 de, .int .i64 ba, .int .i64 c, .int .i64 (tot + q)] := setObj_at (lt_of_block T11.out) _
          change Code.wp _ _ _ _ (setObj y9 wt (.cells #[.int .i64 (al + 1), .int .i64 de, .int .i64 ba, .int .i64 c, .int .i64 (tot + q)] 47 (0, 0)))
          generalize setObj y9 wt (.cells #[.int .i64 (al + 1), .int .i64 de, .int .i64 ba, .int .i64 c, .int .i64 (tot + q)] 47 (0, 0)) = y10 at fy10 ky10 ⊢
          have A12 := Lib.hid (A11.out.fr fy10 (by have := Z10.out; omega))
          have R12 := Lib.hid (R11.out.fr fy10 (NRT.out))
          have G12 := Lib.hid (LmLaw.box G11.out fy10 NT7.out WLT.out)
          have T12 := Lib.hid ky10
          clear kt ktw e2 fy10 ky10 kru
          have c2 := lmtotals_any y10 G12.out.at_
          rw [HF.out.1, HF.out.2.1, HF.out.2.2.1, HF.out.2.2.2] at c2
          have hln := len_le (N := N) (s := s2)
          obtain ⟨ln, hlne⟩ : ∃ z, z = s2.len N := ⟨_, rfl⟩
          rw [← hlne] at c2 hln
          have u9 : decide (Ce < ln) = false := decide_eq_false (by have := HCe.out; omega)
          have CT := Lib.hid c2
          clear c2 hln hlne
          go_upto_region 28 with (go_at_call 27; ((with_reducible refine CT.out.mono ?_); rintro e' z1 ⟨rfl, b1⟩; obtain ⟨x13, y13, ex13, kr13, kw13, ey13, b13, k13⟩ := box5T z1 (al + 1) de ba ln (tot + q); have G13 := Lib.hid ((G12.out.keep b1).keep b13); have R13 := Lib.hid ((R12.out.keep b1).keep b13); have T13 := Lib.hid ((T12.out.keep b1).keep b13); have A13 := Lib.hid ((A12.out.keep b1).keep b13); have B13 := Lib.hid k13; have Z13 := Lib.hid (show wt < z1.heap.size from Nat.lt_of_lt_of_le (lt_of_block T12.out) b1.size); clear b1 b13 k13))
          clear CT ex13 kr13 kw13 ey13
          obtain ⟨ad, had⟩ : ∃ x, x = z1.heap.size := ⟨_, rfl⟩
          rw [← had] at B13 Z13 ⊢
          clear had
          have kb := B13.out.rd
          have kt := T13.out.rd
          have ktw := T13.out.wr
          go_upto_region 29 with (fail)
          rw [setCell_obj T13.out]
          simp only [List.setIfInBounds_toArray, List.set_cons_zero, List.set_cons_succ]
          have fy14 : Fr (fun b => b = wt) y13 (setObj y13 wt (.cells #[.int .i64 (al + 1), .int .i64 de, .int .i64 ba, .int .i64 ln, .int .i64 (tot + q)] 47 (0, 0))) := Fr.setObj (F := fun b => b = wt) (Fr.refl _ _) rfl _
          have ky14 : Blk (setObj y13 wt (.cells #[.int .i64 (al + 1), .int .i64 de, .int .i64 ba, .int .i64 ln, .int .i64 (tot + q)] 47 (0, 0))) wt 47 #[.int .i64 (al + 1), .int .i64 de, .int .i64 ba, .int .i64 ln, .int .i64 (tot + q)] := setObj_at (lt_of_block T13.out) _
          change Code.wp _ _ _ _ (setObj y13 wt (.cells #[.int .i64 (al + 1), .int .i64 de, .int .i64 ba, .int .i64 ln, .int .i64 (tot + q)] 47 (0, 0)))
          generalize setObj y13 wt (.cells #[.int .i64 (al + 1), .int .i64 de, .int .i64 ba, .int .i64 ln, .int .i64 (tot + q)] 47 (0, 0)) = y14 at fy14 ky14 ⊢
          have A14 := Lib.hid (A13.out.fr fy14 (by have := Z10.out; omega))
          have R14 := Lib.hid (R13.out.fr fy14 (NRT.out))
          have B14 := Lib.hid (B13.out.fr fy14 (by have := Z13.out; omega))
          have G14 := Lib.hid (LmLaw.box G13.out fy14 NT7.out WLT.out)
          have T14 := Lib.hid ky14
          clear kb kt ktw fy14 ky14
          have kb := B14.out.rd
          have kt := T14.out.rd
          have kru := R14.out.rd
          have ka := A14.out.rd
          have heq : ∀ w, (Op.equalIn 10000 47 (.agg #[.int .i64 (al + 1), .int .i64 de, .int .i64 ba, .int .i64 ln, .int .i64 (tot + q)]) (.agg #[.int .i64 (al + 1), .int .i64 de, .int .i64 ba, .int .i64 ln, .int .i64 (tot + q)])).run Tryz.prog w = .ok true w := fun w => by rw [totals_equal]; simp
          go_wp2
          go_roundg (n2 - (i + 1))
          case measure => have := HKK.out; have := HIN.out; omega
          case rel => exact ⟨i + 1, t', s2, ln, HIN.out, Lib.hid rfl, by go_num, rfl, Lib.hid (by have := HT'.out; omega), Lib.hid (by have h1 := HF.out.2.2.2; have h2 := HNB.out; have h3 := HQ.out.1; omega), Lib.hid (G14.out.mono (by have := HT'.out; omega) (by omega)), R14, Lib.hid (by have hf := HF.out; rw [hf.1, hf.2.1, hf.2.2.1, hf.2.2.2]; exact T14.out)⟩
        · have c1 := CCk.out 0 (by unfold inR; omega)
          have CIx := Lib.hid (CI.out 0)
          have ff := And.intro j1 (And.intro j2 (And.intro j3 (And.intro j4 hj0)))
          obtain ⟨⟨s2, ⟨cv, cr, ct⟩, ev⟩, hck⟩ : ∃ x, x = s.check N t' 0 ky q := ⟨_, rfl⟩
          rw [← hck] at c1 CIx ff
          clear hck
          dsimp only at c1 CIx ff
          obtain ⟨rfl, g1, g2, g3, g4⟩ := ff
          rw [← HN.out.1] at g1
          rw [← HN.out.2.1] at g2
          rw [← HN.out.2.2.1] at g3
          rw [← HN.out.2.2.2] at g4
          have HF := Lib.hid (And.intro g1 (And.intro g2 (And.intro g3 g4)))
          have CCx := Lib.hid c1
          clear c1 g1 g2 g3 g4
          clear h3 HTP hBu hB32 hq1 hq2
          go_upto_region 18 with (go_at_call 24; ((with_reducible refine CCx.out.mono ?_); rintro e' y7 ⟨vv, rfl, o7, a7, f7⟩; obtain ⟨x8, y8, ex8, kr8, kw8, ey8, b8, k8⟩ := boxA y7 2 cr ct; have G10 := Lib.hid ((HG8.out.op a7 CIx.out f7 (fun b hb => hb)).keep b8); have R10 := Lib.hid ((R8.out.fr f7 NR7.out).keep b8); have T10 := Lib.hid ((T8.out.fr f7 NT7.out).keep b8); have A10 := Lib.hid k8; have Z10 := Lib.hid (show wt < y7.heap.size ∧ w.heap.size ≤ y7.heap.size ∧ rb < y7.heap.size from ⟨Nat.lt_of_lt_of_le (lt_of_block T8.out) f7.size, Nat.le_trans HG8.out.bl.size f7.size, Nat.lt_of_lt_of_le (lt_of_block R8.out) f7.size⟩); clear o7 a7 f7 b8 k8))
          clear CCx ex8 kr8 kw8 ey8 kc kru em
          obtain ⟨ac, hac⟩ : ∃ x, x = y7.heap.size := ⟨_, rfl⟩
          rw [← hac] at A10 Z10 ⊢
          clear hac
          have ka := A10.out.rd
          have kt := T10.out.rd
          have ktw := T10.out.wr
          have e1 : IntKind.i64.wrap (de + 1) = de + 1 := by rw [IntKind.wrap_i64]; have := HNB.out; omega
          go_upto_region 25 with (fail)
          rw [setCell_obj T10.out]
          simp only [List.setIfInBounds_toArray, List.set_cons_zero, List.set_cons_succ]
          have fy9 : Fr (fun b => b = wt) y8 (setObj y8 wt (.cells #[.int .i64 al, .int .i64 (de + 1), .int .i64 ba, .int .i64 c, .int .i64 tot] 47 (0, 0))) := Fr.setObj (F := fun b => b = wt) (Fr.refl _ _) rfl _
          have ky9 : Blk (setObj y8 wt (.cells #[.int .i64 al, .int .i64 (de + 1), .int .i64 ba, .int .i64 c, .int .i64 tot] 47 (0, 0))) wt 47 #[.int .i64 al, .int .i64 (de + 1), .int .i64 ba, .int .i64 c, .int .i64 tot] := setObj_at (lt_of_block T10.out) _
          change Code.wp _ _ _ _ (setObj y8 wt (.cells #[.int .i64 al, .int .i64 (de + 1), .int .i64 ba, .int .i64 c, .int .i64 tot] 47 (0, 0)))
          generalize setObj y8 wt (.cells #[.int .i64 al, .int .i64 (de + 1), .int .i64 ba, .int .i64 c, .int .i64 tot] 47 (0, 0)) = y9 at fy9 ky9 ⊢
          have A11 := Lib.hid (A10.out.fr fy9 (by have := Z10.out; omega))
          have R11 := Lib.hid (R10.out.fr fy9 (NRT.out))
          have G11 := Lib.hid (LmLaw.box G10.out fy9 NT7.out WLT.out)
          have T11 := Lib.hid ky9
          clear ka kt ktw e1 fy9 ky9
          have kru := R11.out.rd
          have kt := T11.out.rd
          have ktw := T11.out.wr
          have e2 : IntKind.i64.wrap (tot + q) = tot + q := by rw [IntKind.wrap_i64]; have := HNB.out; have := HQ.out.1; omega
          go_upto_region 27 with (fail)
          rw [setCell_obj T11.out]
          simp only [List.setIfInBounds_toArray, List.set_cons_zero, List.set_cons_succ]
          have fy10 : Fr (fun b => b = wt) y9 (setObj y9 wt (.cells #[.int .i64 al, .int .i64 (de + 1), .int .i64 ba, .int .i64 c, .int .i64 (tot + q)] 47 (0, 0))) := Fr.setObj (F := fun b => b = wt) (Fr.refl _ _) rfl _
          have ky10 : Blk (setObj y9 wt (.cells #[.int .i64 al, .int .i64 (de + 1), .int .i64 ba, .int .i64 c, .int .i64 (tot + q)] 47 (0, 0))) wt 47 #[.int .i64 al, .int .i64 (de + 1), .int .i64 ba, .int .i64 c, .int .i64 (tot + q)] := setObj_at (lt_of_block T11.out) _
          change Code.wp _ _ _ _ (setObj y9 wt (.cells #[.int .i64 al, .int .i64 (de + 1), .int .i64 ba, .int .i64 c, .int .i64 (tot + q)] 47 (0, 0)))
          generalize setObj y9 wt (.cells #[.int .i64 al, .int .i64 (de + 1), .int .i64 ba, .int .i64 c, .int .i64 (tot + q)] 47 (0, 0)) = y10 at fy10 ky10 ⊢
          have A12 := Lib.hid (A11.out.fr fy10 (by have := Z10.out; omega))
          have R12 := Lib.hid (R11.out.fr fy10 (NRT.out))
          have G12 := Lib.hid (LmLaw.box G11.out fy10 NT7.out WLT.out)
          have T12 := Lib.hid ky10
          clear kt ktw e2 fy10 ky10 kru
          have c2 := lmtotals_any y10 G12.out.at_
          rw [HF.out.1, HF.out.2.1, HF.out.2.2.1, HF.out.2.2.2] at c2
          have hln := len_le (N := N) (s := s2)
          obtain ⟨ln, hlne⟩ : ∃ z, z = s2.len N := ⟨_, rfl⟩
          rw [← hlne] at c2 hln
          have u9 : decide (Ce < ln) = false := decide_eq_false (by have := HCe.out; omega)
          have CT := Lib.hid c2
          clear c2 hln hlne
          go_upto_region 28 with (go_at_call 27; ((with_reducible refine CT.out.mono ?_); rintro e' z1 ⟨rfl, b1⟩; obtain ⟨x13, y13, ex13, kr13, kw13, ey13, b13, k13⟩ := box5T z1 al (de + 1) ba ln (tot + q); have G13 := Lib.hid ((G12.out.keep b1).keep b13); have R13 := Lib.hid ((R12.out.keep b1).keep b13); have T13 := Lib.hid ((T12.out.keep b1).keep b13); have A13 := Lib.hid ((A12.out.keep b1).keep b13); have B13 := Lib.hid k13; have Z13 := Lib.hid (show wt < z1.heap.size from Nat.lt_of_lt_of_le (lt_of_block T12.out) b1.size); clear b1 b13 k13))
          clear CT ex13 kr13 kw13 ey13
          obtain ⟨ad, had⟩ : ∃ x, x = z1.heap.size := ⟨_, rfl⟩
          rw [← had] at B13 Z13 ⊢
          clear had
          have kb := B13.out.rd
          have kt := T13.out.rd
          have ktw := T13.out.wr
          go_upto_region 29 with (fail)
          rw [setCell_obj T13.out]
          simp only [List.setIfInBounds_toArray, List.set_cons_zero, List.set_cons_succ]
          have fy14 : Fr (fun b => b = wt) y13 (setObj y13 wt (.cells #[.int .i64 al, .int .i64 (de + 1), .int .i64 ba, .int .i64 ln, .int .i64 (tot + q)] 47 (0, 0))) := Fr.setObj (F := fun b => b = wt) (Fr.refl _ _) rfl _
          have ky14 : Blk (setObj y13 wt (.cells #[.int .i64 al, .int .i64 (de + 1), .int .i64 ba, .int .i64 ln, .int .i64 (tot + q)] 47 (0, 0))) wt 47 #[.int .i64 al, .int .i64 (de + 1), .int .i64 ba, .int .i64 ln, .int .i64 (tot + q)] := setObj_at (lt_of_block T13.out) _
          change Code.wp _ _ _ _ (setObj y13 wt (.cells #[.int .i64 al, .int .i64 (de + 1), .int .i64 ba, .int .i64 ln, .int .i64 (tot + q)] 47 (0, 0)))
          generalize setObj y13 wt (.cells #[.int .i64 al, .int .i64 (de + 1), .int .i64 ba, .int .i64 ln, .int .i64 (tot + q)] 47 (0, 0)) = y14 at fy14 ky14 ⊢
          have A14 := Lib.hid (A13.out.fr fy14 (by have := Z10.out; omega))
          have R14 := Lib.hid (R13.out.fr fy14 (NRT.out))
          have B14 := Lib.hid (B13.out.fr fy14 (by have := Z13.out; omega))
          have G14 := Lib.hid (LmLaw.box G13.out fy14 NT7.out WLT.out)
          have T14 := Lib.hid ky14
          clear kb kt ktw fy14 ky14
          have kb := B14.out.rd
          have kt := T14.out.rd
          have kru := R14.out.rd
          have ka := A14.out.rd
          have heq : ∀ w, (Op.equalIn 10000 47 (.agg #[.int .i64 al, .int .i64 (de + 1), .int .i64 ba, .int .i64 ln, .int .i64 (tot + q)]) (.agg #[.int .i64 al, .int .i64 (de + 1), .int .i64 ba, .int .i64 ln, .int .i64 (tot + q)])).run Tryz.prog w = .ok true w := fun w => by rw [totals_equal]; simp
          go_wp2
          go_roundg (n2 - (i + 1))
          case measure => have := HKK.out; have := HIN.out; omega
          case rel => exact ⟨i + 1, t', s2, ln, HIN.out, Lib.hid rfl, by go_num, rfl, Lib.hid (by have := HT'.out; omega), Lib.hid (by have h1 := HF.out.2.2.2; have h2 := HNB.out; have h3 := HQ.out.1; omega), Lib.hid (G14.out.mono (by have := HT'.out; omega) (by omega)), R14, Lib.hid (by have hf := HF.out; rw [hf.1, hf.2.1, hf.2.2.1, hf.2.2.2]; exact T14.out)⟩
    · have hie : i = n2 := by omega
      subst hie
      go_wp2
      go_ret
      exact ⟨rfl, HG.out.bl⟩
end Go.Proofs.YtbgcpljekcagiaaGreat
