import Derived.Test.YtbgcpljekcagiaaGreatZLmN
import Derived.Test.YtbgcpljekcagiaaGreatZPhase
import Derived.Test.YtbgcpljekcagiaaGreatZLiftS
/- The law LimiterExact of layer 12 (limiter), walked. -/
namespace Go.Proofs.YtbgcpljekcagiaaGreat
set_option linter.unusedSimpArgs false
set_option linter.unusedVariables false
set_option maxRecDepth 100000
open Go.ChangeShapes Go.WideShapes Go.ChangeAt Go.RowKit
open Ar (inR)
set_option maxRecDepth 100000 in
set_option maxHeartbeats 6000000 in
theorem lmexact_law (w : World) (a b c d e f g h : Int) (sm : Bool) (A : Option Addr) (n c0 : Nat) (zs : List Int) (A2 : Option Addr) (n2 c2 : Nat) (L : List Cl) (hpl : RuleOK a b c d e f g h) (hr : RdI w .u64 A n c0 zs) (hr2 : RdL w A2 n2 c2 4 encCl L) (hok : ∀ a ∈ L, okCl a) :
    Calls Tryz.prog 5 #[planV a b c d e f g h sm, .slice A n c0, .slice A2 n2 c2] w fun e w' => e = .returned (.bool true) ∧ Below w.heap.size w w' := by
  clear hpl
  have hmm := @run_makeMap Tryz.prog
  have hmx2 := hr2.max
  unfold maxLen at hmx2
  have hcp2 := hr2.cap
  have HR2 := Lib.hid hr2
  have HO := Lib.hid hok
  have hmx1 := hr.max
  unfold maxLen at hmx1
  have hcp1 := hr.cap
  have HR1 := Lib.hid hr
  clear hr
  clear hr2 hok
  obtain ⟨w1, hw1, k1, l1', s1⟩ := box_new w (planC a b c d e f g h sm) 23
  obtain ⟨pl, hpl⟩ : ∃ x, x = w.heap.size := ⟨_, rfl⟩
  rw [← hpl] at k1
  have K2 := Lib.hid (And.intro k1 l1')
  have HB := Lib.hid hpl
  clear k1 l1' s1
  go_enter Tryz.func5, Tryz.ntmps5
  go_upto_region 1 with (fail)
  rw [← HB.out]
  clear hw1 hpl
  go_upto_region 3 with (go_at_call 15; ((refine (lmfit_any _).mono ?_); rintro e w3 ⟨rfl, b3⟩; have K3 := Lib.hid (And.intro (K2.out.1.keep b3) (below_in K2.out.2 b3)); clear b3))
  by_cases hn60 : 60 < n
  · have t60 : decide ((60 : Int) < (n : Int)) = true := by rw [decide_eq_true_iff]; omega
    clear hn60
    go_wp2
    go_ret
    exact ⟨rfl, K3.out.2⟩
  have t60 : decide ((60 : Int) < (n : Int)) = false := by rw [decide_eq_false_iff_not]; omega
  clear hn60
  have CLi := Lib.hid (lmlight_any A2 n2 c2 L w3 (HR2.out.below K3.out.2) HO.out)
  cases hlb : lightC L with
  | false =>
    rw [hlb] at CLi
    go_wp2_with (go_at_call 16; ((with_reducible refine CLi.out.mono ?_); rintro e w4 ⟨rfl, b4⟩; have T4 := Lib.hid (below_in K3.out.2 b4); clear b4))
    go_ret
    exact ⟨rfl, T4.out⟩
  | true =>
  rw [hlb] at CLi
  have hlc := lightC_at hlb
  have hlen := hlc.1
  have HLK := Lib.hid hlc.2
  have hln := HR2.out.len
  have hb2 : (n2 : Int) ≤ 150 := by omega
  clear hlb hlen hln hlc
  go_upto_region 5 with (go_at_call 16; ((with_reducible refine CLi.out.mono ?_); rintro e w4 ⟨rfl, b4⟩; have K4 := Lib.hid (And.intro (K3.out.1.keep b4) (below_in K3.out.2 b4)); clear b4))
  clear CLi
  have kp := K4.out.1.rd
  have CRu := Lib.hid (lmrule_any a b c d e f g h sm w4)
  obtain ⟨Li, hLm⟩ : ∃ x, x = lqL a := ⟨_, rfl⟩
  obtain ⟨Wd, hWd⟩ : ∃ x, x = ((lqS b * lqN d : Nat) : Int) := ⟨_, rfl⟩
  obtain ⟨Bu, hBu⟩ : ∃ x, x = lqB a c := ⟨_, rfl⟩
  obtain ⟨Sl, hSl⟩ : ∃ x, x = ((lqN d : Nat) : Int) := ⟨_, rfl⟩
  obtain ⟨Ce, hCe⟩ : ∃ x, x = ((lqC e : Nat) : Int) := ⟨_, rfl⟩
  obtain ⟨kR, hkR⟩ : ∃ x, x = ((lqR f : Nat) : Int) := ⟨_, rfl⟩
  obtain ⟨Wi, hWi⟩ : ∃ x, x = ((lqW g : Nat) : Int) := ⟨_, rfl⟩
  obtain ⟨Tr, hTr⟩ : ∃ x, x = ((lqT h : Nat) : Int) := ⟨_, rfl⟩
  obtain ⟨smm, hsm⟩ : ∃ x, x = lqM sm d := ⟨_, rfl⟩
  rw [← hLm, ← hWd, ← hBu, ← hSl, ← hCe, ← hkR, ← hWi, ← hTr, ← hsm] at CRu
  have CNw := Lib.hid (fun wx (hx : Below w.heap.size w wx) => show Calls Tryz.prog 18 #[rlV Li Wd Bu Sl Ce kR Wi Tr smm, .slice A n c0] wx _ from by rw [hLm, hWd, hBu, hSl, hCe, hkR, hWi, hTr, hsm]; exact lmplan_new a b c d e f g h (lqM sm d) A n c0 zs wx (HR1.out.below hx))
  have HP := Lib.hid (And.intro hLm (And.intro hWd (And.intro hBu (And.intro hSl (And.intro hCe (And.intro hkR (And.intro hWi (And.intro hTr hsm))))))))
  clear hLm hWd hBu hSl hCe hkR hWi hTr hsm
  go_upto_region 6 with (go_at_call 17; ((with_reducible refine CRu.out.mono ?_); rintro e w5 ⟨rfl, b5⟩; obtain ⟨y1, y2, ey1, kr9, kw9, ey2, bl9, kc9⟩ := box9R w5 (.int .i64 Li) (.int .i64 Wd) (.int .i64 Bu) (.int .i64 Sl) (.int .i64 Ce) (.int .i64 kR) (.int .i64 Wi) (.int .i64 Tr) (.bool smm); have K6 := Lib.hid (And.intro kc9 (below_in (below_in K4.out.2 b5) bl9)); clear b5 bl9 kc9))
  clear ey1 kr9 kw9 ey2 kp CRu
  obtain ⟨rb, hrb⟩ : ∃ rb, rb = w5.heap.size := ⟨_, rfl⟩
  rw [← hrb] at K6 ⊢
  clear hrb
  have kru := K6.out.1.rd
  go_upto_region 7 with (go_at_call 18; ((with_reducible refine (CNw.out _ K6.out.2).mono ?_); rintro v w7 ⟨N, rfl, a7, p7, n7, b7⟩; have P7 := Lib.hid p7; have G7 := Lib.hid (show LmLaw w w7 N (lmZ (lqC e)) 0 0 from ⟨a7, lmplan_I a7 p7, fun b hb => Nat.le_trans K6.out.2.size (n7 b hb), below_in K6.out.2 b7⟩); have R7 := Lib.hid (K6.out.1.keep b7); have NR7 := Lib.hid (show ¬ N.all rb from fun hb => by have := n7 rb hb; have := lt_of_block K6.out.1; omega); clear a7 p7 n7 b7))
  clear CNw kru
  have HPB := Lib.hid (show LmB N ∧ N.B = Bu ∧ 1 ≤ Bu ∧ Bu ≤ 32 from by rw [HP.out.2.2.1]; exact lmplan_B P7.out)
  have HLN := Lib.hid (show LimN N (lspan b d (lqM sm d)) from lmplan_N P7.out)
  have HNU := Lib.hid (show N.W = Wd ∧ N.L = Li ∧ N.Q.N.n = lqC e ∧ N.R.L = N.L ∧ R9.Ru N.U Wd Bu Li from by
    have h1 := HP.out.1
    have h2 := HP.out.2.1
    have h3 := HP.out.2.2.1
    have h4 : 1 ≤ lqN d ∧ lqN d ≤ 8 := by unfold lqN; omega
    have h5 : 1 ≤ lqS b ∧ lqS b ≤ 32 := by unfold lqS; omega
    have h6 : 1 * 1 ≤ lqS b * lqN d := Nat.mul_le_mul h5.1 h4.1
    have h7 : lqS b * lqN d ≤ 32 * 8 := Nat.mul_le_mul h5.2 h4.2
    have h8 := lqB_bd a c
    have h9 : 1 ≤ lqL a ∧ lqL a ≤ 32 := by unfold lqL; omega
    refine ⟨by rw [P7.out.pW, h2], by rw [P7.out.pL, h1], P7.out.pC, by rw [P7.out.pRL, P7.out.pL], ⟨?_, by omega, by omega, by omega⟩⟩
    rw [P7.out.pU, h1, h2, h3]
    exact unit_eq9 (by omega) (by omega))
  go_upto_region 8 with (fail)
  have hm0 : Mp.MapS Tryz.prog 9 (w7.alloc (.map #[] 0)) w7.heap.size 0 (fun _ => none) := Mp.MapS.new (P := Tryz.prog) (k := 9) w7
  obtain ⟨mb, hmb⟩ : ∃ mb, mb = w7.heap.size := ⟨_, rfl⟩
  have HMB := Lib.hid (show (∀ k, N.all k → k < mb) ∧ w.heap.size ≤ mb ∧ rb < mb from ⟨fun k hk => by have := G7.out.at_.lt k hk; omega, by have := G7.out.bl.size; omega, by have := lt_of_block R7.out; omega⟩)
  have bl9 : Below w7.heap.size w7 (w7.alloc (.map #[] 0)) := (Below.refl _ _).alloc (Nat.le_refl _) _
  rw [← hmb] at hm0 ⊢
  have G9' := Lib.hid (G7.out.keep bl9)
  have R9' := Lib.hid (R7.out.keep bl9)
  have M9 := Lib.hid (show GapM (w7.alloc (.map #[] 0)) mb (w7.alloc (.map #[] 0)).heap.size 0 (fun _ => none) (fun _ => none) from ⟨hm0, ⟨hm0.lt, Nat.le_refl _⟩, (fun _ _ => rfl), (fun k v hv => by cases hv), (fun k k' g _ hv => by cases hv)⟩)
  generalize w7.alloc (.map #[] 0) = w9 at G9' R9' M9 ⊢
  clear hm0 hmb bl9 hmm
  obtain ⟨base, hbase⟩ : ∃ z, z = w9.heap.size := ⟨_, rfl⟩
  rw [← hbase] at M9
  have HBS := Lib.hid (show mb < base from M9.out.lo.1)
  clear hbase
  go_wp2
  go_loopg [37, 10] n2 (fun kk si sn wr => ∃ (i : Nat) (t : Int) (s : LmS) (c : Nat) (V : ByteArray → Option Value) (G : ByteArray → Option Int), i ≤ n2 ∧ Hid (kk = n2 - i) ∧ si = .int .i64 (i : Int) ∧ sn = .int .i64 t ∧ Hid (0 ≤ t ∧ t ≤ 1023 * (i : Int)) ∧ Hid (LmLaw w wr N s t (2097153 * (i : Int))) ∧ Hid (Blk wr rb 29 #[.int .i64 Li, .int .i64 Wd, .int .i64 Bu, .int .i64 Sl, .int .i64 Ce, .int .i64 kR, .int .i64 Wi, .int .i64 Tr, .bool smm]) ∧ Hid (LmX N s c G) ∧ Hid (GapM wr mb base c V G) ∧ Hid (c ≤ i))
  case atStart => exact ⟨0, 0, lmZ (lqC e), 0, _, _, by omega, Lib.hid rfl, rfl, rfl, Lib.hid (by omega), G9', R9', Lib.hid (LmX.new _ HNU.out.2.2.1), M9, Lib.hid (Nat.le_refl _)⟩
  case round =>
    obtain ⟨i, t, s, c, V, Gm, hi, HKK, rfl, rfl, HT, HG, HRB, HX, HM, HC⟩ := hrel
    by_cases hin : i < n2
    · have hl2 := HR2.out.len
      obtain ⟨b', off, rfl, hbl, hcl⟩ := (HR2.out.below HG.out.bl).at_ (by omega)
      obtain ⟨⟨gp, cs, ky, pk⟩, ha⟩ : ∃ a, L[i]? = some a := ⟨_, List.getElem?_eq_getElem (by omega)⟩
      have HKY := Lib.hid (HLK.out _ (List.mem_of_getElem? ha))
      have hky : ky.size ≤ 64 := HKY.out
      have HCS := Lib.hid (HO.out _ (List.mem_of_getElem? ha))
      have kr0 : wr.cell? ⟨b', off + i * 4, none⟩ = some (.int .i64 gp) := hcl i _ ha 0 (by omega)
      have kr1 : wr.cell? ⟨b', off + i * 4 + 1, none⟩ = some (.int .i64 cs) := hcl i _ ha 1 (by omega)
      have kr2 : wr.cell? ⟨b', off + i * 4 + 2, none⟩ = some (.string ky) := hcl i _ ha 2 (by omega)
      have kr3 : wr.cell? ⟨b', off + i * 4 + 3, none⟩ = some (.bool pk) := hcl i _ ha 3 (by omega)
      obtain ⟨y1, y2, ey1, kr, kw, ey2, bl2, kc2⟩ := box4C wr (.int .i64 gp) (.int .i64 cs) (.string ky) (.bool pk)
      have G6 := Lib.hid (HG.out.keep bl2)
      obtain ⟨bx, hbx⟩ : ∃ bx, bx = wr.heap.size := ⟨_, rfl⟩
      have HBX := Lib.hid (show (¬ N.all bx) ∧ w.heap.size ≤ bx ∧ bx < y2.heap.size from ⟨fun hh => by have := HG.out.at_.lt bx hh; omega, by have := HG.out.bl.size; omega, by have := lt_of_block kc2; omega⟩)
      rw [← hbx] at kc2
      have kc3 := kc2.rd
      have KC := Lib.hid kc2
      have KRu := Lib.hid (HRB.out.keep bl2)
      have M6 := Lib.hid (HM.out.keep bl2)
      have hgb := gapL_bd gp
      obtain ⟨gq, hgq⟩ : ∃ x, x = gapL gp := ⟨_, rfl⟩
      have HGQ := Lib.hid hgq
      have CG := Lib.hid (fun wx => gapL_any gp wx)
      rw [← hgq] at CG hgb
      obtain ⟨t', ht'⟩ : ∃ x, x = t + gq := ⟨_, rfl⟩
      have hT := HT.out
      have et : IntKind.i64.wrap (t + gq) = t' := by rw [IntKind.wrap_i64]; omega
      have HT' := Lib.hid (show (0 ≤ t' ∧ t' ≤ 1023 * ((i : Int) + 1)) ∧ t ≤ t' ∧ t' ≤ 4611686018427380000 ∧ t' = t + gq by omega)
      have CC := Lib.hid (fun wx => costL_any Li Wd Bu Sl Ce kR Wi Tr smm cs ⟨HPB.out.2.2.1, HPB.out.2.2.2⟩ wx)
      have hqb := costL_bd (n := cs) ⟨HPB.out.2.2.1, HPB.out.2.2.2⟩
      obtain ⟨q, hq⟩ : ∃ x, x = costL Bu cs := ⟨_, rfl⟩
      rw [← hq] at CC hqb
      have HQ := Lib.hid (And.intro hqb hq)
      have t2 : (i : Int) < (n2 : Int) := by omega
      have HIN := Lib.hid hin
      clear hl2 hcl hbl bl2 kc2 hgb hgq ht' hT hq hin hqb hky
      go_upto_region 12 with (fail)
      rw [← hbx]
      have HBXS := Lib.hid hbx
      clear kr kw ey1 kr0 kr1 kr2 kr3 ey2 hbx
      have krl := KRu.out.rd
      go_upto_region 14 with (first
        | (go_at_call 20; ((with_reducible refine (CG.out _).mono ?_); rintro v y3 ⟨rfl, rfl⟩))
        | (go_at_call 21; ((with_reducible refine (CC.out _).mono ?_); rintro v y4 ⟨rfl, b4⟩; have G8 := Lib.hid (G6.out.keep b4); have K8 := Lib.hid (KC.out.keep b4); have R8 := Lib.hid (KRu.out.keep b4); have M8 := Lib.hid (M6.out.keep b4); have HB8 := Lib.hid (show bx < y4.heap.size from Nat.lt_of_lt_of_le HBX.out.2.2 b4.size); clear b4)))
      clear CG CC et kc3 krl
      have HG8 := Lib.hid (G8.out.mono (t' := t') (m' := 2097153 * (i : Int)) (by have := HT'.out; omega) (by omega))
      have hlk := M8.out.mp.look Tryz.underlying9 Tryz.underlying58 (z := .pointer none) (by kernel_rfl) (show ky.size ≤ maxLen from by have := HKY.out; unfold maxLen; omega)
      obtain ⟨p0, hp0, hpn⟩ : ∃ p : Option Addr, (V ky).getD (.pointer none) = .pointer p ∧ (p = none ↔ V ky = none) := by
        cases hv : V ky with
        | none => exact ⟨none, rfl, by simp⟩
        | some v =>
          obtain ⟨g, F, S, D, e1, _⟩ := M8.out.row ky v hv
          exact ⟨some ⟨g, 0, none⟩, e1, by simp⟩
      rw [hp0] at hlk
      have HP0 := Lib.hid (And.intro hp0 hpn)
      clear hp0 hpn
      have kc := K8.out.rd
      go_upto_if 56 with (fail)
      clear hlk kc
      obtain ⟨fr, hfr⟩ : ∃ z : Bool, z = p0.isNone := ⟨_, rfl⟩
      rw [← hfr]
      have HFR := Lib.hid (show fr = true ↔ V ky = none from by rw [hfr, ← HP0.out.2]; simp)
      have HGE := Lib.hid (show wr.heap.size = bx ∧ base ≤ wr.heap.size from ⟨HBXS.out.symm, HM.out.lo.2⟩)
      clear hfr
      go_cut [14] from 38 to 143 (fun s14 wx => ∃ (g : Nat) (F S D : Int), s14 = pcV g ∧ Hid (F = (Gm ky).getD t') ∧ Hid (V ky = some (pcV g) ∨ (V ky = none ∧ y4.heap.size ≤ g)) ∧ Hid (R9.CAt wx g F S 0 D) ∧ Hid (Below y4.heap.size y4 wx) ∧ Hid (g ≠ bx))
      case first =>
        cases hv : V ky with
        | none =>
          have hfr : fr = true := HFR.out.2 hv
          subst hfr
          have hG : Gm ky = none := M8.out.no ky hv
          obtain ⟨wn, hwn, kn, bn, sn⟩ := box_new y4 #[.int .i64 t', .int .i64 t', .int .i64 0, .int .i64 0] 61
          have HN := Lib.hid (show R9.CAt wn y4.heap.size t' t' 0 0 ∧ Below y4.heap.size y4 wn ∧ y4.heap.size ≠ bx from ⟨kn, bn, by have := HB8.out; omega⟩)
          clear kn bn sn
          go_wp2
          go_meet
          case rel => exact ⟨_, t', t', 0, rfl, Lib.hid (by rw [hG]; rfl), Lib.hid (Or.inr ⟨hv, Nat.le_refl _⟩), Lib.hid HN.out.1, Lib.hid HN.out.2.1, Lib.hid HN.out.2.2⟩
        | some v =>
          have hfr : fr = false := by cases hf : fr; rfl; rw [HFR.out.1 hf] at hv; cases hv
          subst hfr
          obtain ⟨g, F, S, D, rfl, e2, e3, e4⟩ := M8.out.row ky v hv
          have ep : p0 = some ⟨g, 0, none⟩ := by
            have := HP0.out.1
            rw [hv] at this
            injection this with this
            exact this.symm
          subst ep
          obtain ⟨g1, _, _, _, q1, _, _, q4⟩ := HM.out.row ky _ hv
          have HN := Lib.hid (show g ≠ bx from by have := pcV_inj q1; have := lt_of_block q4; have := HGE.out.1; omega)
          have E4 := Lib.hid e4
          clear q4 e4
          go_wp2
          go_meet
          case rel => exact ⟨g, F, S, D, rfl, Lib.hid (by rw [e2]; rfl), Lib.hid (Or.inl hv), E4, Lib.hid (Below.refl _ _), HN⟩
      case rest =>
      obtain ⟨g, F, S0, D0, rfl, HF, HV, HCA, HBY, HGX⟩ := hcut
      obtain ⟨yc, rfl⟩ : ∃ z, z = wc := ⟨_, rfl⟩
      clear HP0
      have G10 := Lib.hid (HG8.out.keep HBY.out)
      have R10 := Lib.hid (R8.out.keep HBY.out)
      have K10 := Lib.hid (K8.out.keep HBY.out)
      have HGB := Lib.hid (show base ≤ g from M8.out.ge HV.out)
      have HFB := Lib.hid (show 0 ≤ F ∧ F ≤ t' + 1099511627776 from by
        rw [HF.out]
        have h1 := HT'.out
        cases hG : Gm ky with
        | none => show 0 ≤ t' ∧ t' ≤ _; omega
        | some F1 =>
          have := HX.out.bd HG.out.I HG.out.at_.hp.len hG
          show 0 ≤ F1 ∧ F1 ≤ _
          omega)
      have kr10 := R10.out.rd
      have htw : t' - Wd = t' - Wd := rfl
      by_cases hq0 : 1 ≤ q ∧ q ≤ Bu
      rotate_left
      · by_cases h1 : q < 1
        focus
          have d1 : decide (q < 1) = true := by rw [decide_eq_true_iff]; exact h1
          clear h1 hq0 htw
          go_wp2
          go_roundg (n2 - (i + 1))
          case measure => have := HKK.out; have := HIN.out; omega
          case rel => exact ⟨i + 1, t', s, c, V, Gm, HIN.out, Lib.hid rfl, by go_num, rfl, Lib.hid (by have := HT'.out; omega), Lib.hid (G10.out.mono (by have := HT'.out; omega) (by omega)), R10, HX, Lib.hid (M8.out.keep HBY.out), Lib.hid (by have := HC.out; omega)⟩
        have d1 : decide (q < 1) = false := by rw [decide_eq_false_iff_not]; exact h1
        have d2 : decide (Bu < q) = true := by rw [decide_eq_true_iff]; omega
        clear h1 hq0 htw
        go_wp2
        go_roundg (n2 - (i + 1))
        case measure => have := HKK.out; have := HIN.out; omega
        case rel => exact ⟨i + 1, t', s, c, V, Gm, HIN.out, Lib.hid rfl, by go_num, rfl, Lib.hid (by have := HT'.out; omega), Lib.hid (G10.out.mono (by have := HT'.out; omega) (by omega)), R10, HX, Lib.hid (M8.out.keep HBY.out), Lib.hid (by have := HC.out; omega)⟩
      have d1 : decide (q < 1) = false := by rw [decide_eq_false_iff_not]; omega
      have d2 : decide (Bu < q) = false := by rw [decide_eq_false_iff_not]; omega
      have HQB := Lib.hid hq0
      clear hq0 htw
      go_upto_region 19 with (fail)
      clear d1 d2
      have HWB := Lib.hid (show 1 ≤ Wd ∧ Wd ≤ 1048576 from HNU.out.2.2.2.2.W)
      have ew : IntKind.i64.wrap (t' - Wd) = t' - Wd := by rw [IntKind.wrap_i64]; have h1 := HT'.out; have h2 := HWB.out; omega
      obtain ⟨ts, hts⟩ : ∃ z, z = t' - Wd := ⟨_, rfl⟩
      rw [← hts] at ew
      have ew' : t' - Wd = ts := hts.symm
      have HTS := Lib.hid hts
      clear hts
      obtain ⟨yd, ed, kd, fd⟩ := set13 HCA.out (.int .i64 ts) (.int .i64 0)
      have D11 := Lib.hid (And.intro kd fd)
      have kg := HCA.out.rd
      have kgw := HCA.out.wr
      clear kd fd
      go_upto_region 20 with (fail)
      try rw [ed]
      clear ed kg kgw ew ew' kr10
      have HNG := Lib.hid (show ¬ N.all g ∧ w.heap.size ≤ g ∧ g ≠ rb ∧ g ≠ mb from ⟨fun h => by have h1 := HMB.out.1 g h; have h2 := HBS.out; have h3 := HGB.out; omega, by have h1 := HMB.out.2.1; have h2 := HBS.out; have h3 := HGB.out; omega, by have h1 := HMB.out.2.2; have h2 := HBS.out; have h3 := HGB.out; omega, by have h2 := HBS.out; have h3 := HGB.out; omega⟩)
      have G11 := Lib.hid (G10.out.frZ D11.out.2 (fun k e => by rw [e]; exact ⟨HNG.out.1, HNG.out.2.1⟩))
      have R11 := Lib.hid (R10.out.fr D11.out.2 (fun e => HNG.out.2.2.1 e.symm))
      have K11 := Lib.hid (K10.out.fr D11.out.2 (fun e => HGX.out e.symm))
      have F11 := Lib.hid (show Fr (fun j => j = g) y4 yd from ((Fr.of_below HBY.out).mono (fun k (hk : False) => hk.elim)).trans D11.out.2)
      have A11 := Lib.hid (show R9.CAt yd g F ts 0 0 from D11.out.1)
      have HRO := Lib.hid (show R9o F 0 N.U Wd Bu Li t' from ⟨HNU.out.2.2.2.2, by have h1 := HFB.out; have h2 := HT'.out; omega, by omega, by have h2 := HT'.out; omega⟩)
      clear D11 HCA G10 R10 K10
      have CRm := Lib.hid (fun wx => HRO.out.room (x1 := Sl) (x2 := Ce) (x3 := kR) (x4 := Wi) (x5 := Tr) (sm := smm) wx)
      have CWt := Lib.hid (fun wx => HRO.out.wait (x1 := Sl) (x2 := Ce) (x3 := kR) (x4 := Wi) (x5 := Tr) (sm := smm) (cost := q) HQB.out wx)
      rw [← HTS.out] at CRm CWt
      have hex : exA F N.U Bu t' q = (if q ≤ baseP F N.U Bu t' then 1 else 2, baseP F N.U Bu t', exW F N.U Bu t' q) := rfl
      have hez := exW_zero (F := F) (t := t') (cost := q) HNU.out.2.2.2.2.ub.1 HQB.out
      have hel := exW_lo F N.U Bu t' q
      obtain ⟨bs, hbs⟩ : ∃ z, z = baseP F N.U Bu t' := ⟨_, rfl⟩
      obtain ⟨wt, hwt⟩ : ∃ z, z = exW F N.U Bu t' q := ⟨_, rfl⟩
      rw [← hbs] at CRm hex hez
      rw [← hwt] at CWt hex hez hel
      have HBW := Lib.hid (And.intro hbs (And.intro hwt (And.intro hez hel)))
      obtain ⟨vv, hvv⟩ : ∃ z : Int, z = if q ≤ bs then 1 else 2 := ⟨_, rfl⟩
      rw [← hvv] at hex
      have HVV := Lib.hid (And.intro hvv hex)
      clear hbs hwt hez hel hvv hex
      go_cut [16] from 38 to 143 (fun s16 wx => ∃ wb : Nat, s16 = .pointer (some ⟨wb, 0, none⟩) ∧ Hid (Blk wx wb 40 #[.int .i64 1, .int .i64 bs, .int .i64 wt]) ∧ Hid (Below yd.heap.size yd wx) ∧ Hid (yd.heap.size ≤ wb))
      case first =>
        have N0 := Lib.hid (show Below yd.heap.size yd yd.drew from below_draws (Below.refl _ _) 1)
        have ST := Lib.hid (fun wx (hb : Below yd.heap.size yd wx) => show (∀ j, wx.cell? ⟨g, j, none⟩ = (#[.int .i64 F, .int .i64 ts, .int .i64 0, .int .i64 0] : Array Value)[j]?) ∧ (∀ j, wx.cell? ⟨rb, j, none⟩ = (#[.int .i64 Li, .int .i64 Wd, .int .i64 Bu, .int .i64 Sl, .int .i64 Ce, .int .i64 kR, .int .i64 Wi, .int .i64 Tr, .bool smm] : Array Value)[j]?) from ⟨(Blk.keep A11.out hb).rd, (R11.out.keep hb).rd⟩)
        have st := ST.out _ N0.out
        refine wp_region_held_drew (S := fun wx => (∀ j, wx.cell? ⟨g, j, none⟩ = (#[.int .i64 F, .int .i64 ts, .int .i64 0, .int .i64 0] : Array Value)[j]?) ∧ (∀ j, wx.cell? ⟨rb, j, none⟩ = (#[.int .i64 Li, .int .i64 Wd, .int .i64 Bu, .int .i64 Sl, .int .i64 Ce, .int .i64 kR, .int .i64 Wi, .int .i64 Tr, .bool smm] : Array Value)[j]?)) (by kernel_rfl) st (fun hHeld => ?_)
        obtain ⟨W0, hW0⟩ : ∃ z, z = yd.drew := ⟨_, rfl⟩
        rw [← hW0] at N0 hHeld ⊢
        clear st hW0
        refine ht_take [0, 1, 2, 3, 4, 6, 7, 8, 9, 10, 11] (n := 11) rfl (by kernel_rfl) (by kernel_rfl) (by assumption) (by simp only [htSet, List.setIfInBounds_toArray, List.set_cons_zero, List.set_cons_succ]; rfl) ?_
        iterate 11
          refine HTl.cons (oi := ?_) (v := ?_) ?_ ?_ ?_ ?_
          rotate_left 2
          · simp only [List.getElem?_toArray, List.getElem?_cons_succ, List.getElem?_cons_zero]; rfl
          · exact fun _ _ _ h => h
          · refine Or.inl ⟨by rfl, ?_⟩
            intro w' hSw
            (try dsimp only at hSw)
            go_simp
            all_goals (with_reducible rfl)
          try simp only [Act.put, List.setIfInBounds_toArray, List.set_cons_zero, List.set_cons_succ]
        refine HTl.nil ?_
        refine wpAnyH_ready (rs := [5, 14]) (by kernel_rfl) (by simp) ?_
        refine AllReadyH.cons (o := ?_) ?_ ?_ ?_
        rotate_left 1
        · simp only [List.getElem?_toArray, List.getElem?_cons_succ, List.getElem?_cons_zero]; rfl
        focus
          intro K hK
          go_simp
          ((with_reducible refine (CRm.out _).mono ?_); rintro v W1 ⟨rfl, be⟩; have N1 := Lib.hid (G.below_on N0.out be); clear be)
          refine hK.out _ _ (ST.out _ N1.out) (fun hHeld => ?_)
          clear hK K
          try simp only [Act.put, List.setIfInBounds_toArray, List.set_cons_zero, List.set_cons_succ]
          refine wpAnyH_ready (rs := [12, 14]) (by kernel_rfl) (by simp) ?_
          refine AllReadyH.cons (o := ?_) ?_ ?_ ?_
          rotate_left 1
          · simp only [List.getElem?_toArray, List.getElem?_cons_succ, List.getElem?_cons_zero]; rfl
          focus
            intro K hK
            go_simp
            ((with_reducible refine (CWt.out _).mono ?_); rintro v W2 ⟨rfl, be⟩; have N2 := Lib.hid (G.below_on N1.out be); clear be)
            refine hK.out _ _ (ST.out _ N2.out) (fun hHeld => ?_)
            clear hK K
            try simp only [Act.put, List.setIfInBounds_toArray, List.set_cons_zero, List.set_cons_succ]
            refine wpAnyH_take (i := 13) (oi := ?_) (v := ?_) ?_ ?_ ?_ ?_ ?_ ?_ ?_ ?_
            rotate_left 2
            · simp only [List.getElem?_toArray, List.getElem?_cons_succ, List.getElem?_cons_zero]; rfl
            · kernel_rfl
            · kernel_rfl
            · kernel_rfl
            · exact fun _ _ _ h => h
            · refine Or.inl ⟨by rfl, ?_⟩
              intro w' hSw
              (try dsimp only at hSw)
              go_simp
              all_goals (with_reducible rfl)
            · assumption
            try simp only [Act.put, List.setIfInBounds_toArray, List.set_cons_zero, List.set_cons_succ]
            refine wpAnyH_ready (rs := [14]) (by kernel_rfl) (by simp) ?_
            refine AllReadyH.cons (o := ?_) ?_ ?_ ?_
            rotate_left 1
            · simp only [List.getElem?_toArray, List.getElem?_cons_succ, List.getElem?_cons_zero]; rfl
            rotate_left 1
            · exact AllReadyH.nil
            intro K hK
            go_simp
            (obtain ⟨W3, hw, kb, lb, sb⟩ := box_new W2 #[.int .i64 0, .int .i64 0, .int .i64 0] 40; rw [hw]; obtain ⟨wb, hwb⟩ : ∃ z, z = W2.heap.size := ⟨_, rfl⟩; rw [← hwb] at kb ⊢; have N3 := Lib.hid (G.below_on N2.out lb); have A3 := Lib.hid kb; have HWB := Lib.hid (show yd.heap.size ≤ wb from by rw [hwb]; exact N2.out.size); clear hw kb lb sb hwb)
            refine hK.out _ _ (ST.out _ N3.out) (fun hHeld => ?_)
            clear hK K
            try simp only [Act.put, List.setIfInBounds_toArray, List.set_cons_zero, List.set_cons_succ]
            have ke := A3.out.rd
            have kew := A3.out.wr
            refine wpAnyH_ready (rs := [15]) (by kernel_rfl) (by simp) ?_
            refine AllReadyH.cons (o := ?_) ?_ ?_ ?_
            rotate_left 1
            · simp only [List.getElem?_toArray, List.getElem?_cons_succ, List.getElem?_cons_zero]; rfl
            rotate_left 1
            · exact AllReadyH.nil
            intro K hK
            go_simp
            (rw [three_setC A3.out]; have f4 := Fr.setObj (F := fun b => b = wb) (Fr.refl _ W3) rfl (.cells #[.int .i64 1, .int .i64 bs, .int .i64 wt] 40 (0, 0)); have k4 : Blk (setObj W3 wb (.cells #[.int .i64 1, .int .i64 bs, .int .i64 wt] 40 (0, 0))) wb 40 #[.int .i64 1, .int .i64 bs, .int .i64 wt] := setObj_at (lt_of_block A3.out) _; generalize setObj W3 wb (.cells #[.int .i64 1, .int .i64 bs, .int .i64 wt] 40 (0, 0)) = W4 at f4 k4 ⊢; have N4 := Lib.hid (N3.out.trans (f4.below N3.out.size (fun k e => by rw [e]; exact HWB.out))); have A4 := Lib.hid k4; clear f4 k4 ke kew)
            refine hK.out _ _ (ST.out _ N4.out) (fun hHeld => ?_)
            clear hK K
            try simp only [Act.put, List.setIfInBounds_toArray, List.set_cons_zero, List.set_cons_succ]
            refine wpAnyH_done (by kernel_rfl) ?_ _
            clear hHeld
            go_wp2
            go_meet
            case rel => exact ⟨wb, rfl, A4, N4, HWB⟩
          rotate_left
          focus
            refine AllReadyH.cons (o := ?_) ?_ ?_ ?_
            rotate_left 1
            · simp only [List.getElem?_toArray, List.getElem?_cons_succ, List.getElem?_cons_zero]; rfl
            rotate_left 1
            · exact AllReadyH.nil
            intro K hK
            go_simp
            (obtain ⟨W2, hw, kb, lb, sb⟩ := box_new W1 #[.int .i64 0, .int .i64 0, .int .i64 0] 40; rw [hw]; obtain ⟨wb, hwb⟩ : ∃ z, z = W1.heap.size := ⟨_, rfl⟩; rw [← hwb] at kb ⊢; have N2 := Lib.hid (G.below_on N1.out lb); have A2 := Lib.hid kb; have HWB := Lib.hid (show yd.heap.size ≤ wb from by rw [hwb]; exact N1.out.size); clear hw kb lb sb hwb)
            refine hK.out _ _ (ST.out _ N2.out) (fun hHeld => ?_)
            clear hK K
            try simp only [Act.put, List.setIfInBounds_toArray, List.set_cons_zero, List.set_cons_succ]
            refine wpAnyH_ready (rs := [12]) (by kernel_rfl) (by simp) ?_
            refine AllReadyH.cons (o := ?_) ?_ ?_ ?_
            rotate_left 1
            · simp only [List.getElem?_toArray, List.getElem?_cons_succ, List.getElem?_cons_zero]; rfl
            rotate_left 1
            · exact AllReadyH.nil
            intro K hK
            go_simp
            ((with_reducible refine (CWt.out _).mono ?_); rintro v W3 ⟨rfl, be⟩; have N3 := Lib.hid (G.below_on N2.out be); have A3 := Lib.hid (A2.out.keep be); clear be)
            refine hK.out _ _ (ST.out _ N3.out) (fun hHeld => ?_)
            clear hK K
            try simp only [Act.put, List.setIfInBounds_toArray, List.set_cons_zero, List.set_cons_succ]
            refine wpAnyH_take (i := 13) (oi := ?_) (v := ?_) ?_ ?_ ?_ ?_ ?_ ?_ ?_ ?_
            rotate_left 2
            · simp only [List.getElem?_toArray, List.getElem?_cons_succ, List.getElem?_cons_zero]; rfl
            · kernel_rfl
            · kernel_rfl
            · kernel_rfl
            · exact fun _ _ _ h => h
            · refine Or.inl ⟨by rfl, ?_⟩
              intro w' hSw
              (try dsimp only at hSw)
              go_simp
              all_goals (with_reducible rfl)
            · assumption
            try simp only [Act.put, List.setIfInBounds_toArray, List.set_cons_zero, List.set_cons_succ]
            have ke := A3.out.rd
            have kew := A3.out.wr
            refine wpAnyH_ready (rs := [15]) (by kernel_rfl) (by simp) ?_
            refine AllReadyH.cons (o := ?_) ?_ ?_ ?_
            rotate_left 1
            · simp only [List.getElem?_toArray, List.getElem?_cons_succ, List.getElem?_cons_zero]; rfl
            rotate_left 1
            · exact AllReadyH.nil
            intro K hK
            go_simp
            (rw [three_setC A3.out]; have f4 := Fr.setObj (F := fun b => b = wb) (Fr.refl _ W3) rfl (.cells #[.int .i64 1, .int .i64 bs, .int .i64 wt] 40 (0, 0)); have k4 : Blk (setObj W3 wb (.cells #[.int .i64 1, .int .i64 bs, .int .i64 wt] 40 (0, 0))) wb 40 #[.int .i64 1, .int .i64 bs, .int .i64 wt] := setObj_at (lt_of_block A3.out) _; generalize setObj W3 wb (.cells #[.int .i64 1, .int .i64 bs, .int .i64 wt] 40 (0, 0)) = W4 at f4 k4 ⊢; have N4 := Lib.hid (N3.out.trans (f4.below N3.out.size (fun k e => by rw [e]; exact HWB.out))); have A4 := Lib.hid k4; clear f4 k4 ke kew)
            refine hK.out _ _ (ST.out _ N4.out) (fun hHeld => ?_)
            clear hK K
            try simp only [Act.put, List.setIfInBounds_toArray, List.set_cons_zero, List.set_cons_succ]
            refine wpAnyH_done (by kernel_rfl) ?_ _
            clear hHeld
            go_wp2
            go_meet
            case rel => exact ⟨wb, rfl, A4, N4, HWB⟩
        rotate_left
        focus
          refine AllReadyH.cons (o := ?_) ?_ ?_ ?_
          rotate_left 1
          · simp only [List.getElem?_toArray, List.getElem?_cons_succ, List.getElem?_cons_zero]; rfl
          rotate_left 1
          · exact AllReadyH.nil
          intro K hK
          go_simp
          (obtain ⟨W1, hw, kb, lb, sb⟩ := box_new W0 #[.int .i64 0, .int .i64 0, .int .i64 0] 40; rw [hw]; obtain ⟨wb, hwb⟩ : ∃ z, z = W0.heap.size := ⟨_, rfl⟩; rw [← hwb] at kb ⊢; have N1 := Lib.hid (G.below_on N0.out lb); have A1 := Lib.hid kb; have HWB := Lib.hid (show yd.heap.size ≤ wb from by rw [hwb]; exact N0.out.size); clear hw kb lb sb hwb)
          refine hK.out _ _ (ST.out _ N1.out) (fun hHeld => ?_)
          clear hK K
          try simp only [Act.put, List.setIfInBounds_toArray, List.set_cons_zero, List.set_cons_succ]
          refine wpAnyH_ready (rs := [5]) (by kernel_rfl) (by simp) ?_
          refine AllReadyH.cons (o := ?_) ?_ ?_ ?_
          rotate_left 1
          · simp only [List.getElem?_toArray, List.getElem?_cons_succ, List.getElem?_cons_zero]; rfl
          rotate_left 1
          · exact AllReadyH.nil
          intro K hK
          go_simp
          ((with_reducible refine (CRm.out _).mono ?_); rintro v W2 ⟨rfl, be⟩; have N2 := Lib.hid (G.below_on N1.out be); have A2 := Lib.hid (A1.out.keep be); clear be)
          refine hK.out _ _ (ST.out _ N2.out) (fun hHeld => ?_)
          clear hK K
          try simp only [Act.put, List.setIfInBounds_toArray, List.set_cons_zero, List.set_cons_succ]
          refine wpAnyH_ready (rs := [12]) (by kernel_rfl) (by simp) ?_
          refine AllReadyH.cons (o := ?_) ?_ ?_ ?_
          rotate_left 1
          · simp only [List.getElem?_toArray, List.getElem?_cons_succ, List.getElem?_cons_zero]; rfl
          rotate_left 1
          · exact AllReadyH.nil
          intro K hK
          go_simp
          ((with_reducible refine (CWt.out _).mono ?_); rintro v W3 ⟨rfl, be⟩; have N3 := Lib.hid (G.below_on N2.out be); have A3 := Lib.hid (A2.out.keep be); clear be)
          refine hK.out _ _ (ST.out _ N3.out) (fun hHeld => ?_)
          clear hK K
          try simp only [Act.put, List.setIfInBounds_toArray, List.set_cons_zero, List.set_cons_succ]
          refine wpAnyH_take (i := 13) (oi := ?_) (v := ?_) ?_ ?_ ?_ ?_ ?_ ?_ ?_ ?_
          rotate_left 2
          · simp only [List.getElem?_toArray, List.getElem?_cons_succ, List.getElem?_cons_zero]; rfl
          · kernel_rfl
          · kernel_rfl
          · kernel_rfl
          · exact fun _ _ _ h => h
          · refine Or.inl ⟨by rfl, ?_⟩
            intro w' hSw
            (try dsimp only at hSw)
            go_simp
            all_goals (with_reducible rfl)
          · assumption
          try simp only [Act.put, List.setIfInBounds_toArray, List.set_cons_zero, List.set_cons_succ]
          have ke := A3.out.rd
          have kew := A3.out.wr
          refine wpAnyH_ready (rs := [15]) (by kernel_rfl) (by simp) ?_
          refine AllReadyH.cons (o := ?_) ?_ ?_ ?_
          rotate_left 1
          · simp only [List.getElem?_toArray, List.getElem?_cons_succ, List.getElem?_cons_zero]; rfl
          rotate_left 1
          · exact AllReadyH.nil
          intro K hK
          go_simp
          (rw [three_setC A3.out]; have f4 := Fr.setObj (F := fun b => b = wb) (Fr.refl _ W3) rfl (.cells #[.int .i64 1, .int .i64 bs, .int .i64 wt] 40 (0, 0)); have k4 : Blk (setObj W3 wb (.cells #[.int .i64 1, .int .i64 bs, .int .i64 wt] 40 (0, 0))) wb 40 #[.int .i64 1, .int .i64 bs, .int .i64 wt] := setObj_at (lt_of_block A3.out) _; generalize setObj W3 wb (.cells #[.int .i64 1, .int .i64 bs, .int .i64 wt] 40 (0, 0)) = W4 at f4 k4 ⊢; have N4 := Lib.hid (N3.out.trans (f4.below N3.out.size (fun k e => by rw [e]; exact HWB.out))); have A4 := Lib.hid k4; clear f4 k4 ke kew)
          refine hK.out _ _ (ST.out _ N4.out) (fun hHeld => ?_)
          clear hK K
          try simp only [Act.put, List.setIfInBounds_toArray, List.set_cons_zero, List.set_cons_succ]
          refine wpAnyH_done (by kernel_rfl) ?_ _
          clear hHeld
          go_wp2
          go_meet
          case rel => exact ⟨wb, rfl, A4, N4, HWB⟩
      case rest =>
      obtain ⟨wb, rfl, W12, HB12, HWBX⟩ := hcut
      obtain ⟨ye, rfl⟩ : ∃ z, z = wc := ⟨_, rfl⟩
      have G12 := Lib.hid (G11.out.keep HB12.out)
      have R12 := Lib.hid (R11.out.keep HB12.out)
      have K12 := Lib.hid (K11.out.keep HB12.out)
      have A12 := Lib.hid (show R9.CAt ye g F ts 0 0 from Blk.keep A11.out HB12.out)
      have F12 := Lib.hid (show Fr (fun j => j = g) y4 ye from F11.out.trans ((Fr.of_below HB12.out).mono (fun k (hk : False) => hk.elim)))
      have HNW := Lib.hid (show ¬ N.all wb ∧ w.heap.size ≤ wb ∧ wb ≠ rb ∧ wb ≠ mb ∧ wb ≠ g ∧ wb ≠ bx ∧ y4.heap.size ≤ wb from by
        have h1 := HWBX.out
        have h2 := F11.out.size
        exact ⟨fun h => by have := G11.out.at_.lt wb h; omega, by have := G11.out.bl.size; omega, by have := lt_of_block R11.out; omega, by have := M8.out.mp.lt; omega, by have := lt_of_block A11.out; omega, by have := lt_of_block K11.out; omega, by omega⟩)
      clear G11 R11 K11 A11 F11 HB12 HWBX CRm CWt
      have kwb := W12.out.rd
      go_upto_if 95 with (fail)
      clear kwb
      obtain ⟨wp, hwp⟩ : ∃ z, z = decide (0 < wt) := ⟨_, rfl⟩
      rw [← hwp]
      have HWP := Lib.hid hwp
      clear hwp
      go_cut [] from 38 to 143 (fun wx => Hid (Blk wx wb 40 #[.int .i64 vv, .int .i64 bs, .int .i64 wt]) ∧ Hid (Fr (fun j => j = wb) ye wx))
      case first =>
        by_cases h0 : 0 < wt
        · have d0 : wp = true := by rw [HWP.out, decide_eq_true_iff]; exact h0
          subst d0
          obtain ⟨yf, ef, kf, ff⟩ := set1a W12.out (.int .i64 2)
          have hv2 : vv = 2 := by rw [HVV.out.1, if_neg]; intro h; have := HBW.out.2.2.1.1 h; omega
          have KF := Lib.hid (And.intro kf ff)
          have kwb := W12.out.rd
          have kww := W12.out.wr
          clear h0 kf ff
          go_wp2
          go_meet
          case rel => (try rw [ef]); rw [hv2]; exact ⟨Lib.hid KF.out.1, Lib.hid KF.out.2⟩
        · have d0 : wp = false := by rw [HWP.out, decide_eq_false_iff_not]; exact h0
          subst d0
          have hv1 : vv = 1 := by rw [HVV.out.1, if_pos]; have := HBW.out.2.2.2; exact HBW.out.2.2.1.2 (by omega)
          clear h0
          go_wp2
          go_meet
          case rel => rw [hv1]; exact ⟨W12, Lib.hid (Fr.refl _ _)⟩
      case rest =>
      obtain ⟨W13, F13⟩ := hcut
      have G13 := Lib.hid (G12.out.frZ F13.out (fun k e => by rw [e]; exact ⟨HNW.out.1, HNW.out.2.1⟩))
      have R13 := Lib.hid (R12.out.fr F13.out (fun e => HNW.out.2.2.1 e.symm))
      have K13 := Lib.hid (K12.out.fr F13.out (fun e => HNW.out.2.2.2.2.2.1 e.symm))
      have A13 := Lib.hid (show R9.CAt wc g F ts 0 0 from Blk.fr A12.out F13.out (fun e => HNW.out.2.2.2.2.1 e.symm))
      have FY := Lib.hid (show Fr (fun j => j = g) y4 wc from Fr.drop_new ((F12.out.mono (fun k hk => Or.inl hk)).trans (F13.out.mono (fun k hk => Or.inr hk))) HNW.out.2.2.2.2.2.2)
      have M13 := Lib.hid (show GapM wc mb base c V Gm from M8.out.touch HV.out HF.out FY.out A13.out)
      have HXT := Lib.hid (show HG8.out.I = HG8.out.I from rfl)
      clear W12 F12 G12 R12 K12 A12 F13 HXT
      obtain ⟨yg, rfl⟩ : ∃ z, z = wc := ⟨_, rfl⟩
      have kc := K13.out.rd
      cases pk with
      | true =>
        have CPk := Lib.hid (fun wx hx => lmpeekI (N := N) (s := s) t' 0 ky q (by have := HKY.out; unfold maxLen; omega) (by unfold inR; omega) (by have := HQ.out; unfold inR; omega) wx hx G13.out.I)
        have PI := Lib.hid (G13.out.I.peeked (N := N) 0 q)
        have PX := Lib.hid (HX.out.peeked G13.out.I 0 q)
        have hpe : s.peek N t' 0 ky q = (vv, bs, wt) := by
          rw [HX.out.peek HLN.out G13.out.I HNU.out.2.2.2.1 (by have := HT'.out; omega) ky (by rw [HPB.out.2.1]; exact HQB.out), ← HF.out, HPB.out.2.1]
          exact HVV.out.2
        rw [hpe] at CPk
        obtain ⟨s1, hs1⟩ : ∃ x, x = s.peeked N t' 0 q := ⟨_, rfl⟩
        rw [← hs1] at CPk PI PX
        clear hpe hs1
        go_upto_region 24 with (fail)
        clear kc
        have heq : ∀ w, (Op.equalIn 10000 40 (.agg #[.int .i64 vv, .int .i64 bs, .int .i64 wt]) (.agg #[.int .i64 vv, .int .i64 bs, .int .i64 wt])).run Tryz.prog w = .ok true w := fun w => by rw [answer_equal]; simp
        have N0 := Lib.hid (show Below yg.heap.size yg yg.drew from below_draws (Below.refl _ _) 1)
        have ST := Lib.hid (fun wx (hk : Blk wx bx 36 #[.int .i64 gp, .int .i64 cs, .string ky, .bool true]) (hw : Blk wx wb 40 #[.int .i64 vv, .int .i64 bs, .int .i64 wt]) => show (∀ j, wx.cell? ⟨bx, j, none⟩ = (#[.int .i64 gp, .int .i64 cs, .string ky, .bool true] : Array Value)[j]?) ∧ (∀ j, wx.cell? ⟨wb, j, none⟩ = (#[.int .i64 vv, .int .i64 bs, .int .i64 wt] : Array Value)[j]?) from ⟨hk.rd, hw.rd⟩)
        have st := ST.out _ (K13.out.keep N0.out) (W13.out.keep N0.out)
        refine wp_region_held_drew (S := fun wx => (∀ j, wx.cell? ⟨bx, j, none⟩ = (#[.int .i64 gp, .int .i64 cs, .string ky, .bool true] : Array Value)[j]?) ∧ (∀ j, wx.cell? ⟨wb, j, none⟩ = (#[.int .i64 vv, .int .i64 bs, .int .i64 wt] : Array Value)[j]?)) (by kernel_rfl) st (fun hHeld => ?_)
        clear st
        refine ht_take [0, 1, 2, 3, 4, 6] (n := 6) rfl (by kernel_rfl) (by kernel_rfl) (by assumption) (by simp only [htSet, List.setIfInBounds_toArray, List.set_cons_zero, List.set_cons_succ]; rfl) ?_
        iterate 6
          refine HTl.cons (oi := ?_) (v := ?_) ?_ ?_ ?_ ?_
          rotate_left 2
          · simp only [List.getElem?_toArray, List.getElem?_cons_succ, List.getElem?_cons_zero]; rfl
          · exact fun _ _ _ h => h
          · refine Or.inl ⟨by rfl, ?_⟩
            intro w' hSw
            (try dsimp only at hSw)
            go_simp
            all_goals (with_reducible rfl)
          try simp only [Act.put, List.setIfInBounds_toArray, List.set_cons_zero, List.set_cons_succ]
        refine HTl.nil ?_
        refine wpAnyH_ready (rs := [5]) (by kernel_rfl) (by simp) ?_
        refine AllReadyH.cons (o := ?_) ?_ ?_ ?_
        rotate_left 1
        · simp only [List.getElem?_toArray, List.getElem?_cons_succ, List.getElem?_cons_zero]; rfl
        rotate_left 1
        · exact AllReadyH.nil
        intro K hK
        go_simp
        ((with_reducible refine (CPk.out _ (G13.out.at_.keep N0.out)).mono ?_); rintro e' y5 ⟨rfl, a5, f5⟩; have G14 := Lib.hid ((G13.out.keep N0.out).op a5 PI.out f5 (fun b hb => Or.inl hb)); have K14 := Lib.hid ((K13.out.keep N0.out).fr f5 (fun hh => HBX.out.1 (Or.inl hh))); have R14 := Lib.hid ((R13.out.keep N0.out).fr f5 (fun hh => NR7.out (Or.inl hh))); have W14 := Lib.hid ((W13.out.keep N0.out).fr f5 (fun hh => HNW.out.1 (Or.inl hh))); have M14 := Lib.hid ((M13.out.keep N0.out).fr f5 (fun k hk => ⟨by have := HMB.out.1 k (Or.inl hk); omega, by have h1 := HMB.out.1 k (Or.inl hk); have h2 := HBS.out; omega⟩)); clear a5 f5)
        refine hK.out _ _ (ST.out _ K14.out W14.out) (fun hHeld => ?_)
        clear hK K
        try simp only [Act.put, List.setIfInBounds_toArray, List.set_cons_zero, List.set_cons_succ]
        refine wpAnyH_take (i := 7) (oi := ?_) (v := ?_) ?_ ?_ ?_ ?_ ?_ ?_ ?_ ?_
        rotate_left 2
        · simp only [List.getElem?_toArray, List.getElem?_cons_succ, List.getElem?_cons_zero]; rfl
        · kernel_rfl
        · kernel_rfl
        · kernel_rfl
        · exact fun _ _ _ h => h
        · refine Or.inl ⟨by rfl, ?_⟩
          intro w' hSw
          (try dsimp only at hSw)
          go_simp
          all_goals (with_reducible rfl)
        · assumption
        try simp only [Act.put, List.setIfInBounds_toArray, List.set_cons_zero, List.set_cons_succ]
        refine wpAnyH_done (by kernel_rfl) ?_ _
        clear hHeld CPk heq
        go_wp2
        go_roundg (n2 - (i + 1))
        case measure => have := HKK.out; have := HIN.out; omega
        case rel => exact ⟨i + 1, t', s1, c, V, Gm, HIN.out, Lib.hid rfl, by go_num, rfl, Lib.hid (by have := HT'.out; omega), Lib.hid (G14.out.mono (by have := HT'.out; omega) (by omega)), R14, PX, M14, Lib.hid (by have := HC.out; omega)⟩
      | false =>
        have HGV := Lib.hid (show (V ky).isSome = (Gm ky).isSome from by
          cases hv : V ky with
          | none => rw [M13.out.no ky hv]; rfl
          | some v => obtain ⟨_, _, _, _, _, e2, _, _⟩ := M13.out.row ky v hv; rw [e2]; rfl)
        have hlen := M13.out.mp.len Tryz.underlying58
        have kr := R13.out.rd
        have HCE := Lib.hid (show N.Q.N.n = lqC e ∧ Ce = ((lqC e : Nat) : Int) from ⟨HNU.out.2.2.1, HP.out.2.2.2.2.1⟩)
        by_cases hfull : fr = true ∧ c = lqC e
        · obtain ⟨hfr, hce⟩ := hfull
          subst hfr
          have e1 : ((c : Int) == Ce) = true := by rw [HCE.out.2, hce]; simp
          clear hce
          go_wp2
          go_ret
          exact ⟨rfl, G13.out.bl⟩
        have HRM := Lib.hid (show Gm ky ≠ none ∨ c < N.Q.N.n from by
          have hc1 : c ≤ N.Q.N.n := by have := HX.out.ct; omega
          rw [HCE.out.1] at hc1 ⊢
          by_cases h : V ky = none
          · have hfr := HFR.out.2 h
            by_cases hce : c = lqC e
            · exact absurd ⟨hfr, hce⟩ hfull
            · exact Or.inr (by omega)
          · refine Or.inl (fun hG => h ?_)
            have := HGV.out
            rw [hG] at this
            cases hv : V ky with
            | none => rfl
            | some v => rw [hv] at this; cases this)
        have HC1 := Lib.hid (show c < maxLen from by have h1 := HC.out; have h2 := HIN.out; unfold maxLen; omega)
        cases fr
        rotate_left
        focus
          have e1 : ((c : Int) == Ce) = false := by
            have : c ≠ lqC e := fun h => hfull ⟨rfl, h⟩
            rw [HCE.out.2]; simp; omega
          clear hfull
          go_upto_region 28 with (fail)
          clear e1
        rotate_left
        focus
          clear hfull
          go_upto_region 28 with (fail)
        rotate_left
        all_goals
          clear hlen kr kc
          obtain ⟨z1, hst, m1, f1⟩ := M13.out.mp.store Tryz.underlying9 Tryz.underlying58 HC1.out (s := ky) (by have := HKY.out; unfold maxLen; omega) (pcV g)
          have MM := Lib.hid m1
          have FF := Lib.hid f1
          clear m1 f1
          have kc := K13.out.rd
          go_upto_region 29 with (fail)
          clear hst kc
          have HMN := Lib.hid (show ¬ N.all mb ∧ w.heap.size ≤ mb from ⟨fun h => by have := HMB.out.1 mb h; omega, HMB.out.2.1⟩)
          have G14 := Lib.hid (G13.out.frZ FF.out (fun k e => by rw [e]; exact HMN.out))
          have R14 := Lib.hid (R13.out.fr FF.out (fun e => by have := HMB.out.2.2; omega))
          have HXM := Lib.hid (show bx ≠ mb from fun e => by have h2 := HBS.out; have h3 := HGE.out; omega)
          have K14 := Lib.hid (K13.out.fr FF.out HXM.out)
          have W14 := Lib.hid (W13.out.fr FF.out HNW.out.2.2.2.1)
          have CTk := Lib.hid (HRO.out.take (x1 := Sl) (x2 := Ce) (x3 := kR) (x4 := Wi) (x5 := Tr) (sm := smm) (cost := q) (by have h1 := HFB.out; have h2 := HT'.out; omega) HQB.out g z1 (show R9.CAt z1 g F (t' - Wd) 0 0 from by rw [← HTS.out]; exact Blk.fr A13.out FF.out HNG.out.2.2.2))
          rw [← HTS.out] at CTk
          obtain ⟨F1, hF1⟩ : ∃ z, z = exF F N.U Bu t' q := ⟨_, rfl⟩
          rw [← hF1] at CTk
          have HF1 := Lib.hid hF1
          clear hF1
          have kr := R14.out.rd
          go_upto_region 30 with (go_at_call 33; ((with_reducible refine CTk.out.mono ?_); rintro v z2 ⟨bb, D1, rfl, a2, ro2, f2⟩; have G15 := Lib.hid (G14.out.frZ f2 (fun k e => by rw [e]; exact ⟨HNG.out.1, HNG.out.2.1⟩)); have R15 := Lib.hid (R14.out.fr f2 (fun e => HNG.out.2.2.1 e.symm)); have K15 := Lib.hid (K14.out.fr f2 (fun e => HGX.out e.symm)); have W15 := Lib.hid (W14.out.fr f2 HNW.out.2.2.2.2.1); have A15 := Lib.hid a2; have RO15 := Lib.hid ro2; have MM15 := Lib.hid (MM.out.fr f2 (fun e => HNG.out.2.2.2 e.symm)); have F15 := Lib.hid f2; clear a2 ro2 f2))
          clear kr CTk
          have CRm := Lib.hid (fun wx => RO15.out.room (x1 := Sl) (x2 := Ce) (x3 := kR) (x4 := Wi) (x5 := Tr) (sm := smm) wx)
          rw [← HTS.out] at CRm
          obtain ⟨rm, hrm⟩ : ∃ z, z = baseP F1 N.U Bu t' := ⟨_, rfl⟩
          rw [← hrm] at CRm
          have HRMV := Lib.hid hrm
          clear hrm
          have N0 := Lib.hid (show Below z2.heap.size z2 z2.drew from below_draws (Below.refl _ _) 1)
          have ST := Lib.hid (fun wx (hg : R9.CAt wx g F1 ts 0 D1) (hr : Blk wx rb 29 #[.int .i64 Li, .int .i64 Wd, .int .i64 Bu, .int .i64 Sl, .int .i64 Ce, .int .i64 kR, .int .i64 Wi, .int .i64 Tr, .bool smm]) => show (∀ j, wx.cell? ⟨g, j, none⟩ = (#[.int .i64 F1, .int .i64 ts, .int .i64 0, .int .i64 D1] : Array Value)[j]?) ∧ (∀ j, wx.cell? ⟨rb, j, none⟩ = (#[.int .i64 Li, .int .i64 Wd, .int .i64 Bu, .int .i64 Sl, .int .i64 Ce, .int .i64 kR, .int .i64 Wi, .int .i64 Tr, .bool smm] : Array Value)[j]?) from ⟨(Blk.rd hg), hr.rd⟩)
          have st := ST.out _ (Blk.keep A15.out N0.out) (R15.out.keep N0.out)
          refine wp_region_held_drew (S := fun wx => (∀ j, wx.cell? ⟨g, j, none⟩ = (#[.int .i64 F1, .int .i64 ts, .int .i64 0, .int .i64 D1] : Array Value)[j]?) ∧ (∀ j, wx.cell? ⟨rb, j, none⟩ = (#[.int .i64 Li, .int .i64 Wd, .int .i64 Bu, .int .i64 Sl, .int .i64 Ce, .int .i64 kR, .int .i64 Wi, .int .i64 Tr, .bool smm] : Array Value)[j]?)) (by kernel_rfl) st (fun hHeld => ?_)
          clear st
          refine ht_take [0, 1, 2, 3, 4] (n := 5) rfl (by kernel_rfl) (by kernel_rfl) (by assumption) (by simp only [htSet, List.setIfInBounds_toArray, List.set_cons_zero, List.set_cons_succ]; rfl) ?_
          iterate 5
            refine HTl.cons (oi := ?_) (v := ?_) ?_ ?_ ?_ ?_
            rotate_left 2
            · simp only [List.getElem?_toArray, List.getElem?_cons_succ, List.getElem?_cons_zero]; rfl
            · exact fun _ _ _ h => h
            · refine Or.inl ⟨by rfl, ?_⟩
              intro w' hSw
              (try dsimp only at hSw)
              go_simp
              all_goals (with_reducible rfl)
            try simp only [Act.put, List.setIfInBounds_toArray, List.set_cons_zero, List.set_cons_succ]
          refine HTl.nil ?_
          refine wpAnyH_ready (rs := [5]) (by kernel_rfl) (by simp) ?_
          refine AllReadyH.cons (o := ?_) ?_ ?_ ?_
          rotate_left 1
          · simp only [List.getElem?_toArray, List.getElem?_cons_succ, List.getElem?_cons_zero]; rfl
          rotate_left 1
          · exact AllReadyH.nil
          intro K hK
          go_simp
          ((with_reducible refine (CRm.out _).mono ?_); rintro v z3 ⟨rfl, be⟩; have N1 := Lib.hid (G.below_on N0.out be); have W16 := Lib.hid (W15.out.keep N1.out); have kwr := W16.out.rd; have kww := W16.out.wr; clear be)
          refine hK.out _ _ (ST.out _ (Blk.keep A15.out N1.out) (R15.out.keep N1.out)) (fun hHeld => ?_)
          clear hK K
          try simp only [Act.put, List.setIfInBounds_toArray, List.set_cons_zero, List.set_cons_succ]
          refine wpAnyH_take (i := 6) (oi := ?_) (v := ?_) ?_ ?_ ?_ ?_ ?_ ?_ ?_ ?_
          rotate_left 2
          · simp only [List.getElem?_toArray, List.getElem?_cons_succ, List.getElem?_cons_zero]; rfl
          · kernel_rfl
          · kernel_rfl
          · kernel_rfl
          · exact fun _ _ _ h => h
          · refine Or.inl ⟨by rfl, ?_⟩
            intro w' hSw
            (try dsimp only at hSw)
            go_simp
            all_goals (with_reducible rfl)
          · assumption
          try simp only [Act.put, List.setIfInBounds_toArray, List.set_cons_zero, List.set_cons_succ]
          refine wpAnyH_ready (rs := [7]) (by kernel_rfl) (by simp) ?_
          refine AllReadyH.cons (o := ?_) ?_ ?_ ?_
          rotate_left 1
          · simp only [List.getElem?_toArray, List.getElem?_cons_succ, List.getElem?_cons_zero]; rfl
          rotate_left 1
          · exact AllReadyH.nil
          intro K hK
          go_simp
          (obtain ⟨z4, e4, k4, f4⟩ := set1b W16.out (.int .i64 rm); (try rw [e4]); have W17 := Lib.hid k4; have A17 := Lib.hid (show R9.CAt z4 g F1 ts 0 D1 from Blk.fr (Blk.keep A15.out N1.out) f4 (fun e => HNW.out.2.2.2.2.1 e.symm)); have R17 := Lib.hid ((R15.out.keep N1.out).fr f4 (fun e => HNW.out.2.2.1 e.symm)); have K17 := Lib.hid ((K15.out.keep N1.out).fr f4 (fun e => HNW.out.2.2.2.2.2.1 e.symm)); have G17 := Lib.hid ((G15.out.keep N1.out).frZ f4 (fun k e => by rw [e]; exact ⟨HNW.out.1, HNW.out.2.1⟩)); have MM17 := Lib.hid ((MM15.out.keep N1.out).fr f4 (fun e => HNW.out.2.2.2.1 e.symm)); have F17 := Lib.hid (show Fr (fun j => j = g ∨ j = mb) y4 z4 from Fr.drop_new ((FY.out.mono (fun k hk => Or.inl (Or.inl hk))).trans ((FF.out.mono (fun k hk => Or.inl (Or.inr hk))).trans ((F15.out.mono (fun k hk => Or.inl (Or.inl hk))).trans (((Fr.of_below N1.out).mono (fun k (hk : False) => hk.elim)).trans (f4.mono (fun k hk => Or.inr hk)))))) HNW.out.2.2.2.2.2.2); clear e4 k4 f4 kwr kww)
          refine hK.out _ _ (ST.out _ A17.out R17.out) (fun hHeld => ?_)
          clear hK K
          try simp only [Act.put, List.setIfInBounds_toArray, List.set_cons_zero, List.set_cons_succ]
          refine wpAnyH_done (by kernel_rfl) ?_ _
          clear hHeld CRm
          have M17 := Lib.hid (M8.out.put (k := ky) HV.out MM17.out F17.out A17.out)
          rw [HGV.out] at M17
          have HCC := Lib.hid (show (if (Gm ky).isSome = true then c else c + 1) ≤ i + 1 from by have := HC.out; split <;> omega)
          have CCk := Lib.hid (lmcheckI t' 0 ky q (by have := HKY.out; unfold maxLen; omega) (by unfold inR; omega) (by have := HQ.out; unfold inR; omega) z4 G17.out.at_ G17.out.I (by omega))
          have CI := Lib.hid (G17.out.I.check (by omega) 0 ky q)
          obtain ⟨hx1, hx2⟩ := HX.out.check (cost := q) HLN.out G17.out.I (by have := HT'.out; omega) G17.out.at_.hp.len G17.out.at_.ks ky HKY.out (by rw [HPB.out.2.1]; exact HQB.out) HRM.out
          rw [← HF.out, HPB.out.2.1, ← HF1.out] at hx2
          have hx3 : exC F N.U Bu t' q = (vv, rm, wt) := by
            have h1 := HVV.out.1
            have h2 := HBW.out
            unfold exC
            rw [← HF1.out, ← HRMV.out, ← h2.1, ← h2.2.1, ← h1]
          rw [← HF.out, HPB.out.2.1, hx3] at hx1
          obtain ⟨cc, hcc⟩ : ∃ z, z = if (Gm ky).isSome = true then c else c + 1 := ⟨_, rfl⟩
          rw [← hcc] at M17 HCC hx2
          clear hcc hx3
          obtain ⟨⟨s2, an, ev⟩, hck⟩ : ∃ x, x = s.check N t' 0 ky q := ⟨_, rfl⟩
          rw [← hck] at CCk CI hx1 hx2
          clear hck
          dsimp only at CCk CI hx1 hx2
          subst hx1
          have HX2 := Lib.hid hx2
          clear hx2
          have kc := K17.out.rd
          go_upto_region 32 with (go_at_call 24; go_loud ((with_reducible refine CCk.out.mono ?_); rintro e' y7 ⟨vx, rfl, o7, a7, f7⟩; obtain ⟨x8, y8, ex8, kr8, kw8, ey8, b8, k8⟩ := boxA y7 vv rm wt; have G18 := Lib.hid ((G17.out.op a7 CI.out f7 (fun b hb => hb)).keep b8); have R18 := Lib.hid ((R17.out.fr f7 NR7.out).keep b8); have W18 := Lib.hid ((W17.out.fr f7 HNW.out.1).keep b8); have M18 := Lib.hid ((M17.out.fr f7 (fun k hk => ⟨by have := HMB.out.1 k hk; omega, by have h1 := HMB.out.1 k hk; have h2 := HBS.out; omega⟩)).keep b8); have A18 := Lib.hid k8; clear o7 a7 f7 b8 k8))
          clear CCk ex8 kr8 kw8 ey8 kc
          obtain ⟨ac, hac⟩ : ∃ x, x = y7.heap.size := ⟨_, rfl⟩
          rw [← hac] at A18 ⊢
          clear hac
          have heq : ∀ w, (Op.equalIn 10000 40 (.agg #[.int .i64 vv, .int .i64 rm, .int .i64 wt]) (.agg #[.int .i64 vv, .int .i64 rm, .int .i64 wt])).run Tryz.prog w = .ok true w := fun w => by rw [answer_equal]; simp
          have kac := A18.out.rd
          have kwb := W18.out.rd
          go_wp2
          go_roundg (n2 - (i + 1))
          case measure => have := HKK.out; have := HIN.out; omega
          case rel => exact ⟨i + 1, t', s2, cc, _, _, HIN.out, Lib.hid rfl, by go_num, rfl, Lib.hid (by have := HT'.out; omega), Lib.hid (G18.out.mono (by have := HT'.out; omega) (by omega)), R18, HX2, M18, HCC⟩
    · have hie : i = n2 := by omega
      subst hie
      go_wp2
      go_ret
      exact ⟨rfl, HG.out.bl⟩
end Go.Proofs.YtbgcpljekcagiaaGreat
