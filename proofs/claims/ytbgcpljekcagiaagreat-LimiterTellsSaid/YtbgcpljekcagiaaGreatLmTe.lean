import Derived.Test.YtbgcpljekcagiaaGreatZLmN
import Derived.Test.YtbgcpljekcagiaaGreatZLiftS
/- The law LimiterTells of layer 12 (limiter), walked. -/
namespace Go.Proofs.YtbgcpljekcagiaaGreat
set_option linter.unusedSimpArgs false
set_option linter.unusedVariables false
set_option maxRecDepth 100000
open Go.ChangeShapes Go.WideShapes Go.ChangeAt Go.RowKit
open Ar (inR)
set_option maxRecDepth 100000 in
set_option maxHeartbeats 6000000 in
theorem lmtells_law (w : World) (a b c d e f g h : Int) (sm : Bool) (A : Option Addr) (n c0 : Nat) (zs : List Int) (A2 : Option Addr) (n2 c2 : Nat) (L : List Cl) (hpl : RuleOK a b c d e f g h) (hr : RdI w .u64 A n c0 zs) (hr2 : RdL w A2 n2 c2 4 encCl L) (hok : ∀ a ∈ L, okCl a) :
    Calls Tryz.prog 13 #[planV a b c d e f g h sm, .slice A n c0, .slice A2 n2 c2] w fun e w' => e = .returned (.bool true) ∧ Below w.heap.size w w' := by
  clear hpl
  have hmx2 := hr2.max
  unfold maxLen at hmx2
  have hcp2 := hr2.cap
  have HR2 := Lib.hid hr2
  have HO := Lib.hid hok
  have hmx1 := hr.max
  unfold maxLen at hmx1
  have hcp1 := hr.cap
  have HR1 := Lib.hid hr
  clear hr
  clear hr2 hok
  obtain ⟨w1, hw1, k1, l1', s1⟩ := box_new w (planC a b c d e f g h sm) 23
  obtain ⟨pl, hpl⟩ : ∃ x, x = w.heap.size := ⟨_, rfl⟩
  rw [← hpl] at k1
  have K2 := Lib.hid (And.intro k1 l1')
  have HB := Lib.hid hpl
  clear k1 l1' s1
  go_enter Tryz.func13, Tryz.ntmps13
  go_upto_region 1 with (fail)
  rw [← HB.out]
  clear hw1 hpl
  go_upto_region 3 with (go_at_call 15; ((refine (lmfit_any _).mono ?_); rintro e w3 ⟨rfl, b3⟩; have K3 := Lib.hid (And.intro (K2.out.1.keep b3) (below_in K2.out.2 b3)); clear b3))
  by_cases hn60 : 60 < n
  · have t60 : decide ((60 : Int) < (n : Int)) = true := by rw [decide_eq_true_iff]; omega
    clear hn60
    go_wp2
    go_ret
    exact ⟨rfl, K3.out.2⟩
  have t60 : decide ((60 : Int) < (n : Int)) = false := by rw [decide_eq_false_iff_not]; omega
  clear hn60
  have CLi := Lib.hid (lmlight_any A2 n2 c2 L w3 (HR2.out.below K3.out.2) HO.out)
  cases hlb : lightC L with
  | false =>
    rw [hlb] at CLi
    go_wp2_with (go_at_call 16; ((with_reducible refine CLi.out.mono ?_); rintro e w4 ⟨rfl, b4⟩; have T4 := Lib.hid (below_in K3.out.2 b4); clear b4))
    go_ret
    exact ⟨rfl, T4.out⟩
  | true =>
  rw [hlb] at CLi
  have hlc := lightC_at hlb
  have hlen := hlc.1
  have HLK := Lib.hid hlc.2
  have hln := HR2.out.len
  have hb2 : (n2 : Int) ≤ 150 := by omega
  clear hlb hlen hln hlc
  go_upto_region 5 with (go_at_call 16; ((with_reducible refine CLi.out.mono ?_); rintro e w4 ⟨rfl, b4⟩; have K4 := Lib.hid (And.intro (K3.out.1.keep b4) (below_in K3.out.2 b4)); clear b4))
  clear CLi
  have kp := K4.out.1.rd
  have CRu := Lib.hid (lmrule_any a b c d e f g h sm w4)
  obtain ⟨Li, hLm⟩ : ∃ x, x = lqL a := ⟨_, rfl⟩
  obtain ⟨Wd, hWd⟩ : ∃ x, x = ((lqS b * lqN d : Nat) : Int) := ⟨_, rfl⟩
  obtain ⟨Bu, hBu⟩ : ∃ x, x = lqB a c := ⟨_, rfl⟩
  obtain ⟨Sl, hSl⟩ : ∃ x, x = ((lqN d : Nat) : Int) := ⟨_, rfl⟩
  obtain ⟨Ce, hCe⟩ : ∃ x, x = ((lqC e : Nat) : Int) := ⟨_, rfl⟩
  obtain ⟨kR, hkR⟩ : ∃ x, x = ((lqR f : Nat) : Int) := ⟨_, rfl⟩
  obtain ⟨Wi, hWi⟩ : ∃ x, x = ((lqW g : Nat) : Int) := ⟨_, rfl⟩
  obtain ⟨Tr, hTr⟩ : ∃ x, x = ((lqT h : Nat) : Int) := ⟨_, rfl⟩
  obtain ⟨smm, hsm⟩ : ∃ x, x = lqM sm d := ⟨_, rfl⟩
  rw [← hLm, ← hWd, ← hBu, ← hSl, ← hCe, ← hkR, ← hWi, ← hTr, ← hsm] at CRu
  have CNw := Lib.hid (fun wx (hx : Below w.heap.size w wx) => show Calls Tryz.prog 18 #[rlV Li Wd Bu Sl Ce kR Wi Tr smm, .slice A n c0] wx _ from by rw [hLm, hWd, hBu, hSl, hCe, hkR, hWi, hTr, hsm]; exact lmplan_new a b c d e f g h (lqM sm d) A n c0 zs wx (HR1.out.below hx))
  have HP := Lib.hid (And.intro hLm (And.intro hWd (And.intro hBu (And.intro hSl (And.intro hCe (And.intro hkR (And.intro hWi (And.intro hTr hsm))))))))
  clear hLm hWd hBu hSl hCe hkR hWi hTr hsm
  go_upto_region 6 with (go_at_call 17; ((with_reducible refine CRu.out.mono ?_); rintro e w5 ⟨rfl, b5⟩; obtain ⟨y1, y2, ey1, kr9, kw9, ey2, bl9, kc9⟩ := box9R w5 (.int .i64 Li) (.int .i64 Wd) (.int .i64 Bu) (.int .i64 Sl) (.int .i64 Ce) (.int .i64 kR) (.int .i64 Wi) (.int .i64 Tr) (.bool smm); have K6 := Lib.hid (And.intro kc9 (below_in (below_in K4.out.2 b5) bl9)); clear b5 bl9 kc9))
  clear ey1 kr9 kw9 ey2 kp CRu
  obtain ⟨rb, hrb⟩ : ∃ rb, rb = w5.heap.size := ⟨_, rfl⟩
  rw [← hrb] at K6 ⊢
  clear hrb
  have kru := K6.out.1.rd
  go_upto_region 7 with (go_at_call 18; ((with_reducible refine (CNw.out _ K6.out.2).mono ?_); rintro v w7 ⟨N, rfl, a7, p7, n7, b7⟩; have P7 := Lib.hid p7; have G7 := Lib.hid (show LmLaw w w7 N (lmZ (lqC e)) 0 0 from ⟨a7, lmplan_I a7 p7, fun b hb => Nat.le_trans K6.out.2.size (n7 b hb), below_in K6.out.2 b7⟩); have R7 := Lib.hid (K6.out.1.keep b7); have NR7 := Lib.hid (show ¬ N.all rb from fun hb => by have := n7 rb hb; have := lt_of_block K6.out.1; omega); clear a7 p7 n7 b7))
  clear CNw kru
  have HPB := Lib.hid (show LmB N ∧ N.B = Bu ∧ 1 ≤ Bu ∧ Bu ≤ 32 from by rw [HP.out.2.2.1]; exact lmplan_B P7.out)
  go_wp2
  go_loopg [33, 9] n2 (fun kk si sn wr => ∃ (i : Nat) (t : Int) (s : LmS), i ≤ n2 ∧ Hid (kk = n2 - i) ∧ si = .int .i64 (i : Int) ∧ sn = .int .i64 t ∧ Hid (0 ≤ t ∧ t ≤ 1023 * (i : Int)) ∧ Hid (LmLaw w wr N s t (2097153 * (i : Int))) ∧ Hid (Blk wr rb 29 #[.int .i64 Li, .int .i64 Wd, .int .i64 Bu, .int .i64 Sl, .int .i64 Ce, .int .i64 kR, .int .i64 Wi, .int .i64 Tr, .bool smm]))
  case atStart => exact ⟨0, 0, _, by omega, Lib.hid rfl, rfl, rfl, Lib.hid (by omega), G7, R7⟩
  case round =>
    obtain ⟨i, t, s, hi, HKK, rfl, rfl, HT, HG, HRB⟩ := hrel
    by_cases hin : i < n2
    · have hl2 := HR2.out.len
      obtain ⟨b', off, rfl, hbl, hcl⟩ := (HR2.out.below HG.out.bl).at_ (by omega)
      obtain ⟨⟨gp, cs, ky, pk⟩, ha⟩ : ∃ a, L[i]? = some a := ⟨_, List.getElem?_eq_getElem (by omega)⟩
      have HKY := Lib.hid (HLK.out _ (List.mem_of_getElem? ha))
      have hky : ky.size ≤ 64 := HKY.out
      have HCS := Lib.hid (HO.out _ (List.mem_of_getElem? ha))
      have kr0 : wr.cell? ⟨b', off + i * 4, none⟩ = some (.int .i64 gp) := hcl i _ ha 0 (by omega)
      have kr1 : wr.cell? ⟨b', off + i * 4 + 1, none⟩ = some (.int .i64 cs) := hcl i _ ha 1 (by omega)
      have kr2 : wr.cell? ⟨b', off + i * 4 + 2, none⟩ = some (.string ky) := hcl i _ ha 2 (by omega)
      have kr3 : wr.cell? ⟨b', off + i * 4 + 3, none⟩ = some (.bool pk) := hcl i _ ha 3 (by omega)
      obtain ⟨y1, y2, ey1, kr, kw, ey2, bl2, kc2⟩ := box4C wr (.int .i64 gp) (.int .i64 cs) (.string ky) (.bool pk)
      have G6 := Lib.hid (HG.out.keep bl2)
      obtain ⟨bx, hbx⟩ : ∃ bx, bx = wr.heap.size := ⟨_, rfl⟩
      have HBX := Lib.hid (show (¬ N.all bx) ∧ w.heap.size ≤ bx ∧ bx < y2.heap.size from ⟨fun hh => by have := HG.out.at_.lt bx hh; omega, by have := HG.out.bl.size; omega, by have := lt_of_block kc2; omega⟩)
      rw [← hbx] at kc2
      have kc3 := kc2.rd
      have KC := Lib.hid kc2
      have KRu := Lib.hid (HRB.out.keep bl2)
      have hgb := gapL_bd gp
      obtain ⟨gq, hgq⟩ : ∃ x, x = gapL gp := ⟨_, rfl⟩
      have HGQ := Lib.hid hgq
      have CG := Lib.hid (fun wx => gapL_any gp wx)
      rw [← hgq] at CG hgb
      obtain ⟨t', ht'⟩ : ∃ x, x = t + gq := ⟨_, rfl⟩
      have hT := HT.out
      have et : IntKind.i64.wrap (t + gq) = t' := by rw [IntKind.wrap_i64]; omega
      have HT' := Lib.hid (show (0 ≤ t' ∧ t' ≤ 1023 * ((i : Int) + 1)) ∧ t ≤ t' ∧ t' ≤ 4611686018427380000 ∧ t' = t + gq by omega)
      have CC := Lib.hid (fun wx => costL_any Li Wd Bu Sl Ce kR Wi Tr smm cs ⟨HPB.out.2.2.1, HPB.out.2.2.2⟩ wx)
      have hqb := costL_bd (n := cs) ⟨HPB.out.2.2.1, HPB.out.2.2.2⟩
      obtain ⟨q, hq⟩ : ∃ x, x = costL Bu cs := ⟨_, rfl⟩
      rw [← hq] at CC hqb
      have HQ := Lib.hid (And.intro hqb hq)
      have t2 : (i : Int) < (n2 : Int) := by omega
      have HIN := Lib.hid hin
      clear hl2 hcl hbl bl2 kc2 hgb hgq ht' hT hq hin hqb hky
      go_upto_region 11 with (fail)
      rw [← hbx]
      have HBXS := Lib.hid hbx
      clear kr kw ey1 kr0 kr1 kr2 kr3 ey2 hbx
      have krl := KRu.out.rd
      go_upto_region 13 with (first
        | (go_at_call 20; ((with_reducible refine (CG.out _).mono ?_); rintro v y3 ⟨rfl, rfl⟩))
        | (go_at_call 21; ((with_reducible refine (CC.out _).mono ?_); rintro v y4 ⟨rfl, b4⟩; have G8 := Lib.hid (G6.out.keep b4); have K8 := Lib.hid (KC.out.keep b4); have R8 := Lib.hid (KRu.out.keep b4); have HB8 := Lib.hid (show bx < y4.heap.size from Nat.lt_of_lt_of_le HBX.out.2.2 b4.size); clear b4)))
      clear CG CC et kc3 krl
      have kru := R8.out.rd
      by_cases hq1 : q < 1
      · have t1 : decide (q < 1) = true := decide_eq_true hq1
        clear hq1
        go_wp2
        go_roundg (n2 - (i + 1))
        case measure => have := HKK.out; have := HIN.out; omega
        case rel => exact ⟨i + 1, t', s, HIN.out, Lib.hid rfl, by go_num, rfl, Lib.hid (by have := HT'.out; omega), Lib.hid (G8.out.mono (by have := HT'.out; omega) (by omega)), R8⟩
      by_cases hq2 : Bu < q
      · have t1 : decide (q < 1) = false := decide_eq_false hq1
        have t2' : decide (Bu < q) = true := decide_eq_true hq2
        clear hq1 hq2
        go_wp2
        go_roundg (n2 - (i + 1))
        case measure => have := HKK.out; have := HIN.out; omega
        case rel => exact ⟨i + 1, t', s, HIN.out, Lib.hid rfl, by go_num, rfl, Lib.hid (by have := HT'.out; omega), Lib.hid (G8.out.mono (by have := HT'.out; omega) (by omega)), R8⟩
      have t1 : decide (q < 1) = false := decide_eq_false hq1
      have t2' : decide (Bu < q) = false := decide_eq_false hq2
      have HQC := Lib.hid (show 1 ≤ q ∧ q ≤ N.B from by have := HPB.out.2.1; omega)
      clear hq1 hq2
      go_upto_region 14 with (fail)
      have kc := K8.out.rd
      have HG8 := Lib.hid (G8.out.mono (t' := t') (m' := 2097153 * (i : Int)) (by have := HT'.out; omega) (by omega))
      have PO := Lib.hid (HG8.out.I.peek_ok HPB.out.1 ky HQC.out (by have := HT'.out; omega))
      have PI := Lib.hid (HG8.out.I.peeked (N := N) 0 q)
      have CPk := Lib.hid (lmpeekI t' 0 ky q (by have := HKY.out; unfold maxLen; omega) (by unfold inR; omega) (by have := HQ.out; unfold inR; omega) y4 HG8.out.at_ HG8.out.I)
      obtain ⟨⟨v, r, tt⟩, hpk⟩ : ∃ x, x = s.peek N t' 0 ky q := ⟨_, rfl⟩
      have HPK := Lib.hid hpk
      obtain ⟨s1, hs1⟩ : ∃ x, x = s.peeked N t' 0 q := ⟨_, rfl⟩
      have HS1 := Lib.hid hs1
      rw [← hpk] at CPk PO
      rw [← hs1] at CPk PI
      clear hpk hs1
      go_upto_region 15 with (go_at_call 22; ((with_reducible refine CPk.out.mono ?_); rintro e' y5 ⟨rfl, a5, f5⟩; obtain ⟨x6, y6, ex6, kr6, kw6, ey6, b6, k6⟩ := boxA y5 v r tt; have G9 := Lib.hid ((HG8.out.op a5 PI.out f5 (fun b hb => Or.inl hb)).keep b6); have K9 := Lib.hid ((K8.out.fr f5 (fun hh => HBX.out.1 (Or.inl hh))).keep b6); have R9 := Lib.hid ((R8.out.fr f5 (fun hh => NR7.out (Or.inl hh))).keep b6); have A9 := Lib.hid k6; have Z9 := Lib.hid (show bx < y5.heap.size ∧ w.heap.size ≤ y5.heap.size from ⟨Nat.lt_of_lt_of_le HB8.out f5.size, (Nat.le_trans G8.out.bl.size f5.size)⟩); have NA := Lib.hid (show ¬ N.all y5.heap.size from fun hh => by have := a5.lt _ hh; omega); clear a5 f5 b6 k6))
      clear CPk ex6 kr6 kw6 ey6
      obtain ⟨ab, hab⟩ : ∃ x, x = y5.heap.size := ⟨_, rfl⟩
      rw [← hab] at A9 Z9 NA ⊢
      clear hab
      clear kc kru t1 t2'
      have kc := K9.out.rd
      have kru := R9.out.rd
      have ka := A9.out.rd
      obtain ⟨⟨hpo, h5, h6⟩, h7⟩ := PO.out
      dsimp only at hpo h5 h6 h7
      have hBu := HPB.out.2.1
      have u1 : decide (r < 0) = false := decide_eq_false (by omega)
      have u2 : decide (Bu < r) = false := decide_eq_false (by omega)
      rcases hpo with ⟨rfl, rfl⟩ | ⟨rfl, h3, h4⟩
      focus
        have u3 : decide (q ≤ r) = true := decide_eq_true (h7 rfl)
        clear h5 h6 h7 hBu
        go_upto_region 17 with (fail)
        clear u3
      rotate_left
      focus
        have u3 : decide (q ≤ r) = false := decide_eq_false (by omega)
        have u4 : (tt == 0) = false := by simp; omega
        have u5 : decide (tt < 0) = false := decide_eq_false (by omega)
        clear h3 h4 h5 h6 h7 hBu
        go_upto_region 17 with (fail)
        clear u3 u4 u5
      rotate_left
      all_goals
        clear u1 u2 ka
        have CCk := Lib.hid (lmcheckI t' 0 ky q (by have := HKY.out; unfold maxLen; omega) (by unfold inR; omega) (by have := HQ.out; unfold inR; omega) y6 G9.out.at_ G9.out.I (by omega))
        have CI := Lib.hid (G9.out.I.check (by omega) 0 ky q)
        have CO := Lib.hid (G9.out.I.check_ok HPB.out.1 (by omega) ky HQC.out (by have := HT'.out; omega))
        obtain ⟨⟨s2, ⟨cv, cr, ct⟩, ev⟩, hck⟩ : ∃ x, x = s1.check N t' 0 ky q := ⟨_, rfl⟩
        have HCK := Lib.hid hck
        rw [← hck] at CCk CI CO
        clear hck
        dsimp only at CCk CI CO
        go_upto_region 18 with (go_at_call 24; ((with_reducible refine CCk.out.mono ?_); rintro e' y7 ⟨vv, rfl, o7, a7, f7⟩; obtain ⟨x8, y8, ex8, kr8, kw8, ey8, b8, k8⟩ := boxA y7 cv cr ct; have G10 := Lib.hid ((G9.out.op a7 CI.out f7 (fun b hb => hb)).keep b8); have R10 := Lib.hid ((R9.out.fr f7 NR7.out).keep b8); have A10 := Lib.hid k8; clear o7 a7 f7 b8 k8))
        clear CCk ex8 kr8 kw8 ey8 kc kru
        obtain ⟨ac, hac⟩ : ∃ x, x = y7.heap.size := ⟨_, rfl⟩
        rw [← hac] at A10 ⊢
        clear hac
        have kru := R10.out.rd
        have kac := A10.out.rd
        obtain ⟨hco, h5, h6⟩ := CO.out
        dsimp only at hco h5 h6
        have hBu := HPB.out.2.1
        have u1 : decide (cr < 0) = false := decide_eq_false (by omega)
        have u2 : decide (Bu < cr) = false := decide_eq_false (by omega)
        rcases hco with ⟨rfl, rfl⟩ | ⟨rfl, h3, h4⟩
        focus
          clear h5 h6 hBu
          go_wp2
        rotate_left
        focus
          have u3 : decide (q ≤ cr) = false := decide_eq_false (by omega)
          have u4 : (ct == 0) = false := by simp; omega
          clear h3 h4 h5 h6 hBu
          go_wp2
        rotate_left
        all_goals
          go_roundg (n2 - (i + 1))
          case measure => have := HKK.out; have := HIN.out; omega
          case rel => exact ⟨i + 1, t', s2, HIN.out, Lib.hid rfl, by go_num, rfl, Lib.hid (by have := HT'.out; omega), Lib.hid (G10.out.mono (by have := HT'.out; omega) (by omega)), R10⟩
    · have hie : i = n2 := by omega
      subst hie
      go_wp2
      go_ret
      exact ⟨rfl, HG.out.bl⟩
end Go.Proofs.YtbgcpljekcagiaaGreat
