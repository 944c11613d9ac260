import Derived.Test.YtbgcpljekcagiaaGreatZLmN
import Derived.Test.YtbgcpljekcagiaaGreatZLiftS
/- The law LimiterRows of layer 12 (limiter), walked. -/
namespace Go.Proofs.YtbgcpljekcagiaaGreat
set_option linter.unusedSimpArgs false
set_option linter.unusedVariables false
set_option maxRecDepth 100000
open Go.ChangeShapes Go.WideShapes Go.ChangeAt Go.RowKit
open Ar (inR)
section
variable {N : LmN} {s : LmS} {t m : Int}
/-- what a row's counters of a key have in the window that ends now. -/
def massZ (N : LmN) (s : LmS) (row : Int) (key : ByteArray) : Int := msum N.R s.r row key (s.r.now N.R - ((N.R.n : Int) - 1)) N.R.n
theorem lmmassI (now row : Int) (key : ByteArray) (hn : inR now) (hrow : -9223372036854775808 ≤ row ∧ row ≤ 9223372036854775807) (hs : key.size ≤ maxLen) (w : World) (h : LmAt w N s) (ht : now ≤ s.r.t) :
    Calls Tryz.prog 35 #[.pointer (some ⟨N.l, 0, none⟩), .int .i64 now, .int .i64 row, .string key] w fun e w' => e = .returned (.int .i64 (massZ N s row key)) ∧ LmAt w' N s ∧ Fr N.parts w w' := by
  have := lmmass_any now row key hn hrow hs w h
  rw [show max s.r.t now = s.r.t by omega] at this
  exact this
theorem LmI.mass (h : LmI N s t m) (hm : m ≤ 100000000000000000) (key : ByteArray) (row : Nat) (hrow : row < N.R.k) : estZ N.R s.r key ≤ massZ N s (row : Int) key ∧ massZ N s (row : Int) key ≤ 6500000000000000000 := by
  obtain ⟨w, hw⟩ := h.rg
  have hn := hw.bd.1
  refine ⟨est_le_mass hw h.few (by omega) hrow, ?_⟩
  have h1 := msum_le (R := N.R) ⟨h.m.1, hm⟩ h.cnt (row : Int) key (s.r.now N.R - ((N.R.n : Int) - 1)) N.R.n hn.2 hw.ok
  have h2 : (N.R.n : Int) * m ≤ 65 * 100000000000000000 := Int.mul_le_mul (by omega) hm h.m.1 (by omega)
  unfold massZ
  omega
end
set_option maxRecDepth 100000 in
set_option maxHeartbeats 6000000 in
theorem lmrows_law (w : World) (a b c d e f g h : Int) (sm : Bool) (A : Option Addr) (n c0 : Nat) (zs : List Int) (A2 : Option Addr) (n2 c2 : Nat) (L : List Cl) (hpl : RuleOK a b c d e f g h) (hr : RdI w .u64 A n c0 zs) (hr2 : RdL w A2 n2 c2 4 encCl L) (hok : ∀ a ∈ L, okCl a) :
    Calls Tryz.prog 7 #[planV a b c d e f g h sm, .slice A n c0, .slice A2 n2 c2] w fun e w' => e = .returned (.bool true) ∧ Below w.heap.size w w' := by
  clear hpl
  have hmx2 := hr2.max
  unfold maxLen at hmx2
  have hcp2 := hr2.cap
  have HR2 := Lib.hid hr2
  have HO := Lib.hid hok
  have hmx1 := hr.max
  unfold maxLen at hmx1
  have hcp1 := hr.cap
  have HR1 := Lib.hid hr
  clear hr
  clear hr2 hok
  obtain ⟨w1, hw1, k1, l1', s1⟩ := box_new w (planC a b c d e f g h sm) 23
  obtain ⟨pl, hpl⟩ : ∃ x, x = w.heap.size := ⟨_, rfl⟩
  rw [← hpl] at k1
  have K2 := Lib.hid (And.intro k1 l1')
  have HB := Lib.hid hpl
  clear k1 l1' s1
  go_enter Tryz.func7, Tryz.ntmps7
  go_upto_region 1 with (fail)
  rw [← HB.out]
  clear hw1 hpl
  go_upto_region 3 with (go_at_call 15; ((refine (lmfit_any _).mono ?_); rintro e w3 ⟨rfl, b3⟩; have K3 := Lib.hid (And.intro (K2.out.1.keep b3) (below_in K2.out.2 b3)); clear b3))
  by_cases hn60 : 60 < n
  · have t60 : decide ((60 : Int) < (n : Int)) = true := by rw [decide_eq_true_iff]; omega
    clear hn60
    go_wp2
    go_ret
    exact ⟨rfl, K3.out.2⟩
  have t60 : decide ((60 : Int) < (n : Int)) = false := by rw [decide_eq_false_iff_not]; omega
  clear hn60
  have CLi := Lib.hid (lmlight_any A2 n2 c2 L w3 (HR2.out.below K3.out.2) HO.out)
  cases hlb : lightC L with
  | false =>
    rw [hlb] at CLi
    go_wp2_with (go_at_call 16; ((with_reducible refine CLi.out.mono ?_); rintro e w4 ⟨rfl, b4⟩; have T4 := Lib.hid (below_in K3.out.2 b4); clear b4))
    go_ret
    exact ⟨rfl, T4.out⟩
  | true =>
  rw [hlb] at CLi
  have hlc := lightC_at hlb
  have hlen := hlc.1
  have HLK := Lib.hid hlc.2
  have hln := HR2.out.len
  have hb2 : (n2 : Int) ≤ 150 := by omega
  clear hlb hlen hln hlc
  go_upto_region 5 with (go_at_call 16; ((with_reducible refine CLi.out.mono ?_); rintro e w4 ⟨rfl, b4⟩; have K4 := Lib.hid (And.intro (K3.out.1.keep b4) (below_in K3.out.2 b4)); clear b4))
  clear CLi
  have kp := K4.out.1.rd
  have CRu := Lib.hid (lmrule_any a b c d e f g h sm w4)
  obtain ⟨Li, hLm⟩ : ∃ x, x = lqL a := ⟨_, rfl⟩
  obtain ⟨Wd, hWd⟩ : ∃ x, x = ((lqS b * lqN d : Nat) : Int) := ⟨_, rfl⟩
  obtain ⟨Bu, hBu⟩ : ∃ x, x = lqB a c := ⟨_, rfl⟩
  obtain ⟨Sl, hSl⟩ : ∃ x, x = ((lqN d : Nat) : Int) := ⟨_, rfl⟩
  obtain ⟨Ce, hCe⟩ : ∃ x, x = ((lqC e : Nat) : Int) := ⟨_, rfl⟩
  obtain ⟨kR, hkR⟩ : ∃ x, x = ((lqR f : Nat) : Int) := ⟨_, rfl⟩
  obtain ⟨Wi, hWi⟩ : ∃ x, x = ((lqW g : Nat) : Int) := ⟨_, rfl⟩
  obtain ⟨Tr, hTr⟩ : ∃ x, x = ((lqT h : Nat) : Int) := ⟨_, rfl⟩
  obtain ⟨smm, hsm⟩ : ∃ x, x = lqM sm d := ⟨_, rfl⟩
  rw [← hLm, ← hWd, ← hBu, ← hSl, ← hCe, ← hkR, ← hWi, ← hTr, ← hsm] at CRu
  have CNw := Lib.hid (fun wx (hx : Below w.heap.size w wx) => show Calls Tryz.prog 18 #[rlV Li Wd Bu Sl Ce kR Wi Tr smm, .slice A n c0] wx _ from by rw [hLm, hWd, hBu, hSl, hCe, hkR, hWi, hTr, hsm]; exact lmplan_new a b c d e f g h (lqM sm d) A n c0 zs wx (HR1.out.below hx))
  have HP := Lib.hid (And.intro hLm (And.intro hWd (And.intro hBu (And.intro hSl (And.intro hCe (And.intro hkR (And.intro hWi (And.intro hTr hsm))))))))
  clear hLm hWd hBu hSl hCe hkR hWi hTr hsm
  go_upto_region 6 with (go_at_call 17; ((with_reducible refine CRu.out.mono ?_); rintro e w5 ⟨rfl, b5⟩; obtain ⟨y1, y2, ey1, kr9, kw9, ey2, bl9, kc9⟩ := box9R w5 (.int .i64 Li) (.int .i64 Wd) (.int .i64 Bu) (.int .i64 Sl) (.int .i64 Ce) (.int .i64 kR) (.int .i64 Wi) (.int .i64 Tr) (.bool smm); have K6 := Lib.hid (And.intro kc9 (below_in (below_in K4.out.2 b5) bl9)); clear b5 bl9 kc9))
  clear ey1 kr9 kw9 ey2 kp CRu
  obtain ⟨rb, hrb⟩ : ∃ rb, rb = w5.heap.size := ⟨_, rfl⟩
  rw [← hrb] at K6 ⊢
  clear hrb
  have kru := K6.out.1.rd
  go_upto_region 7 with (go_at_call 18; ((with_reducible refine (CNw.out _ K6.out.2).mono ?_); rintro v w7 ⟨N, rfl, a7, p7, n7, b7⟩; have P7 := Lib.hid p7; have G7 := Lib.hid (show LmLaw w w7 N (lmZ (lqC e)) 0 0 from ⟨a7, lmplan_I a7 p7, fun b hb => Nat.le_trans K6.out.2.size (n7 b hb), below_in K6.out.2 b7⟩); have R7 := Lib.hid (K6.out.1.keep b7); have NR7 := Lib.hid (show ¬ N.all rb from fun hb => by have := n7 rb hb; have := lt_of_block K6.out.1; omega); clear a7 p7 n7 b7))
  clear CNw kru
  have HPB := Lib.hid (show LmB N ∧ N.B = Bu ∧ 1 ≤ Bu ∧ Bu ≤ 32 from by rw [HP.out.2.2.1]; exact lmplan_B P7.out)
  have HKR := Lib.hid (show ∃ kn : Nat, kR = (kn : Int) ∧ kn = N.R.k ∧ 1 ≤ kn ∧ kn ≤ 4 from ⟨lqR f, HP.out.2.2.2.2.2.1, P7.out.pk.symm, by unfold lqR; omega, by unfold lqR; omega⟩)
  have HLm := Lib.hid (show N.L = Li ∧ 1 ≤ Li ∧ Li ≤ 32 from ⟨by rw [P7.out.pL, HP.out.1], by rw [HP.out.1]; unfold lqL; omega, by rw [HP.out.1]; unfold lqL; omega⟩)
  go_wp2
  go_loopg [36, 9] n2 (fun kk si sn wr => ∃ (i : Nat) (t : Int) (s : LmS), i ≤ n2 ∧ Hid (kk = n2 - i) ∧ si = .int .i64 (i : Int) ∧ sn = .int .i64 t ∧ Hid (0 ≤ t ∧ t ≤ 1023 * (i : Int)) ∧ Hid (LmLaw w wr N s t (2097153 * (i : Int))) ∧ Hid (Blk wr rb 29 #[.int .i64 Li, .int .i64 Wd, .int .i64 Bu, .int .i64 Sl, .int .i64 Ce, .int .i64 kR, .int .i64 Wi, .int .i64 Tr, .bool smm]))
  case atStart => exact ⟨0, 0, _, by omega, Lib.hid rfl, rfl, rfl, Lib.hid (by omega), G7, R7⟩
  case round =>
    obtain ⟨i, t, s, hi, HKK, rfl, rfl, HT, HG, HRB⟩ := hrel
    by_cases hin : i < n2
    · have hl2 := HR2.out.len
      obtain ⟨b', off, rfl, hbl, hcl⟩ := (HR2.out.below HG.out.bl).at_ (by omega)
      obtain ⟨⟨gp, cs, ky, pk⟩, ha⟩ : ∃ a, L[i]? = some a := ⟨_, List.getElem?_eq_getElem (by omega)⟩
      have HKY := Lib.hid (HLK.out _ (List.mem_of_getElem? ha))
      have hky : ky.size ≤ 64 := HKY.out
      have HCS := Lib.hid (HO.out _ (List.mem_of_getElem? ha))
      have kr0 : wr.cell? ⟨b', off + i * 4, none⟩ = some (.int .i64 gp) := hcl i _ ha 0 (by omega)
      have kr1 : wr.cell? ⟨b', off + i * 4 + 1, none⟩ = some (.int .i64 cs) := hcl i _ ha 1 (by omega)
      have kr2 : wr.cell? ⟨b', off + i * 4 + 2, none⟩ = some (.string ky) := hcl i _ ha 2 (by omega)
      have kr3 : wr.cell? ⟨b', off + i * 4 + 3, none⟩ = some (.bool pk) := hcl i _ ha 3 (by omega)
      obtain ⟨y1, y2, ey1, kr, kw, ey2, bl2, kc2⟩ := box4C wr (.int .i64 gp) (.int .i64 cs) (.string ky) (.bool pk)
      have G6 := Lib.hid (HG.out.keep bl2)
      obtain ⟨bx, hbx⟩ : ∃ bx, bx = wr.heap.size := ⟨_, rfl⟩
      have HBX := Lib.hid (show (¬ N.all bx) ∧ w.heap.size ≤ bx ∧ bx < y2.heap.size from ⟨fun hh => by have := HG.out.at_.lt bx hh; omega, by have := HG.out.bl.size; omega, by have := lt_of_block kc2; omega⟩)
      rw [← hbx] at kc2
      have kc3 := kc2.rd
      have KC := Lib.hid kc2
      have KRu := Lib.hid (HRB.out.keep bl2)
      have hgb := gapL_bd gp
      obtain ⟨gq, hgq⟩ : ∃ x, x = gapL gp := ⟨_, rfl⟩
      have HGQ := Lib.hid hgq
      have CG := Lib.hid (fun wx => gapL_any gp wx)
      rw [← hgq] at CG hgb
      obtain ⟨t', ht'⟩ : ∃ x, x = t + gq := ⟨_, rfl⟩
      have hT := HT.out
      have et : IntKind.i64.wrap (t + gq) = t' := by rw [IntKind.wrap_i64]; omega
      have HT' := Lib.hid (show (0 ≤ t' ∧ t' ≤ 1023 * ((i : Int) + 1)) ∧ t ≤ t' ∧ t' ≤ 4611686018427380000 ∧ t' = t + gq by omega)
      have CC := Lib.hid (fun wx => costL_any Li Wd Bu Sl Ce kR Wi Tr smm cs ⟨HPB.out.2.2.1, HPB.out.2.2.2⟩ wx)
      have hqb := costL_bd (n := cs) ⟨HPB.out.2.2.1, HPB.out.2.2.2⟩
      obtain ⟨q, hq⟩ : ∃ x, x = costL Bu cs := ⟨_, rfl⟩
      rw [← hq] at CC hqb
      have HQ := Lib.hid (And.intro hqb hq)
      have t2 : (i : Int) < (n2 : Int) := by omega
      have HIN := Lib.hid hin
      clear hl2 hcl hbl bl2 kc2 hgb hgq ht' hT hq hin hqb hky
      go_upto_region 11 with (fail)
      rw [← hbx]
      have HBXS := Lib.hid hbx
      clear kr kw ey1 kr0 kr1 kr2 kr3 ey2 hbx
      have krl := KRu.out.rd
      go_upto_region 13 with (first
        | (go_at_call 20; ((with_reducible refine (CG.out _).mono ?_); rintro v y3 ⟨rfl, rfl⟩))
        | (go_at_call 21; ((with_reducible refine (CC.out _).mono ?_); rintro v y4 ⟨rfl, b4⟩; have G8 := Lib.hid (G6.out.keep b4); have K8 := Lib.hid (KC.out.keep b4); have R8 := Lib.hid (KRu.out.keep b4); have HB8 := Lib.hid (show bx < y4.heap.size from Nat.lt_of_lt_of_le HBX.out.2.2 b4.size); clear b4)))
      clear CG CC et kc3 krl
      have HG8 := Lib.hid (G8.out.mono (t' := t') (m' := 2097153 * (i : Int)) (by have := HT'.out; omega) (by omega))
      obtain ⟨kn, hkn, hknR, hk1, hk4⟩ := HKR.out
      have HKN := Lib.hid (And.intro hkn (And.intro hknR (And.intro hk1 hk4)))
      clear hkn hknR hk1 hk4
      have CM0 := lmmass_any (N := N) (s := s) t' 0 ky (by have := HT'.out; unfold inR; omega) (by omega) (by have := HKY.out; unfold maxLen; omega) y4 HG8.out.at_
      have I1 := HG8.out.I.to
      obtain ⟨s1, hs1⟩ : ∃ s1 : LmS, s1 = { s with r := ⟨max s.r.t t', s.r.num, s.r.F⟩ } := ⟨_, rfl⟩
      have hs1t : t' ≤ s1.r.t := by rw [hs1]; show t' ≤ max s.r.t t'; omega
      rw [← hs1] at CM0 I1
      have CM0 := Lib.hid (show Calls Tryz.prog 35 #[.pointer (some ⟨N.l, 0, none⟩), .int .i64 t', .int .i64 0, .string ky] y4 (fun e w' => e = .returned (.int .i64 (massZ N s1 0 ky)) ∧ LmAt w' N s1 ∧ Fr N.parts y4 w') from by rw [hs1] at CM0 ⊢; exact CM0)
      have HI1 := Lib.hid I1
      have HS1 := Lib.hid hs1t
      have HMS := Lib.hid (fun (row : Nat) (hrow : row < N.R.k) => HI1.out.mass (by omega) ky row hrow)
      have hm0 := HMS.out 0 (by have := HKN.out; omega)
      have CMr := Lib.hid (fun (row : Int) (hrow : -9223372036854775808 ≤ row ∧ row ≤ 9223372036854775807) wx (hx : LmAt wx N s1) => lmmassI t' row ky (by have := HT'.out; unfold inR; omega) hrow (by have := HKY.out; unfold maxLen; omega) wx hx HS1.out)
      obtain ⟨m0, hm0e⟩ : ∃ z, z = massZ N s1 0 ky := ⟨_, rfl⟩
      have hm0 : estZ N.R s1.r ky ≤ m0 ∧ m0 ≤ 6500000000000000000 := by rw [hm0e]; exact hm0
      rw [← hm0e] at CM0
      have HM0 := Lib.hid hm0
      clear hs1 hs1t I1 hm0 hm0e
      have kc := K8.out.rd
      have kru := R8.out.rd
      go_upto_region 14 with (go_at_call 35; ((with_reducible refine CM0.out.mono ?_); rintro v y5 ⟨rfl, a5, f5⟩; have G9 := Lib.hid (show LmLaw w y5 N s1 t' (2097153 * (i : Int)) from HG8.out.op a5 HI1.out f5 (fun b hb => Or.inl hb)); have K9 := Lib.hid (K8.out.fr f5 (fun hh => HBX.out.1 (Or.inl hh))); have R9 := Lib.hid (R8.out.fr f5 (fun hh => NR7.out (Or.inl hh))); have Z9 := Lib.hid (show y4.heap.size ≤ y5.heap.size from f5.size); clear a5 f5))
      clear kc kru CM0
      obtain ⟨wo, hwo⟩ : ∃ x, x = wr := ⟨_, rfl⟩
      go_wp2
      go_loopg [14, 13] (kn - 1) (fun kk sr sm wr => ∃ (row : Nat) (ms : Int), (1 ≤ row ∧ row ≤ kn) ∧ Hid (kk = kn - row) ∧ sr = .int .i64 (row : Int) ∧ sm = .int .i64 ms ∧ Hid (estZ N.R s1.r ky ≤ ms ∧ ms ≤ 6500000000000000000) ∧ Hid (LmLaw w wr N s1 t' (2097153 * (i : Int))) ∧ Hid (Blk wr rb 29 #[.int .i64 Li, .int .i64 Wd, .int .i64 Bu, .int .i64 Sl, .int .i64 Ce, .int .i64 kR, .int .i64 Wi, .int .i64 Tr, .bool smm]) ∧ Hid (Blk wr bx 36 #[.int .i64 gp, .int .i64 cs, .string ky, .bool pk]))
      case atStart => exact ⟨1, m0, by have := HKN.out; omega, Lib.hid rfl, by go_num, rfl, HM0, G9, R9, K9⟩
      case round =>
        obtain ⟨row, ms, hrow, HKK2, rfl, rfl, HMs, HG2, HRB2, HKC2⟩ := hrel
        have kc := HKC2.out.rd
        have kru := HRB2.out.rd
        by_cases hrn : row < kn
        · have e8 : decide ((row : Int) < kR) = true := decide_eq_true (by have := HKN.out; omega)
          have hmr := HMS.out row (by have := HKN.out; omega)
          have CMx := Lib.hid (CMr.out (row : Int) (by have := HKN.out; omega) wr HG2.out.at_)
          obtain ⟨mr, hmre⟩ : ∃ z, z = massZ N s1 (row : Int) ky := ⟨_, rfl⟩
          rw [← hmre] at CMx hmr
          have HMR := Lib.hid hmr
          obtain ⟨mn, hmn⟩ : ∃ z, z = min ms mr := ⟨_, rfl⟩
          have emn : min ms mr = mn := hmn.symm
          have HMN := Lib.hid hmn
          have HRN := Lib.hid hrn
          have t5 : (row : Int) < (kn : Int) := by have := HRN.out; omega
          have t6 : (kn : Int) ≤ 4 := by have := HKN.out; omega
          clear hmr hmre hmn hrn
          go_wp2_with (go_at_call 35; ((with_reducible refine CMx.out.mono ?_); rintro v y6 ⟨rfl, a6, f6⟩; have G10 := Lib.hid (show LmLaw w y6 N s1 t' (2097153 * (i : Int)) from HG2.out.op a6 HI1.out f6 (fun b hb => Or.inl hb)); have K10 := Lib.hid (HKC2.out.fr f6 (fun hh => HBX.out.1 (Or.inl hh))); have R10 := Lib.hid (HRB2.out.fr f6 (fun hh => NR7.out (Or.inl hh))); clear a6 f6))
          go_roundg (kn - (row + 1))
          case measure => have := HKK2.out; have := HRN.out; omega
          case rel => exact ⟨row + 1, mn, by have := HRN.out; omega, Lib.hid rfl, by go_num, rfl, Lib.hid (by have h1 := HMs.out; have h2 := HMR.out; have h3 := HMN.out; omega), G10, R10, K10⟩
        · have hre : row = kn := by omega
          have e8 : decide ((row : Int) < kR) = false := decide_eq_false (by have := HKN.out; omega)
          clear hrn hre
          have CCk := Lib.hid (lmcheckI t' 0 ky q (by have := HKY.out; unfold maxLen; omega) (by unfold inR; omega) (by have := HQ.out; unfold inR; omega) wr HG2.out.at_ HG2.out.I (by omega))
          have CI := Lib.hid (HG2.out.I.check (by omega) 0 ky q)
          have RO := Lib.hid (fun (hc : 1 ≤ q ∧ q ≤ N.B) => HI1.out.rows_ok hc (by have := HT'.out; omega) ky)
          have eE : (⟨max s1.r.t t', s1.r.num, s1.r.F⟩ : RgS) = s1.r := by rw [show max s1.r.t t' = s1.r.t by have := HS1.out; omega]
          rw [eE] at RO
          obtain ⟨⟨s2, ⟨cv, cr, ct⟩, ev⟩, hck⟩ : ∃ x, x = s1.check N t' 0 ky q := ⟨_, rfl⟩
          rw [← hck] at CCk CI RO
          clear hck eE
          dsimp only at CCk CI RO
          go_upto_region 19 with (go_at_call 24; ((with_reducible refine CCk.out.mono ?_); rintro e' y7 ⟨vv, rfl, o7, a7, f7⟩; obtain ⟨x7, c7, rfl, q1, q2, q3⟩ := G.own_at o7; obtain ⟨x8, y8, ex8, kr8, kw8, ey8, b8, k8⟩ := boxA y7 cv cr ct; have G10 := Lib.hid ((HG2.out.op a7 CI.out f7 (fun b hb => hb)).keep b8); have R10 := Lib.hid ((HRB2.out.fr f7 NR7.out).keep b8); have K10 := Lib.hid ((HKC2.out.fr f7 HBX.out.1).keep b8); have A10 := Lib.hid k8; have Q7 := Lib.hid (And.intro q1 q2); clear o7 a7 f7 b8 k8 q1 q2 q3))
          clear CCk ex8 kr8 kw8 ey8 kc kru e8
          obtain ⟨ac, hac⟩ : ∃ x, x = y7.heap.size := ⟨_, rfl⟩
          rw [← hac] at A10 ⊢
          clear hac
          have kc := K10.out.rd
          obtain ⟨rs, hrs⟩ : ∃ x, x = s2.cellOf N ky := ⟨_, rfl⟩
          have CR := Lib.hid (show Calls Tryz.prog 34 #[.pointer (some ⟨N.l, 0, none⟩), .string ky] y8 (fun e w' => e = .returned (resV rs) ∧ Below y8.heap.size y8 w') from by rw [hrs]; exact lmcell_any ky (by have := HKY.out; unfold maxLen; omega) y8 G10.out.at_)
          rw [← hrs] at RO
          clear hrs
          have LQ := HLm.out
          have MQ := HMs.out
          have QQ := HQ.out.1
          have e9 : IntKind.i64.wrap (ms + q) = ms + q := by rw [IntKind.wrap_i64]; have h0 := HI1.out.est ky; omega
          clear LQ MQ QQ
          cases rs with
          | some c =>
            go_upto_region 20 with (go_at_call 34; ((with_reducible refine CR.out.mono ?_); rintro e' y9 ⟨rfl, b9⟩; simp only [resV]; obtain ⟨x10, y10, ex10, kr10, kw10, ey10, b10, k10⟩ := cbox y9 c; have G11 := Lib.hid ((G10.out.keep b9).keep b10); have R11 := Lib.hid ((R10.out.keep b9).keep b10); have A11 := Lib.hid ((A10.out.keep b9).keep b10); clear b9 b10 k10))
            clear CR ex10 kr10 kw10 ey10 kc
            go_wp2
            go_roundg (n2 - (i + 1))
            case measure => have := HKK.out; have := HIN.out; omega
            case rel => exact ⟨i + 1, t', s2, HIN.out, Lib.hid rfl, by go_num, rfl, Lib.hid (by have := HT'.out; omega), Lib.hid (G11.out.mono (by have := HT'.out; omega) (by omega)), R11⟩
          | none =>
            go_upto_region 20 with (go_at_call 34; ((with_reducible refine CR.out.mono ?_); rintro e' y9 ⟨rfl, b9⟩; simp only [resV]; obtain ⟨x10, y10, ex10, kr10, kw10, ey10, b10, k10⟩ := cbox y9 (0, 0, 0, 0); have G11 := Lib.hid ((G10.out.keep b9).keep b10); have R11 := Lib.hid ((R10.out.keep b9).keep b10); have A11 := Lib.hid ((A10.out.keep b9).keep b10); clear b9 b10 k10))
            clear CR ex10 kr10 kw10 ey10 kc
            have kru := R11.out.rd
            have kac := A11.out.rd
            have t64 : (0 : Int) ≤ (ev.length : Int) := by omega
            by_cases he0 : ev.length = 0
            · have u1 : ((ev.length : Int) == 0) = true := by rw [he0]; rfl
              have hev : ev = [] := List.length_eq_zero_iff.1 he0
              have RO2 := Lib.hid (fun hc hf => RO.out hc hev rfl hf)
              clear he0 hev
              by_cases h1 : q < 1
              · have u2 : decide (1 ≤ q) = false := decide_eq_false (by omega)
                clear h1
                go_wp2
                go_roundg (n2 - (i + 1))
                case measure => have := HKK.out; have := HIN.out; omega
                case rel => exact ⟨i + 1, t', s2, HIN.out, Lib.hid rfl, by go_num, rfl, Lib.hid (by have := HT'.out; omega), Lib.hid (G11.out.mono (by have := HT'.out; omega) (by omega)), R11⟩
              have u2 : decide (1 ≤ q) = true := decide_eq_true (by omega)
              by_cases h2 : Bu < q
              · have u3 : decide (q ≤ Bu) = false := decide_eq_false (by omega)
                clear h1 h2
                go_wp2
                go_roundg (n2 - (i + 1))
                case measure => have := HKK.out; have := HIN.out; omega
                case rel => exact ⟨i + 1, t', s2, HIN.out, Lib.hid rfl, by go_num, rfl, Lib.hid (by have := HT'.out; omega), Lib.hid (G11.out.mono (by have := HT'.out; omega) (by omega)), R11⟩
              have u3 : decide (q ≤ Bu) = true := decide_eq_true (by omega)
              by_cases h3 : ms + q ≤ Li
              · have u4 : decide (ms + q ≤ Li) = true := decide_eq_true h3
                have hv : cv = 1 := RO2.out (by have := HPB.out.2.1; omega) (by have a1 := HMs.out; have a2 := HLm.out; omega)
                have u5 : (cv != 1) = false := by rw [hv]; rfl
                clear h1 h2 h3 hv
                go_wp2
                go_roundg (n2 - (i + 1))
                case measure => have := HKK.out; have := HIN.out; omega
                case rel => exact ⟨i + 1, t', s2, HIN.out, Lib.hid rfl, by go_num, rfl, Lib.hid (by have := HT'.out; omega), Lib.hid (G11.out.mono (by have := HT'.out; omega) (by omega)), R11⟩
              · have u4 : decide (ms + q ≤ Li) = false := decide_eq_false h3
                clear h1 h2 h3
                go_wp2
                go_roundg (n2 - (i + 1))
                case measure => have := HKK.out; have := HIN.out; omega
                case rel => exact ⟨i + 1, t', s2, HIN.out, Lib.hid rfl, by go_num, rfl, Lib.hid (by have := HT'.out; omega), Lib.hid (G11.out.mono (by have := HT'.out; omega) (by omega)), R11⟩
            · have u1 : ((ev.length : Int) == 0) = false := beq_eq_false_iff_ne.2 (by omega)
              clear he0
              go_wp2
              go_roundg (n2 - (i + 1))
              case measure => have := HKK.out; have := HIN.out; omega
              case rel => exact ⟨i + 1, t', s2, HIN.out, Lib.hid rfl, by go_num, rfl, Lib.hid (by have := HT'.out; omega), Lib.hid (G11.out.mono (by have := HT'.out; omega) (by omega)), R11⟩
    · have hie : i = n2 := by omega
      subst hie
      go_wp2
      go_ret
      exact ⟨rfl, HG.out.bl⟩
end Go.Proofs.YtbgcpljekcagiaaGreat
