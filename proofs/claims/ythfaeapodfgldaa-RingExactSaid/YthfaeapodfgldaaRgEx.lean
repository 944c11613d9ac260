/- The law RingExact of layer 7 (ring), walked. -/
import Derived.Test.YthfaeapodfgldaaRgEm
import Derived.Test.YthfaeapodfgldaaMapG
import Derived.StillTailTactics
namespace Go.Proofs.Ythfaeapodfgldaa
set_option linter.unusedSimpArgs false
set_option linter.unusedVariables false
open Go.ChangeShapes Go.WideShapes Go.ChangeAt Go.RowKit
open Ar (inR)
/-- maps whose keys are int64. -/
noncomputable abbrev mkI : Mg.KC Try.prog 2 Int := Mg.KC.int Try.underlying2
theorem wfI {a : Int} (h : -9223372036854775808 ≤ a ∧ a ≤ 9223372036854775807) : (Lit.int .i64 a).wf = true := by
  simp [Lit.wf, IntKind.min, IntKind.max, IntKind.signed, IntKind.bits]
  omega
theorem mlook {w : World} {b c : Nat} {M : Int → Option Value} (h : Mg.MapS mkI w b c M) {s : Int} (hs : -9223372036854775808 ≤ s ∧ s ≤ 9223372036854775807) : (Instr.lookup 46 (.map (some b)) (.int .i64 s) false).run Try.prog w = .ok ((M s).getD (.int .i64 0)) w :=
  h.look (C := mkI) Try.underlying46 (z := .int .i64 0) (by kernel_rfl) (wfI hs)
theorem mstore {w : World} {b c : Nat} {M : Int → Option Value} (h : Mg.MapS mkI w b c M) (hc : c < maxLen) {s : Int} (hs : -9223372036854775808 ≤ s ∧ s ≤ 9223372036854775807) (v : Value) :
    ∃ w', (Instr.mapUpdate 46 (.map (some b)) (.int .i64 s) v).run Try.prog w = .ok () w' ∧ (∃ c', c' ≤ c + 1 ∧ Mg.MapS mkI w' b c' (fun x => if x = s then some v else M x)) ∧ Fr (fun k => k = b) w w' := by
  obtain ⟨w', h1, h2, h3⟩ := h.store (C := mkI) Try.underlying46 hc (wfI hs) v
  exact ⟨w', h1, ⟨_, by split <;> omega, h2⟩, h3⟩
theorem ex_left {S : Nat} {t v : Int} (ht : 0 ≤ t ∧ t ≤ 900000) (hS : 1 ≤ S ∧ S ≤ 32) (hv : 0 ≤ v ∧ v ≤ 25500) : ∃ tm dl pz p2 p3 lz : Int, t.tmod (S : Int) = tm ∧ IntKind.i64.wrap ((S : Int) - tm) = dl ∧ v * dl = pz ∧ IntKind.i64.wrap pz = pz ∧ IntKind.i64.wrap (pz + (S : Int)) = p2 ∧ IntKind.i64.wrap (p2 - 1) = p3 ∧ p3.tdiv (S : Int) = lz ∧ IntKind.i64.wrap lz = lz ∧ lz = leftZ S t v ∧ (0 ≤ lz ∧ lz ≤ 25500) := by
  have h1 := Int.emod_nonneg t (show (S : Int) ≠ 0 by omega)
  have h2 := Int.emod_lt_of_pos t (show (0 : Int) < (S : Int) by omega)
  have hl := leftZ_in (s := S) hS.1 (t := t) hv.1
  obtain ⟨tm, htm⟩ : ∃ x, x = t % (S : Int) := ⟨_, rfl⟩
  rw [← htm] at h1 h2
  have h3 : 0 ≤ v * ((S : Int) - tm) := Int.mul_nonneg hv.1 (by omega)
  have h4 : v * ((S : Int) - tm) ≤ 25500 * 32 := Int.mul_le_mul hv.2 (by omega) (by omega) (by omega)
  obtain ⟨pz, hpz⟩ : ∃ x, x = v * ((S : Int) - tm) := ⟨_, rfl⟩
  rw [← hpz] at h3 h4
  have hlz : leftZ S t v = (pz + (S : Int) - 1) / (S : Int) := by unfold leftZ; rw [← htm, hpz]
  obtain ⟨lz, hlz2⟩ : ∃ x, x = leftZ S t v := ⟨_, rfl⟩
  rw [← hlz2] at hl hlz
  refine ⟨tm, (S : Int) - tm, pz, pz + (S : Int), pz + (S : Int) - 1, lz, ?_, ?_, hpz.symm, ?_, ?_, ?_, ?_, ?_, hlz2, by omega⟩
  · rw [htm]; exact Int.tmod_eq_emod_of_nonneg ht.1
  · clear hlz hpz htm; rw [IntKind.wrap_i64]; omega
  · clear hlz hpz htm; rw [IntKind.wrap_i64]; omega
  · clear hlz hpz htm; rw [IntKind.wrap_i64]; omega
  · clear hlz hpz htm; rw [IntKind.wrap_i64]; omega
  · rw [hlz]; exact Int.tdiv_eq_ediv_of_nonneg (by clear hlz hpz htm; omega)
  · clear hlz hpz htm; rw [IntKind.wrap_i64]; omega
theorem ex_slot {S : Nat} {t : Int} {B : Int} (ht : 0 ≤ t ∧ t ≤ B) (hB : B ≤ 900000) (hS : 1 ≤ S ∧ S ≤ 32) : t.tdiv (S : Int) = t / (S : Int) ∧ IntKind.i64.wrap (t / (S : Int)) = t / (S : Int) ∧ 0 ≤ t / (S : Int) ∧ t / (S : Int) ≤ 900000 := by
  have h1 := Int.ediv_le_self (S : Int) ht.1
  have h2 := Int.ediv_nonneg ht.1 (show (0 : Int) ≤ (S : Int) by omega)
  refine ⟨Int.tdiv_eq_ediv_of_nonneg ht.1, ?_, h2, by omega⟩
  obtain ⟨q, hq⟩ : ∃ q, q = t / (S : Int) := ⟨_, rfl⟩
  rw [← hq] at h1 h2 ⊢
  rw [IntKind.wrap_i64]
  omega
set_option maxRecDepth 100000 in
set_option maxHeartbeats 4000000 in
theorem rgexact_law (w : World) (a b c d : Int) (sm : Bool) (A2 : Option Addr) (n2 c2 : Nat) (L : List (Int × Int × ByteArray)) (jp : Int) (hr2 : RdL w A2 n2 c2 3 encIIS L) (hok : ∀ a ∈ L, okIIS a) (_hj : inR jp) :
    Calls Try.prog 4 #[.agg #[.int .i64 a, .int .i64 b, .int .i64 c, .int .i64 d, .bool sm], .slice A2 n2 c2, .int .i64 jp] w fun e w' => e = .returned (.bool true) ∧ Below w.heap.size w w' := by
  have hmx2 := hr2.max
  unfold maxLen at hmx2
  have hcp2 := hr2.cap
  have HR2 := Lib.hid hr2
  have HO := Lib.hid hok
  clear hr2 hok _hj
  obtain ⟨w1, hw1, k1, l1', s1⟩ := box_new w #[.int .i64 a, .int .i64 b, .int .i64 c, .int .i64 d, .bool sm] 23
  obtain ⟨pl, hpl⟩ : ∃ x, x = w.heap.size := ⟨_, rfl⟩
  rw [← hpl] at k1
  have K2 := Lib.hid (And.intro k1 l1')
  have HB := Lib.hid hpl
  clear k1 l1' s1
  go_enter Try.func4, Try.ntmps4
  go_upto_region 1 with (fail)
  rw [← HB.out]
  clear hw1 hpl
  go_upto_region 3 with (go_at_call 10; ((refine (rgfit_any _).mono ?_); rintro e w3 ⟨rfl, b3⟩; have K3 := Lib.hid (And.intro (K2.out.1.keep b3) (K2.out.2.trans (b3.mono K2.out.2.size))); clear b3))
  have CLi := Lib.hid (rglight_any A2 n2 c2 L w3 (HR2.out.below K3.out.2) HO.out)
  cases hlb : lightR L with
  | false =>
    rw [hlb] at CLi
    go_wp2_with (go_at_call 11; ((with_reducible refine CLi.out.mono ?_); rintro e w4 ⟨rfl, b4⟩; have T4 := Lib.hid (K3.out.2.trans (b4.mono K3.out.2.size)); clear b4))
    go_ret
    exact ⟨rfl, T4.out⟩
  | true =>
  rw [hlb] at CLi
  have hlen : L.length ≤ 100 := by unfold lightR at hlb; simp at hlb; exact hlb.1
  have hln := HR2.out.len
  have hb2 : (n2 : Int) ≤ 100 := by omega
  clear hlb hlen hln
  go_upto_region 5 with (go_at_call 11; ((with_reducible refine CLi.out.mono ?_); rintro e w4 ⟨rfl, b4⟩; have K4 := Lib.hid (And.intro (K3.out.1.keep b4) (K3.out.2.trans (b4.mono K3.out.2.size))); clear b4))
  clear CLi
  have kp := K4.out.1.rd
  have CRu := Lib.hid (rgrule_any a b c d sm w4)
  obtain ⟨Lm, hLm⟩ : ∃ x, x = plL d := ⟨_, rfl⟩
  obtain ⟨Wd, hWd⟩ : ∃ x, x = ((plS b * plN a : Nat) : Int) := ⟨_, rfl⟩
  obtain ⟨Sl, hSl⟩ : ∃ x, x = ((plN a : Nat) : Int) := ⟨_, rfl⟩
  obtain ⟨Wi, hWi⟩ : ∃ x, x = ((plW c : Nat) : Int) := ⟨_, rfl⟩
  have CNw := Lib.hid (fun b0 wx (hr : RowsAt wx b0 2 (rX []) (rA []) (rB [])) => plan_new a b c d sm 2 (by omega) b0 _ _ _ wx hr (rows_lt [] 2))
  rw [← hLm, ← hWd, ← hSl, ← hWi] at CRu CNw
  have hLb : 1 ≤ Lm ∧ Lm ≤ 64 := by rw [hLm]; unfold plL; omega
  obtain ⟨S, hS⟩ : ∃ S, S = plS b := ⟨_, rfl⟩
  obtain ⟨N, hN⟩ : ∃ N, N = plN a := ⟨_, rfl⟩
  have hSb : 1 ≤ S ∧ S ≤ 32 := by rw [hS]; unfold plS; omega
  have hNb : 1 ≤ N ∧ N ≤ 8 := by rw [hN]; unfold plN; omega
  have hWS : Wd = (S : Int) * (N : Int) := by rw [hWd, hS, hN, Int.natCast_mul]
  have hSN : Sl = (N : Int) := by rw [hSl, hN]
  have hWb : 0 ≤ Wd ∧ Wd ≤ 256 := by
    have : S * N ≤ 32 * 8 := Nat.mul_le_mul hSb.2 hNb.2
    rw [hWS, ← Int.natCast_mul]; omega
  have hq0 : Wd.tdiv Sl = (S : Int) := by
    rw [hWS, hSN, ← Int.natCast_mul, Int.tdiv_eq_ediv_of_nonneg (Int.natCast_nonneg _), ← Int.natCast_ediv, Nat.mul_div_cancel _ (by omega)]
  have HW := Lib.hid (And.intro hWb (And.intro hSb (And.intro hNb (And.intro hq0 (And.intro hWS (And.intro hSN (And.intro hS hN)))))))
  have hSl0 : ¬ Sl = 0 := by omega
  have s0 : IntKind.i64.wrap (S : Int) = (S : Int) := by rw [IntKind.wrap_i64]; omega
  clear hLm hWd hSl hWi hLb hSb hNb hWS hSN hWb hS hN
  go_upto_region 6 with (go_at_call 12; ((with_reducible refine CRu.out.mono ?_); rintro e w5 ⟨rfl, b5⟩; obtain ⟨y1, y2, ey1, kr9, kw9, ey2, bl9, kc9⟩ := box9R w5 (.int .i64 Lm) (.int .i64 Wd) (.int .i64 0) (.int .i64 Sl) (.int .i64 0) (.int .i64 0) (.int .i64 Wi) (.int .i64 0) (.bool sm); have K6 := Lib.hid (And.intro kc9 ((K4.out.2.trans (b5.mono K4.out.2.size)).trans (bl9.mono (Nat.le_trans K4.out.2.size b5.size)))); clear b5 bl9 kc9))
  clear ey1 kr9 kw9 ey2 kp CRu
  obtain ⟨rb, hrb⟩ : ∃ rb, rb = w5.heap.size := ⟨_, rfl⟩
  rw [← hrb] at K6 ⊢
  clear hrb
  clear hSl0 s0 hq0
  have CR := Lib.hid (fun wx (hb : Below y2.heap.size y2 wx) => show Calls Try.prog 14 #[.slice none 0 0, .int .i64 2] wx (fun e w' => e = .returned (.slice (some ⟨wx.heap.size, 0, none⟩) 2 2) ∧ RowsAt w' wx.heap.size 2 (rX []) (rA []) (rB []) ∧ Below wx.heap.size wx w') from rows_any wx none 0 0 [] (rdI_none wx _) 2 (by omega))
  have SB := Lib.hid (fun wx (hb : Below y2.heap.size y2 wx) => show ∀ i, wx.cell? ⟨rb, i, none⟩ = (#[.int .i64 Lm, .int .i64 Wd, .int .i64 0, .int .i64 Sl, .int .i64 0, .int .i64 0, .int .i64 Wi, .int .i64 0, .bool sm] : Array Value)[i]? from (K6.out.1.keep hb).rd)
  have D7 := Lib.hid (show Below y2.heap.size y2 y2.drew from below_draws (Below.refl _ _) 1)
  have k7 := SB.out _ D7.out
  go_region_held3 (fun wx => ∀ i, wx.cell? ⟨rb, i, none⟩ = (#[.int .i64 Lm, .int .i64 Wd, .int .i64 0, .int .i64 Sl, .int .i64 0, .int .i64 0, .int .i64 Wi, .int .i64 0, .bool sm] : Array Value)[i]?) (first | assumption | exact SB.out _ D8.out | exact SB.out _ D9.out)
    (first
      | (go_at_call 14; ((with_reducible refine (CR.out _ D7.out).mono ?_); rintro e w8 ⟨rfl, r8, b8⟩; have R8 := Lib.hid (show RowsAt w8 y2.heap.size 2 (rX []) (rA []) (rB []) from r8); have D8 := Lib.hid (D7.out.trans (b8.mono D7.out.size)); clear r8 b8))
      | (go_at_call 13; ((with_reducible refine (CNw.out _ _ R8.out).mono ?_); rintro e w9 ⟨R, rfl, s9, n1, n2, b9⟩; have D9 := Lib.hid (D8.out.trans (b9.mono D8.out.size)); have NR := Lib.hid n1; have NS := Lib.hid n2; have BR := Lib.hid (show ¬ R.F rb from fun hh => by have := n2 rb (Or.inl hh); have := D8.out.size; have := K6.out.1; have := lt_of_block this; omega); have G9 := Lib.hid (show GA w w9 R ⟨0, fun _ => 0, fun _ _ _ => 0⟩ from ⟨s9, fun b hb => Nat.le_trans (Nat.le_trans K6.out.2.size D8.out.size) (n2 b hb), K6.out.2.trans (D9.out.mono K6.out.2.size)⟩); have KB := Lib.hid (K6.out.1.keep D9.out); clear s9 n1 n2 b9)))
  clear k7 SB CR CNw
  have hk107 : (⟨#[107]⟩ : ByteArray).size ≤ maxLen := by show 1 ≤ maxLen; unfold maxLen; omega
  have HK107 := Lib.hid hk107
  clear hk107
  have HN := Lib.hid (show R.n = N + 1 by rw [NR.out.1, HW.out.2.2.2.2.2.2.2])
  have HS := Lib.hid (show R.s = S by rw [NR.out.2.1, HW.out.2.2.2.2.2.2.1])
  have HSM := Lib.hid (show R.sm = sm from NR.out.2.2.2.1)
  have HK2 := Lib.hid (show R.k = 2 from NR.out.2.2.2.2.1)
  have hlen2 : n2 ≤ 100 := by omega
  have hSl0 : ¬ Sl = 0 := by have := HW.out.2.2.2.2.2.1; have := HW.out.2.2.1; omega
  have s0 : IntKind.i64.wrap (S : Int) = (S : Int) := by rw [IntKind.wrap_i64]; have := HW.out.2.1; omega
  have hq0 := HW.out.2.2.2.1
  have HNB := Lib.hid (show ∀ b, R.all b → b < w9.heap.size from G9.out.at_.lt)
  have HRB := Lib.hid (lt_of_block KB.out)
  have k9 := KB.out.rd
  have hmm := @run_makeMap Try.prog
  go_upto_region 9 with (fail)
  clear k9 hSl0 s0 hq0 hmm
  have hm0 : Mg.MapS mkI (w9.alloc (.map #[] 0)) w9.heap.size 0 (fun _ => none) := Mg.MapS.new w9
  obtain ⟨mb, hmb⟩ : ∃ mb, mb = w9.heap.size := ⟨_, rfl⟩
  rw [← hmb] at hm0 ⊢
  have bl9 : Below w9.heap.size w9 (w9.alloc (.map #[] 0)) := (Below.refl _ _).alloc (Nat.le_refl _) _
  have GM := Lib.hid (G9.out.keep bl9)
  have KM' := Lib.hid (KB.out.keep bl9)
  have M9 := Lib.hid hm0
  have HMB := Lib.hid (show ¬ R.all mb ∧ mb ≠ rb ∧ w.heap.size ≤ mb from ⟨fun hh => by have := HNB.out mb hh; omega, by have := HRB.out; omega, by have := G9.out.bl.size; omega⟩)
  generalize w9.alloc (.map #[] 0) = wm at GM KM' M9 ⊢
  clear hm0 hmb bl9
  go_wp2
  go_loopg [36, 11] n2 (fun kk si sn wr => ∃ (i cm : Nat) (t : Int) (σ : RgS) (l : List (Int × Int)) (M : Int → Option Value), i ≤ n2 ∧ Hid (kk = n2 - i) ∧ si = .int .i64 (i : Int) ∧ sn = .int .i64 t ∧ Hid (0 ≤ t ∧ t ≤ 4095 * (i : Int)) ∧ Hid (σ.t = t) ∧ Hid (GA w wr R σ) ∧ Hid (FewR R σ (255 * (i : Int))) ∧ Hid (ExR R σ ⟨#[107]⟩ l) ∧ Hid (l.length = i) ∧ Hid (Mg.MapS mkI wr mb cm M) ∧ Hid (cm ≤ i) ∧ Hid (∀ x, (M x).getD (.int .i64 0) = .int .i64 (qsum S x x l)) ∧ Hid (Blk wr rb 29 #[.int .i64 Lm, .int .i64 Wd, .int .i64 0, .int .i64 Sl, .int .i64 0, .int .i64 0, .int .i64 Wi, .int .i64 0, .bool sm]))
  case atStart => exact ⟨0, 0, 0, _, [], _, by omega, Lib.hid rfl, rfl, rfl, Lib.hid (by omega), Lib.hid rfl, GM, Lib.hid (FewR.new R), Lib.hid (ExR.new R _), Lib.hid rfl, M9, Lib.hid (by omega), Lib.hid (fun _ => rfl), KM'⟩
  case round =>
    obtain ⟨i, cm, t, σ, l, M, hi, HKK, rfl, rfl, HT, HTt, HG, HF, HV, HLL, HM, HC, HMV, HB2⟩ := hrel
    by_cases hin : i < n2
    · as_aux_lemma =>
        have hl2 := HR2.out.len
        obtain ⟨b', off, rfl, hbl, hc⟩ := (HR2.out.below HG.out.bl).at_ (by omega)
        obtain ⟨⟨gp, cs, ky⟩, ha⟩ : ∃ a, L[i]? = some a := ⟨_, List.getElem?_eq_getElem (by omega)⟩
        have kr0 : wr.cell? ⟨b', off + i * 3, none⟩ = some (.int .i64 gp) := hc i _ ha 0 (by omega)
        have kr1 : wr.cell? ⟨b', off + i * 3 + 1, none⟩ = some (.int .i64 cs) := hc i _ ha 1 (by omega)
        have kr2 : wr.cell? ⟨b', off + i * 3 + 2, none⟩ = some (.string ky) := hc i _ ha 2 (by omega)
        obtain ⟨y1, y2, ey1, kr, kw, ey2, bl2, kc2⟩ := box3R wr 37 (.int .i64 0) (.int .i64 0) (.string ⟨#[]⟩) (.int .i64 gp) (.int .i64 cs) (.string ky)
        have G6 := Lib.hid (HG.out.keep bl2)
        have B6 := Lib.hid (HB2.out.keep bl2)
        have M6 := Lib.hid (HM.out.keep bl2)
        obtain ⟨bx, hbx⟩ : ∃ bx, bx = wr.heap.size := ⟨_, rfl⟩
        have HBX := Lib.hid (show ¬ R.F bx ∧ bx ≠ mb from ⟨fun hh => by have := HG.out.at_.lt bx (Or.inl hh); omega, by have := HM.out.lt; omega⟩)
        rw [← hbx] at kc2
        have kc3 := kc2.rd
        have KC := Lib.hid kc2
        obtain ⟨g, hg⟩ : ∃ g, g = gapR gp := ⟨_, rfl⟩
        have hgb : 0 ≤ g ∧ g ≤ 4095 := by rw [hg]; exact gapR_bd gp
        have CG := Lib.hid (fun wx => rggap_any gp wx)
        rw [← hg] at CG
        obtain ⟨t', ht'⟩ : ∃ t', t' = t + g := ⟨_, rfl⟩
        have hT := HT.out
        have et : IntKind.i64.wrap (t + g) = t' := by rw [IntKind.wrap_i64]; omega
        have HT' := Lib.hid (show (0 ≤ t' ∧ t' ≤ 4095 * ((i : Int) + 1)) ∧ t ≤ t' ∧ t' ≤ 9223372036854775807 by omega)
        obtain ⟨q, hq⟩ : ∃ q, q = cs % 256 := ⟨_, rfl⟩
        have eq : bits .and .i64 cs 255 = q := by rw [hq]; exact i64_mask8 cs
        have HQ := Lib.hid (show 0 ≤ q ∧ q ≤ 255 by omega)
        have t2 : (i : Int) < (n2 : Int) := by omega
        have HIN := Lib.hid hin
        have HF1 := Lib.hid (show FewR R ⟨t', σ.num, σ.F⟩ (255 * (i : Int)) from HF.out.to HG.out.at_.bd.2.1.1 (by rw [HTt.out]; exact HT'.out.2.1))
        have CT := Lib.hid (fun wx (hx : RgAt wx R σ) => show Calls Try.prog 16 #[.pointer (some ⟨R.x, 0, none⟩), .int .i64 t'] wx (fun e w' => e = .returned (.tuple #[]) ∧ RgAt w' R ⟨t', σ.num, σ.F⟩ ∧ Fr (fun b => b = R.x) wx w') from by
          have := rto_any t' (by have := HT'.out; omega) wx hx
          rw [show max σ.t t' = t' by rw [HTt.out]; have := HT'.out; omega] at this
          exact this)
        have CA := Lib.hid (fun wx (hx : RgAt wx R ⟨t', σ.num, σ.F⟩) => radd_any ⟨#[107]⟩ HK107.out q (by have := HQ.out; omega) wx hx)
        have hSb := HW.out.2.1
        have HK0 := Lib.hid (ex_slot (S := S) HT'.out.1 (by have := HIN.out; omega) hSb)
        obtain ⟨k0, hk0⟩ : ∃ k, k = t' / (S : Int) := ⟨_, rfl⟩
        rw [← hk0] at HK0
        have HK0e := Lib.hid hk0
        clear hl2 hc hbl ha bl2 kc2 hgb hg ht' hT hq hin hk0
        go_upto_region 13 with (fail)
        rw [← hbx]
        clear kr kw ey1 kr0 kr1 kr2 ey2 hbx
        go_upto_region 15 with (first
          | (go_at_call 15; ((with_reducible refine (CG.out _).mono ?_); rintro e y3 ⟨rfl, rfl⟩))
          | (go_at_call 16; ((with_reducible refine (CT.out _ G6.out.at_).mono ?_); rintro e y4 ⟨rfl, s4, f4⟩; have G4 := Lib.hid (G6.out.op s4 (f4.mono (fun b hb => Or.inl hb))); have B4 := Lib.hid (B6.out.fr f4 (fun e => BR.out (Or.inl e))); have K4' := Lib.hid (KC.out.fr f4 (fun e => HBX.out.1 (Or.inl e))); have M4 := Lib.hid (M6.out.fr f4 (fun e => HMB.out.1 (Or.inl (Or.inl e)))); clear s4 f4)))
        clear kc3
        have kc3 := K4'.out.rd
        go_upto_region 16 with (go_at_call 17; ((with_reducible refine (CA.out _ G4.out.at_).mono ?_); rintro e y5 ⟨rfl, s5, f5⟩; have G5 := Lib.hid (G4.out.op s5 f5); have B5 := Lib.hid (B4.out.fr f5 BR.out); have K5 := Lib.hid (K4'.out.fr f5 HBX.out.1); have M5 := Lib.hid (M4.out.fr f5 (fun e => HMB.out.1 (Or.inl e))); clear s5 f5))
        clear kc3 CT CA CG et
        have kc3 := K5.out.rd
        have hS0 : ¬ (S : Int) = 0 := by omega
        have hS1 : ¬ S = 0 := by omega
        obtain ⟨m3, m4, m5⟩ := HK0.out
        have m6 := HMV.out k0
        have M5d : Mg.MapS mkI y5.drew mb cm M := M5.out.keep (below_draws (Below.refl _ _) 1)
        have hlk := mlook M5d (s := k0) (by omega)
        rw [m6] at hlk
        obtain ⟨sv, hsv⟩ : ∃ sv, sv = qsum S k0 k0 l := ⟨_, rfl⟩
        have hsb : 0 ≤ sv ∧ sv ≤ 25500 := by
          have h := qsum_in S k0 k0 l HV.out.cs
          rw [← hsv] at h
          have := HLL.out
          have := HIN.out
          omega
        rw [← hsv] at hlk
        have HSV := Lib.hid hsv
        obtain ⟨s2, hs2⟩ : ∃ s2, s2 = sv + q := ⟨_, rfl⟩
        have e2 : IntKind.i64.wrap (sv + q) = s2 := by rw [IntKind.wrap_i64]; have := HQ.out; omega
        have HS2 := Lib.hid hs2
        obtain ⟨y6, hst, ⟨cm', hcm, m7⟩, f6⟩ := mstore M5d (by have := HC.out; have := HIN.out; unfold maxLen; omega) (s := k0) (by omega) (.int .i64 s2)
        have G7 := Lib.hid ((G5.out.keep (below_draws (Below.refl _ _) 1)).at_.fr f6 (fun b hb hh => HMB.out.1 (hh ▸ hb)))
        have B7 := Lib.hid ((B5.out.keep (below_draws (Below.refl _ _) 1)).fr f6 (fun e => HMB.out.2.1 e.symm))
        have BL7 := Lib.hid ((G5.out.keep (below_draws (Below.refl _ _) 1)).bl.trans (f6.below (show w.heap.size ≤ y5.drew.heap.size from G5.out.bl.size) (fun k hk => by have := HMB.out.2.2; omega)))
        have M7 := Lib.hid m7
        have HC7 := Lib.hid (show cm' ≤ i + 1 by have := HC.out; omega)
        clear m5 m6 hsv hsb hs2 M5d hcm m7 f6
        go_still_tail 9, (by kernel_rfl)
        change wpList _ _ _ _ _ y5.drew
        go_wp2
        go_roundg (n2 - (i + 1))
        case measure => have := HKK.out; have := HIN.out; omega
        case rel =>
          have HF2 : FewR R (RgS.add ⟨t', σ.num, σ.F⟩ R ⟨#[107]⟩ q) (255 * (i : Int) + q) := HF1.out.add G4.out.at_ _ (by have := HQ.out; omega)
          refine ⟨i + 1, cm', t', _, l ++ [(t', q)], _, HIN.out, Lib.hid rfl, by go_num, rfl, Lib.hid (by have := HT'.out; omega), Lib.hid rfl, Lib.hid ⟨G7.out, G5.out.lo, BL7.out⟩, Lib.hid ⟨fun s => Int.le_trans (HF2.all s) (by have := HQ.out; omega), HF2.now⟩,
            Lib.hid ((HV.out.to HG.out.at_.bd.2.1.1 (by rw [HTt.out]; exact HT'.out.2.1)).add HF1.out G4.out.at_ (by rw [HK2.out]; omega) HQ.out (by have := HIN.out; omega)), Lib.hid (by rw [List.length_append, HLL.out]; rfl), M7, HC7, Lib.hid (fun x => ?_), B7⟩
          rw [qsum_app]
          show (if x = k0 then some (Value.int .i64 s2) else M x).getD (.int .i64 0) = .int .i64 (qsum S x x l + (if x ≤ t' / (S : Int) ∧ t' / (S : Int) ≤ x then q else 0))
          rw [← HK0e.out]
          by_cases hx : x = k0
          · subst hx
            rw [if_pos rfl, if_pos ⟨Int.le_refl _, Int.le_refl _⟩, HS2.out, HSV.out]; rfl
          · rw [if_neg hx, if_neg (fun hh => hx (by omega)), HMV.out x]; simp
    · have hie : n2 = i := by omega
      subst hie
      have hT := HT.out
      obtain ⟨g, hg⟩ : ∃ g, g = gapR jp := ⟨_, rfl⟩
      have hgb : 0 ≤ g ∧ g ≤ 4095 := by rw [hg]; exact gapR_bd jp
      have CG := Lib.hid (fun wx => rggap_any jp wx)
      rw [← hg] at CG
      obtain ⟨t', ht'⟩ : ∃ t', t' = t + g := ⟨_, rfl⟩
      have et : IntKind.i64.wrap (t + g) = t' := by rw [IntKind.wrap_i64]; omega
      have HT' := Lib.hid (show (0 ≤ t' ∧ t' ≤ 413595) ∧ t ≤ t' by omega)
      have HF1 := Lib.hid (show FewR R ⟨t', σ.num, σ.F⟩ 25500 from ⟨fun s => Int.le_trans (HF.out.all s) (by omega), (HF.out.to HG.out.at_.bd.2.1.1 (by rw [HTt.out]; exact HT'.out.2)).now⟩)
      have HV1 := Lib.hid (show ExR R ⟨t', σ.num, σ.F⟩ ⟨#[107]⟩ l from HV.out.to HG.out.at_.bd.2.1.1 (by rw [HTt.out]; exact HT'.out.2))
      have CT := Lib.hid (fun wx (hx : RgAt wx R σ) => show Calls Try.prog 16 #[.pointer (some ⟨R.x, 0, none⟩), .int .i64 t'] wx (fun e w' => e = .returned (.tuple #[]) ∧ RgAt w' R ⟨t', σ.num, σ.F⟩ ∧ Fr (fun b => b = R.x) wx w') from by
        have := rto_any t' (by have := HT'.out; omega) wx hx
        rw [show max σ.t t' = t' by rw [HTt.out]; have := HT'.out; omega] at this
        exact this)
      have CT0 := Lib.hid (fun wx (hx : RgAt wx R ⟨t', σ.num, σ.F⟩) => show Calls Try.prog 16 #[.pointer (some ⟨R.x, 0, none⟩), .int .i64 0] wx (fun e w' => e = .returned (.tuple #[]) ∧ RgAt w' R ⟨t', σ.num, σ.F⟩ ∧ Fr (fun b => b = R.x) wx w') from by
        have := rto_any 0 (by omega) wx hx
        rw [show max (RgS.t ⟨t', σ.num, σ.F⟩) 0 = t' by have := HT'.out; show max t' 0 = t'; omega] at this
        exact this)
      have hSb := HW.out.2.1
      have hNb := HW.out.2.2.1
      obtain ⟨m3, m4, m5⟩ := ex_slot (S := S) HT'.out.1 (by omega) hSb
      obtain ⟨k0, hk0⟩ : ∃ k, k = t' / (S : Int) := ⟨_, rfl⟩
      rw [← hk0] at m3 m4 m5
      obtain ⟨e0, he0⟩ : ∃ e, e = k0 - (N : Int) := ⟨_, rfl⟩
      have hSN := HW.out.2.2.2.2.2.1
      have m6 : IntKind.i64.wrap (k0 - Sl) = e0 := by rw [IntKind.wrap_i64]; omega
      have HEK := Lib.hid (show e0 = k0 - (N : Int) ∧ 0 ≤ k0 ∧ k0 ≤ 900000 by omega)
      have HTL := Lib.hid (fun wx (hx : RgAt wx R ⟨t', σ.num, σ.F⟩) => show estZ R ⟨t', σ.num, σ.F⟩ ⟨#[107]⟩ = (if sm then leftZ S t' (qsum S e0 e0 l) else qsum S e0 e0 l) + qsum S (e0 + 1) k0 l ∧ (∀ row : Nat, row < 2 → msum R ⟨t', σ.num, σ.F⟩ (row : Int) ⟨#[107]⟩ (RgS.now ⟨t', σ.num, σ.F⟩ R - ((R.n : Int) - 1)) R.n = qsum S e0 k0 l) from by
        have hnow : RgS.now ⟨t', σ.num, σ.F⟩ R = k0 := by rw [hk0, ← HS.out]; rfl
        have h := ex_tells (e := e0) (q := k0) HV1.out HF1.out hx (by omega) (by rw [hnow, HN.out, he0]; omega) hnow.symm
        rw [HSM.out, HS.out, HK2.out] at h
        have he : RgS.now ⟨t', σ.num, σ.F⟩ R - ((R.n : Int) - 1) = e0 := by rw [hnow, HN.out, he0]; omega
        rw [he]
        exact h)
      have hS0 : ¬ (S : Int) = 0 := by omega
      have hS1 : ¬ S = 0 := by omega
      have HCS := Lib.hid HV.out.cs
      have hlen := HLL.out
      have HQB := Lib.hid (fun a b => qsum_in S a b l HV.out.cs)
      have hi100 : (l.length : Int) ≤ 100 := by omega
      clear hT hg hgb ht' hk0 he0 hSN hSb hNb hlen
      go_upto_region 20 with (first
        | (go_at_call 15; ((with_reducible refine (CG.out _).mono ?_); rintro e y3 ⟨rfl, rfl⟩))
        | (go_at_call 16; ((with_reducible refine (CT.out _ HG.out.at_).mono ?_); rintro e y4 ⟨rfl, s4, f4⟩; have G4 := Lib.hid (HG.out.op s4 (f4.mono (fun b hb => Or.inl hb))); have B4 := Lib.hid (HB2.out.fr f4 (fun e => BR.out (Or.inl e))); have M4 := Lib.hid (HM.out.fr f4 (fun e => HMB.out.1 (Or.inl (Or.inl e)))); clear s4 f4)))
      go_upto_region 21 with (first
        | (go_at_call 16; ((with_reducible refine (CT0.out _ G4.out.at_).mono ?_); rintro e y5 ⟨rfl, s5, f5⟩; have G5 := Lib.hid (G4.out.op s5 (f5.mono (fun b hb => Or.inl hb))); have B5 := Lib.hid (B4.out.fr f5 (fun e => BR.out (Or.inl e))); have M5 := Lib.hid (M4.out.fr f5 (fun e => HMB.out.1 (Or.inl (Or.inl e)))); clear s5 f5)))
      clear CT CT0 CG et
      go_upto_region 22 with (fail)
      have SB5 := Lib.hid (fun wx (hb : Below y5.heap.size y5 wx) => show ∀ i, wx.cell? ⟨rb, i, none⟩ = (#[.int .i64 Lm, .int .i64 Wd, .int .i64 0, .int .i64 Sl, .int .i64 0, .int .i64 0, .int .i64 Wi, .int .i64 0, .bool sm] : Array Value)[i]? from (B5.out.keep hb).rd)
      have D5 := Lib.hid (show Below y5.heap.size y5 y5.drew from below_draws (Below.refl _ _) 1)
      have k5 := SB5.out _ D5.out
      refine wp_region_held_drew (S := fun wx => ∀ i, wx.cell? ⟨rb, i, none⟩ = (#[.int .i64 Lm, .int .i64 Wd, .int .i64 0, .int .i64 Sl, .int .i64 0, .int .i64 0, .int .i64 Wi, .int .i64 0, .bool sm] : Array Value)[i]?) (by kernel_rfl) k5 (fun hHeld => ?_)
      refine wpAnyH_take (i := 0) (oi := ?_) (v := ?_) ?_ ?_ ?_ ?_ ?_ ?_ ?_ ?_
      rotate_left 2
      · simp only [List.getElem?_toArray, List.getElem?_cons_succ, List.getElem?_cons_zero]; rfl
      · kernel_rfl
      · kernel_rfl
      · kernel_rfl
      · exact fun _ _ _ h => h
      · refine Or.inl ⟨by rfl, ?_⟩
        intro w' hSw
        (try dsimp only at hSw)
        go_simp
        all_goals (with_reducible rfl)
      · assumption
      try simp only [Act.put, List.setIfInBounds_toArray, List.set_cons_zero, List.set_cons_succ]
      refine wpAnyH_take (i := 1) (oi := ?_) (v := ?_) ?_ ?_ ?_ ?_ ?_ ?_ ?_ ?_
      rotate_left 2
      · simp only [List.getElem?_toArray, List.getElem?_cons_succ, List.getElem?_cons_zero]; rfl
      · kernel_rfl
      · kernel_rfl
      · kernel_rfl
      · exact fun _ _ _ h => h
      · refine Or.inl ⟨by rfl, ?_⟩
        intro w' hSw
        (try dsimp only at hSw)
        go_simp
        all_goals (with_reducible rfl)
      · assumption
      try simp only [Act.put, List.setIfInBounds_toArray, List.set_cons_zero, List.set_cons_succ]
      refine wpAnyH_take (i := 2) (oi := ?_) (v := ?_) ?_ ?_ ?_ ?_ ?_ ?_ ?_ ?_
      rotate_left 2
      · simp only [List.getElem?_toArray, List.getElem?_cons_succ, List.getElem?_cons_zero]; rfl
      · kernel_rfl
      · kernel_rfl
      · kernel_rfl
      · exact fun _ _ _ h => h
      · refine Or.inl ⟨by rfl, ?_⟩
        intro w' hSw
        (try dsimp only at hSw)
        go_simp
        all_goals (with_reducible rfl)
      · assumption
      try simp only [Act.put, List.setIfInBounds_toArray, List.set_cons_zero, List.set_cons_succ]
      refine wpAnyH_take (i := 3) (oi := ?_) (v := ?_) ?_ ?_ ?_ ?_ ?_ ?_ ?_ ?_
      rotate_left 2
      · simp only [List.getElem?_toArray, List.getElem?_cons_succ, List.getElem?_cons_zero]; rfl
      · kernel_rfl
      · kernel_rfl
      · kernel_rfl
      · exact fun _ _ _ h => h
      · refine Or.inl ⟨by rfl, ?_⟩
        intro w' hSw
        (try dsimp only at hSw)
        go_simp
        all_goals (with_reducible rfl)
      · assumption
      try simp only [Act.put, List.setIfInBounds_toArray, List.set_cons_zero, List.set_cons_succ]
      refine wpAnyH_take (i := 4) (oi := ?_) (v := ?_) ?_ ?_ ?_ ?_ ?_ ?_ ?_ ?_
      rotate_left 2
      · simp only [List.getElem?_toArray, List.getElem?_cons_succ, List.getElem?_cons_zero]; rfl
      · kernel_rfl
      · kernel_rfl
      · kernel_rfl
      · exact fun _ _ _ h => h
      · refine Or.inl ⟨by rfl, ?_⟩
        intro w' hSw
        (try dsimp only at hSw)
        go_simp
        all_goals (with_reducible rfl)
      · assumption
      try simp only [Act.put, List.setIfInBounds_toArray, List.set_cons_zero, List.set_cons_succ]
      refine wpAnyH_take (i := 5) (oi := ?_) (v := ?_) ?_ ?_ ?_ ?_ ?_ ?_ ?_ ?_
      rotate_left 2
      · simp only [List.getElem?_toArray, List.getElem?_cons_succ, List.getElem?_cons_zero]; rfl
      · kernel_rfl
      · kernel_rfl
      · kernel_rfl
      · exact fun _ _ _ h => h
      · refine Or.inl ⟨by rfl, ?_⟩
        intro w' hSw
        (try dsimp only at hSw)
        go_simp
        all_goals (with_reducible rfl)
      · assumption
      try simp only [Act.put, List.setIfInBounds_toArray, List.set_cons_zero, List.set_cons_succ]
      refine wpAnyH_take (i := 6) (oi := ?_) (v := ?_) ?_ ?_ ?_ ?_ ?_ ?_ ?_ ?_
      rotate_left 2
      · simp only [List.getElem?_toArray, List.getElem?_cons_succ, List.getElem?_cons_zero]; rfl
      · kernel_rfl
      · kernel_rfl
      · kernel_rfl
      · exact fun _ _ _ h => h
      · refine Or.inl ⟨by rfl, ?_⟩
        intro w' hSw
        (try dsimp only at hSw)
        go_simp
        all_goals (with_reducible rfl)
      · assumption
      try simp only [Act.put, List.setIfInBounds_toArray, List.set_cons_zero, List.set_cons_succ]
      refine wpAnyH_done (by kernel_rfl) ?_ _
      clear hHeld k5
      obtain ⟨wz, hwz⟩ : ∃ x : World, x = y5.drew := ⟨_, rfl⟩
      have GZ := Lib.hid (show GA w wz R ⟨t', σ.num, σ.F⟩ from by rw [hwz]; exact G5.out.keep D5.out)
      have BZ := Lib.hid (B5.out.keep D5.out)
      have MZ := Lib.hid (M5.out.keep D5.out)
      rw [← hwz] at BZ MZ ⊢
      clear hwz SB5 D5 G5 B5 M5 G4 B4 M4
      obtain ⟨EV, hEV⟩ : ∃ v, v = (if sm then leftZ S t' (qsum S e0 e0 l) else qsum S e0 e0 l) := ⟨_, rfl⟩
      have HEB := Lib.hid (show 0 ≤ EV ∧ EV ≤ 25500 from by
        have h := HQB.out e0 e0
        have h2 := leftZ_in (s := S) HW.out.2.1.1 (t := t') h.1
        rw [hEV]
        split <;> omega)
      have HEV := Lib.hid hEV
      have HL100 := Lib.hid hi100
      have hNb := HW.out.2.2.1.2
      clear hEV hi100
      go_wp2
      go_loopg [16, 14, 15] (N + 1) (fun kk sn ss sq wr => ∃ (j : Nat) (nv sv mv : Int), j ≤ N + 1 ∧ Hid (kk = N + 1 - j) ∧ sn = .int .i64 nv ∧ ss = .int .i64 sv ∧ sq = .int .i64 mv ∧ Hid (nv = e0 + (j : Int)) ∧ Hid (sv = if j = 0 then 0 else EV + qsum S (e0 + 1) (nv - 1) l) ∧ Hid (mv = qsum S e0 (nv - 1) l) ∧ Hid (Below wz.heap.size wz wr))
      case atStart => exact ⟨0, e0, 0, 0, by omega, Lib.hid rfl, rfl, rfl, rfl, Lib.hid (by omega), Lib.hid rfl, Lib.hid (qsum_none S (by omega) l).symm, Lib.hid (Below.refl _ _)⟩
      case round =>
        obtain ⟨j, nv, sv, mv, hj, HKJ, rfl, rfl, rfl, HNV, HSV, HMW, HBJ⟩ := hrel
        have hek := HEK.out
        by_cases hjn : j < N + 1
        · have hnv := HNV.out
          have t3 : decide (nv ≤ k0) = true := by rw [decide_eq_true_iff]; omega
          obtain ⟨mz, hmz⟩ : ∃ x, x = qsum S nv nv l := ⟨_, rfl⟩
          have hq1 := HQB.out nv nv
          rw [← hmz] at hq1
          have hq2 := HQB.out e0 (nv - 1)
          rw [← HMW.out] at hq2
          have hq3 := HQB.out (e0 + 1) (nv - 1)
          have hl100 := HL100.out
          have hsvb : 0 ≤ sv ∧ sv ≤ 51000 := by
            have h1 := HSV.out
            have h2 := HEB.out
            rw [h1]
            split <;> omega
          have hlk := mlook (MZ.out.keep HBJ.out) (s := nv) (by omega)
          rw [HMV.out nv, ← hmz] at hlk
          have fm : IntKind.i64.wrap (mv + mz) = mv + mz := by rw [IntKind.wrap_i64]; omega
          have fn : IntKind.i64.wrap (nv + 1) = nv + 1 := by rw [IntKind.wrap_i64]; omega
          have HMW2 := Lib.hid (show mv + mz = qsum S e0 (nv + 1 - 1) l from by
            rw [show nv + 1 - 1 = nv by omega, qsum_split S (a := e0) (b := nv) (c := nv - 1) (by omega) (by omega), show nv - 1 + 1 = nv by omega, ← HMW.out, ← hmz])
          have HNV2 := Lib.hid (show nv + 1 = e0 + ((j + 1 : Nat) : Int) by omega)
          have HJN := Lib.hid hjn
          have HB2' := Lib.hid (HBJ.out.trans ((below_draws (Below.refl _ wr) 1).mono HBJ.out.size))
          have SBJ := Lib.hid ((BZ.out.keep HB2'.out).rd)
          have HMZ := Lib.hid hmz
          rcases (show sm = false ∨ sm = true by cases sm <;> simp) with hsm | hsm
          · as_aux_lemma =>
              have HS2 := Lib.hid (show sv + mz = if j + 1 = 0 then 0 else EV + qsum S (e0 + 1) (nv + 1 - 1) l from by
                rw [if_neg (by omega), show nv + 1 - 1 = nv by omega, HSV.out]
                by_cases h0 : j = 0
                · rw [if_pos h0, qsum_none S (show nv < e0 + 1 by omega), HEV.out, hsm, hmz, show nv = e0 by omega]; simp
                · rw [if_neg h0, qsum_split S (a := e0 + 1) (b := nv) (c := nv - 1) (by omega) (by omega), show nv - 1 + 1 = nv by omega, ← hmz]; omega)
              have fs : IntKind.i64.wrap (sv + mz) = sv + mz := by rw [IntKind.wrap_i64]; omega
              have sbj := SBJ.out
              rw [hsm] at sbj
              clear hnv hq1 hq2 hq3 hl100 hsvb hmz hek hj hjn hsm m5
              go_upto_region 27 with (fail)
              refine wp_region_held_drew (S := fun wx => ∀ i, wx.cell? ⟨rb, i, none⟩ = (#[.int .i64 Lm, .int .i64 Wd, .int .i64 0, .int .i64 Sl, .int .i64 0, .int .i64 0, .int .i64 Wi, .int .i64 0, .bool false] : Array Value)[i]?) (by kernel_rfl) sbj (fun hHeld => ?_)
              refine wpAnyH_take (i := 0) (oi := ?_) (v := ?_) ?_ ?_ ?_ ?_ ?_ ?_ ?_ ?_
              rotate_left 2
              · simp only [List.getElem?_toArray, List.getElem?_cons_succ, List.getElem?_cons_zero]; rfl
              · kernel_rfl
              · kernel_rfl
              · kernel_rfl
              · exact fun _ _ _ h => h
              · refine Or.inl ⟨by rfl, ?_⟩
                intro w' hSw
                (try dsimp only at hSw)
                go_simp
                all_goals (with_reducible rfl)
              · assumption
              try simp only [Act.put, List.setIfInBounds_toArray, List.set_cons_zero, List.set_cons_succ]
              refine wpAnyH_take (i := 1) (oi := ?_) (v := ?_) ?_ ?_ ?_ ?_ ?_ ?_ ?_ ?_
              rotate_left 2
              · simp only [List.getElem?_toArray, List.getElem?_cons_succ, List.getElem?_cons_zero]; rfl
              · kernel_rfl
              · kernel_rfl
              · kernel_rfl
              · exact fun _ _ _ h => h
              · refine Or.inl ⟨by rfl, ?_⟩
                intro w' hSw
                (try dsimp only at hSw)
                go_simp
                all_goals (with_reducible rfl)
              · assumption
              try simp only [Act.put, List.setIfInBounds_toArray, List.set_cons_zero, List.set_cons_succ]
              refine wpAnyH_take (i := 2) (oi := ?_) (v := ?_) ?_ ?_ ?_ ?_ ?_ ?_ ?_ ?_
              rotate_left 2
              · simp only [List.getElem?_toArray, List.getElem?_cons_succ, List.getElem?_cons_zero]; rfl
              · kernel_rfl
              · kernel_rfl
              · kernel_rfl
              · exact fun _ _ _ h => h
              · refine Or.inl ⟨by rfl, ?_⟩
                intro w' hSw
                (try dsimp only at hSw)
                go_simp
                all_goals (with_reducible rfl)
              · assumption
              try simp only [Act.put, List.setIfInBounds_toArray, List.set_cons_zero, List.set_cons_succ]
              refine wpAnyH_take (i := 3) (oi := ?_) (v := undef) ?_ ?_ ?_ ?_ ?_ ?_ ?_ ?_
              rotate_left 1
              · simp only [List.getElem?_toArray, List.getElem?_cons_succ, List.getElem?_cons_zero]; rfl
              · kernel_rfl
              · kernel_rfl
              · kernel_rfl
              · exact fun _ _ _ h => h
              · exact Or.inr ⟨by kernel_rfl, rfl⟩
              · assumption
              try simp only [Act.put, List.setIfInBounds_toArray, List.set_cons_zero, List.set_cons_succ]
              refine wpAnyH_take (i := 4) (oi := ?_) (v := undef) ?_ ?_ ?_ ?_ ?_ ?_ ?_ ?_
              rotate_left 1
              · simp only [List.getElem?_toArray, List.getElem?_cons_succ, List.getElem?_cons_zero]; rfl
              · kernel_rfl
              · kernel_rfl
              · kernel_rfl
              · exact fun _ _ _ h => h
              · exact Or.inr ⟨by kernel_rfl, rfl⟩
              · assumption
              try simp only [Act.put, List.setIfInBounds_toArray, List.set_cons_zero, List.set_cons_succ]
              refine wpAnyH_take (i := 5) (oi := ?_) (v := undef) ?_ ?_ ?_ ?_ ?_ ?_ ?_ ?_
              rotate_left 1
              · simp only [List.getElem?_toArray, List.getElem?_cons_succ, List.getElem?_cons_zero]; rfl
              · kernel_rfl
              · kernel_rfl
              · kernel_rfl
              · exact fun _ _ _ h => h
              · exact Or.inr ⟨by kernel_rfl, rfl⟩
              · assumption
              try simp only [Act.put, List.setIfInBounds_toArray, List.set_cons_zero, List.set_cons_succ]
              refine wpAnyH_take (i := 6) (oi := ?_) (v := undef) ?_ ?_ ?_ ?_ ?_ ?_ ?_ ?_
              rotate_left 1
              · simp only [List.getElem?_toArray, List.getElem?_cons_succ, List.getElem?_cons_zero]; rfl
              · kernel_rfl
              · kernel_rfl
              · kernel_rfl
              · exact fun _ _ _ h => h
              · exact Or.inr ⟨by kernel_rfl, rfl⟩
              · assumption
              try simp only [Act.put, List.setIfInBounds_toArray, List.set_cons_zero, List.set_cons_succ]
              refine wpAnyH_take (i := 7) (oi := ?_) (v := undef) ?_ ?_ ?_ ?_ ?_ ?_ ?_ ?_
              rotate_left 1
              · simp only [List.getElem?_toArray, List.getElem?_cons_succ, List.getElem?_cons_zero]; rfl
              · kernel_rfl
              · kernel_rfl
              · kernel_rfl
              · exact fun _ _ _ h => h
              · exact Or.inr ⟨by kernel_rfl, rfl⟩
              · assumption
              try simp only [Act.put, List.setIfInBounds_toArray, List.set_cons_zero, List.set_cons_succ]
              refine wpAnyH_take (i := 8) (oi := ?_) (v := undef) ?_ ?_ ?_ ?_ ?_ ?_ ?_ ?_
              rotate_left 1
              · simp only [List.getElem?_toArray, List.getElem?_cons_succ, List.getElem?_cons_zero]; rfl
              · kernel_rfl
              · kernel_rfl
              · kernel_rfl
              · exact fun _ _ _ h => h
              · exact Or.inr ⟨by kernel_rfl, rfl⟩
              · assumption
              try simp only [Act.put, List.setIfInBounds_toArray, List.set_cons_zero, List.set_cons_succ]
              refine wpAnyH_take (i := 9) (oi := ?_) (v := undef) ?_ ?_ ?_ ?_ ?_ ?_ ?_ ?_
              rotate_left 1
              · simp only [List.getElem?_toArray, List.getElem?_cons_succ, List.getElem?_cons_zero]; rfl
              · kernel_rfl
              · kernel_rfl
              · kernel_rfl
              · exact fun _ _ _ h => h
              · exact Or.inr ⟨by kernel_rfl, rfl⟩
              · assumption
              try simp only [Act.put, List.setIfInBounds_toArray, List.set_cons_zero, List.set_cons_succ]
              refine wpAnyH_take (i := 10) (oi := ?_) (v := undef) ?_ ?_ ?_ ?_ ?_ ?_ ?_ ?_
              rotate_left 1
              · simp only [List.getElem?_toArray, List.getElem?_cons_succ, List.getElem?_cons_zero]; rfl
              · kernel_rfl
              · kernel_rfl
              · kernel_rfl
              · exact fun _ _ _ h => h
              · exact Or.inr ⟨by kernel_rfl, rfl⟩
              · assumption
              try simp only [Act.put, List.setIfInBounds_toArray, List.set_cons_zero, List.set_cons_succ]
              refine wpAnyH_take (i := 11) (oi := ?_) (v := ?_) ?_ ?_ ?_ ?_ ?_ ?_ ?_ ?_
              rotate_left 2
              · simp only [List.getElem?_toArray, List.getElem?_cons_succ, List.getElem?_cons_zero]; rfl
              · kernel_rfl
              · kernel_rfl
              · kernel_rfl
              · exact fun _ _ _ h => h
              · refine Or.inl ⟨by rfl, ?_⟩
                intro w' hSw
                (try dsimp only at hSw)
                go_simp
                all_goals (with_reducible rfl)
              · assumption
              try simp only [Act.put, List.setIfInBounds_toArray, List.set_cons_zero, List.set_cons_succ]
              refine wpAnyH_done (by kernel_rfl) ?_ _
              clear hHeld sbj
              go_wp2
              go_roundg (N + 1 - (j + 1))
              case measure => have := HKJ.out; have := HJN.out; omega
              case rel => exact ⟨j + 1, nv + 1, sv + mz, mv + mz, HJN.out, Lib.hid rfl, rfl, rfl, rfl, HNV2, HS2, HMW2, HB2'⟩
          · by_cases h0 : j = 0
            · as_aux_lemma =>
                obtain ⟨tm, dl, pz, p2, p3, lz, g1, g2, g3, g4, g5, g6, g7, g8, g9, g10⟩ := ex_left (S := S) (t := t') (v := mz) (by have := HT'.out; omega) HW.out.2.1 (by omega)
                have HS2 := Lib.hid (show sv + lz = if j + 1 = 0 then 0 else EV + qsum S (e0 + 1) (nv + 1 - 1) l from by
                  rw [if_neg (by omega), show nv + 1 - 1 = nv by omega, HSV.out, if_pos h0, qsum_none S (show nv < e0 + 1 by omega), HEV.out, hsm, g9, hmz, show nv = e0 by omega]; simp)
                have fs : IntKind.i64.wrap (sv + lz) = sv + lz := by rw [IntKind.wrap_i64]; omega
                have b0 : (nv == e0) = true := by rw [beq_iff_eq]; omega
                have sbj := SBJ.out
                rw [hsm] at sbj
                clear hnv hq1 hq2 hq3 hl100 hsvb hmz hek hj hjn hsm m5 g9 g10 h0
                go_upto_region 27 with (fail)
                refine wp_region_held_drew (S := fun wx => ∀ i, wx.cell? ⟨rb, i, none⟩ = (#[.int .i64 Lm, .int .i64 Wd, .int .i64 0, .int .i64 Sl, .int .i64 0, .int .i64 0, .int .i64 Wi, .int .i64 0, .bool true] : Array Value)[i]?) (by kernel_rfl) sbj (fun hHeld => ?_)
                refine wpAnyH_take (i := 0) (oi := ?_) (v := ?_) ?_ ?_ ?_ ?_ ?_ ?_ ?_ ?_
                rotate_left 2
                · simp only [List.getElem?_toArray, List.getElem?_cons_succ, List.getElem?_cons_zero]; rfl
                · kernel_rfl
                · kernel_rfl
                · kernel_rfl
                · exact fun _ _ _ h => h
                · refine Or.inl ⟨by rfl, ?_⟩
                  intro w' hSw
                  (try dsimp only at hSw)
                  go_simp
                  all_goals (with_reducible rfl)
                · assumption
                try simp only [Act.put, List.setIfInBounds_toArray, List.set_cons_zero, List.set_cons_succ]
                refine wpAnyH_take (i := 1) (oi := ?_) (v := ?_) ?_ ?_ ?_ ?_ ?_ ?_ ?_ ?_
                rotate_left 2
                · simp only [List.getElem?_toArray, List.getElem?_cons_succ, List.getElem?_cons_zero]; rfl
                · kernel_rfl
                · kernel_rfl
                · kernel_rfl
                · exact fun _ _ _ h => h
                · refine Or.inl ⟨by rfl, ?_⟩
                  intro w' hSw
                  (try dsimp only at hSw)
                  go_simp
                  all_goals (with_reducible rfl)
                · assumption
                try simp only [Act.put, List.setIfInBounds_toArray, List.set_cons_zero, List.set_cons_succ]
                refine wpAnyH_take (i := 2) (oi := ?_) (v := ?_) ?_ ?_ ?_ ?_ ?_ ?_ ?_ ?_
                rotate_left 2
                · simp only [List.getElem?_toArray, List.getElem?_cons_succ, List.getElem?_cons_zero]; rfl
                · kernel_rfl
                · kernel_rfl
                · kernel_rfl
                · exact fun _ _ _ h => h
                · refine Or.inl ⟨by rfl, ?_⟩
                  intro w' hSw
                  (try dsimp only at hSw)
                  go_simp
                  all_goals (with_reducible rfl)
                · assumption
                try simp only [Act.put, List.setIfInBounds_toArray, List.set_cons_zero, List.set_cons_succ]
                refine wpAnyH_take (i := 3) (oi := ?_) (v := ?_) ?_ ?_ ?_ ?_ ?_ ?_ ?_ ?_
                rotate_left 2
                · simp only [List.getElem?_toArray, List.getElem?_cons_succ, List.getElem?_cons_zero]; rfl
                · kernel_rfl
                · kernel_rfl
                · kernel_rfl
                · exact fun _ _ _ h => h
                · refine Or.inl ⟨by rfl, ?_⟩
                  intro w' hSw
                  (try dsimp only at hSw)
                  go_simp
                  all_goals (with_reducible rfl)
                · assumption
                try simp only [Act.put, List.setIfInBounds_toArray, List.set_cons_zero, List.set_cons_succ]
                refine wpAnyH_take (i := 4) (oi := ?_) (v := ?_) ?_ ?_ ?_ ?_ ?_ ?_ ?_ ?_
                rotate_left 2
                · simp only [List.getElem?_toArray, List.getElem?_cons_succ, List.getElem?_cons_zero]; rfl
                · kernel_rfl
                · kernel_rfl
                · kernel_rfl
                · exact fun _ _ _ h => h
                · refine Or.inl ⟨by rfl, ?_⟩
                  intro w' hSw
                  (try dsimp only at hSw)
                  go_simp
                  all_goals (with_reducible rfl)
                · assumption
                try simp only [Act.put, List.setIfInBounds_toArray, List.set_cons_zero, List.set_cons_succ]
                refine wpAnyH_take (i := 5) (oi := ?_) (v := ?_) ?_ ?_ ?_ ?_ ?_ ?_ ?_ ?_
                rotate_left 2
                · simp only [List.getElem?_toArray, List.getElem?_cons_succ, List.getElem?_cons_zero]; rfl
                · kernel_rfl
                · kernel_rfl
                · kernel_rfl
                · exact fun _ _ _ h => h
                · refine Or.inl ⟨by rfl, ?_⟩
                  intro w' hSw
                  (try dsimp only at hSw)
                  go_simp
                  all_goals (with_reducible rfl)
                · assumption
                try simp only [Act.put, List.setIfInBounds_toArray, List.set_cons_zero, List.set_cons_succ]
                refine wpAnyH_take (i := 6) (oi := ?_) (v := ?_) ?_ ?_ ?_ ?_ ?_ ?_ ?_ ?_
                rotate_left 2
                · simp only [List.getElem?_toArray, List.getElem?_cons_succ, List.getElem?_cons_zero]; rfl
                · kernel_rfl
                · kernel_rfl
                · kernel_rfl
                · exact fun _ _ _ h => h
                · refine Or.inl ⟨by rfl, ?_⟩
                  intro w' hSw
                  (try dsimp only at hSw)
                  go_simp
                  all_goals (with_reducible rfl)
                · assumption
                try simp only [Act.put, List.setIfInBounds_toArray, List.set_cons_zero, List.set_cons_succ]
                refine wpAnyH_take (i := 7) (oi := ?_) (v := ?_) ?_ ?_ ?_ ?_ ?_ ?_ ?_ ?_
                rotate_left 2
                · simp only [List.getElem?_toArray, List.getElem?_cons_succ, List.getElem?_cons_zero]; rfl
                · kernel_rfl
                · kernel_rfl
                · kernel_rfl
                · exact fun _ _ _ h => h
                · refine Or.inl ⟨by rfl, ?_⟩
                  intro w' hSw
                  (try dsimp only at hSw)
                  go_simp
                  all_goals (with_reducible rfl)
                · assumption
                try simp only [Act.put, List.setIfInBounds_toArray, List.set_cons_zero, List.set_cons_succ]
                refine wpAnyH_take (i := 8) (oi := ?_) (v := ?_) ?_ ?_ ?_ ?_ ?_ ?_ ?_ ?_
                rotate_left 2
                · simp only [List.getElem?_toArray, List.getElem?_cons_succ, List.getElem?_cons_zero]; rfl
                · kernel_rfl
                · kernel_rfl
                · kernel_rfl
                · exact fun _ _ _ h => h
                · refine Or.inl ⟨by rfl, ?_⟩
                  intro w' hSw
                  (try dsimp only at hSw)
                  go_simp
                  all_goals (with_reducible rfl)
                · assumption
                try simp only [Act.put, List.setIfInBounds_toArray, List.set_cons_zero, List.set_cons_succ]
                refine wpAnyH_take (i := 9) (oi := ?_) (v := ?_) ?_ ?_ ?_ ?_ ?_ ?_ ?_ ?_
                rotate_left 2
                · simp only [List.getElem?_toArray, List.getElem?_cons_succ, List.getElem?_cons_zero]; rfl
                · kernel_rfl
                · kernel_rfl
                · kernel_rfl
                · exact fun _ _ _ h => h
                · refine Or.inl ⟨by rfl, ?_⟩
                  intro w' hSw
                  (try dsimp only at hSw)
                  go_simp
                  all_goals (with_reducible rfl)
                · assumption
                try simp only [Act.put, List.setIfInBounds_toArray, List.set_cons_zero, List.set_cons_succ]
                refine wpAnyH_take (i := 10) (oi := ?_) (v := ?_) ?_ ?_ ?_ ?_ ?_ ?_ ?_ ?_
                rotate_left 2
                · simp only [List.getElem?_toArray, List.getElem?_cons_succ, List.getElem?_cons_zero]; rfl
                · kernel_rfl
                · kernel_rfl
                · kernel_rfl
                · exact fun _ _ _ h => h
                · refine Or.inl ⟨by rfl, ?_⟩
                  intro w' hSw
                  (try dsimp only at hSw)
                  go_simp
                  all_goals (with_reducible rfl)
                · assumption
                try simp only [Act.put, List.setIfInBounds_toArray, List.set_cons_zero, List.set_cons_succ]
                refine wpAnyH_take (i := 11) (oi := ?_) (v := ?_) ?_ ?_ ?_ ?_ ?_ ?_ ?_ ?_
                rotate_left 2
                · simp only [List.getElem?_toArray, List.getElem?_cons_succ, List.getElem?_cons_zero]; rfl
                · kernel_rfl
                · kernel_rfl
                · kernel_rfl
                · exact fun _ _ _ h => h
                · refine Or.inl ⟨by rfl, ?_⟩
                  intro w' hSw
                  (try dsimp only at hSw)
                  go_simp
                  all_goals (with_reducible rfl)
                · assumption
                try simp only [Act.put, List.setIfInBounds_toArray, List.set_cons_zero, List.set_cons_succ]
                refine wpAnyH_done (by kernel_rfl) ?_ _
                clear hHeld sbj
                go_wp2
                go_roundg (N + 1 - (j + 1))
                case measure => have := HKJ.out; have := HJN.out; omega
                case rel => exact ⟨j + 1, nv + 1, sv + lz, mv + mz, HJN.out, Lib.hid rfl, rfl, rfl, rfl, HNV2, HS2, HMW2, HB2'⟩
            · as_aux_lemma =>
                have HS2 := Lib.hid (show sv + mz = if j + 1 = 0 then 0 else EV + qsum S (e0 + 1) (nv + 1 - 1) l from by
                  rw [if_neg (by omega), show nv + 1 - 1 = nv by omega, HSV.out, if_neg h0, qsum_split S (a := e0 + 1) (b := nv) (c := nv - 1) (by omega) (by omega), show nv - 1 + 1 = nv by omega, ← hmz]; omega)
                have fs : IntKind.i64.wrap (sv + mz) = sv + mz := by rw [IntKind.wrap_i64]; omega
                have b0 : (nv == e0) = false := by rw [beq_eq_false_iff_ne]; omega
                have sbj := SBJ.out
                rw [hsm] at sbj
                clear hnv hq1 hq2 hq3 hl100 hsvb hmz hek hj hjn hsm m5 h0
                go_upto_region 27 with (fail)
                refine wp_region_held_drew (S := fun wx => ∀ i, wx.cell? ⟨rb, i, none⟩ = (#[.int .i64 Lm, .int .i64 Wd, .int .i64 0, .int .i64 Sl, .int .i64 0, .int .i64 0, .int .i64 Wi, .int .i64 0, .bool true] : Array Value)[i]?) (by kernel_rfl) sbj (fun hHeld => ?_)
                refine wpAnyH_take (i := 0) (oi := ?_) (v := ?_) ?_ ?_ ?_ ?_ ?_ ?_ ?_ ?_
                rotate_left 2
                · simp only [List.getElem?_toArray, List.getElem?_cons_succ, List.getElem?_cons_zero]; rfl
                · kernel_rfl
                · kernel_rfl
                · kernel_rfl
                · exact fun _ _ _ h => h
                · refine Or.inl ⟨by rfl, ?_⟩
                  intro w' hSw
                  (try dsimp only at hSw)
                  go_simp
                  all_goals (with_reducible rfl)
                · assumption
                try simp only [Act.put, List.setIfInBounds_toArray, List.set_cons_zero, List.set_cons_succ]
                refine wpAnyH_take (i := 1) (oi := ?_) (v := ?_) ?_ ?_ ?_ ?_ ?_ ?_ ?_ ?_
                rotate_left 2
                · simp only [List.getElem?_toArray, List.getElem?_cons_succ, List.getElem?_cons_zero]; rfl
                · kernel_rfl
                · kernel_rfl
                · kernel_rfl
                · exact fun _ _ _ h => h
                · refine Or.inl ⟨by rfl, ?_⟩
                  intro w' hSw
                  (try dsimp only at hSw)
                  go_simp
                  all_goals (with_reducible rfl)
                · assumption
                try simp only [Act.put, List.setIfInBounds_toArray, List.set_cons_zero, List.set_cons_succ]
                refine wpAnyH_take (i := 2) (oi := ?_) (v := ?_) ?_ ?_ ?_ ?_ ?_ ?_ ?_ ?_
                rotate_left 2
                · simp only [List.getElem?_toArray, List.getElem?_cons_succ, List.getElem?_cons_zero]; rfl
                · kernel_rfl
                · kernel_rfl
                · kernel_rfl
                · exact fun _ _ _ h => h
                · refine Or.inl ⟨by rfl, ?_⟩
                  intro w' hSw
                  (try dsimp only at hSw)
                  go_simp
                  all_goals (with_reducible rfl)
                · assumption
                try simp only [Act.put, List.setIfInBounds_toArray, List.set_cons_zero, List.set_cons_succ]
                refine wpAnyH_take (i := 3) (oi := ?_) (v := ?_) ?_ ?_ ?_ ?_ ?_ ?_ ?_ ?_
                rotate_left 2
                · simp only [List.getElem?_toArray, List.getElem?_cons_succ, List.getElem?_cons_zero]; rfl
                · kernel_rfl
                · kernel_rfl
                · kernel_rfl
                · exact fun _ _ _ h => h
                · refine Or.inl ⟨by rfl, ?_⟩
                  intro w' hSw
                  (try dsimp only at hSw)
                  go_simp
                  all_goals (with_reducible rfl)
                · assumption
                try simp only [Act.put, List.setIfInBounds_toArray, List.set_cons_zero, List.set_cons_succ]
                refine wpAnyH_take (i := 4) (oi := ?_) (v := ?_) ?_ ?_ ?_ ?_ ?_ ?_ ?_ ?_
                rotate_left 2
                · simp only [List.getElem?_toArray, List.getElem?_cons_succ, List.getElem?_cons_zero]; rfl
                · kernel_rfl
                · kernel_rfl
                · kernel_rfl
                · exact fun _ _ _ h => h
                · refine Or.inl ⟨by rfl, ?_⟩
                  intro w' hSw
                  (try dsimp only at hSw)
                  go_simp
                  all_goals (with_reducible rfl)
                · assumption
                try simp only [Act.put, List.setIfInBounds_toArray, List.set_cons_zero, List.set_cons_succ]
                refine wpAnyH_take (i := 5) (oi := ?_) (v := ?_) ?_ ?_ ?_ ?_ ?_ ?_ ?_ ?_
                rotate_left 2
                · simp only [List.getElem?_toArray, List.getElem?_cons_succ, List.getElem?_cons_zero]; rfl
                · kernel_rfl
                · kernel_rfl
                · kernel_rfl
                · exact fun _ _ _ h => h
                · refine Or.inl ⟨by rfl, ?_⟩
                  intro w' hSw
                  (try dsimp only at hSw)
                  go_simp
                  all_goals (with_reducible rfl)
                · assumption
                try simp only [Act.put, List.setIfInBounds_toArray, List.set_cons_zero, List.set_cons_succ]
                refine wpAnyH_take (i := 6) (oi := ?_) (v := ?_) ?_ ?_ ?_ ?_ ?_ ?_ ?_ ?_
                rotate_left 2
                · simp only [List.getElem?_toArray, List.getElem?_cons_succ, List.getElem?_cons_zero]; rfl
                · kernel_rfl
                · kernel_rfl
                · kernel_rfl
                · exact fun _ _ _ h => h
                · refine Or.inl ⟨by rfl, ?_⟩
                  intro w' hSw
                  (try dsimp only at hSw)
                  go_simp
                  all_goals (with_reducible rfl)
                · assumption
                try simp only [Act.put, List.setIfInBounds_toArray, List.set_cons_zero, List.set_cons_succ]
                refine wpAnyH_take (i := 7) (oi := ?_) (v := ?_) ?_ ?_ ?_ ?_ ?_ ?_ ?_ ?_
                rotate_left 2
                · simp only [List.getElem?_toArray, List.getElem?_cons_succ, List.getElem?_cons_zero]; rfl
                · kernel_rfl
                · kernel_rfl
                · kernel_rfl
                · exact fun _ _ _ h => h
                · refine Or.inl ⟨by rfl, ?_⟩
                  intro w' hSw
                  (try dsimp only at hSw)
                  go_simp
                  all_goals (with_reducible rfl)
                · assumption
                try simp only [Act.put, List.setIfInBounds_toArray, List.set_cons_zero, List.set_cons_succ]
                refine wpAnyH_take (i := 8) (oi := ?_) (v := ?_) ?_ ?_ ?_ ?_ ?_ ?_ ?_ ?_
                rotate_left 2
                · simp only [List.getElem?_toArray, List.getElem?_cons_succ, List.getElem?_cons_zero]; rfl
                · kernel_rfl
                · kernel_rfl
                · kernel_rfl
                · exact fun _ _ _ h => h
                · refine Or.inl ⟨by rfl, ?_⟩
                  intro w' hSw
                  (try dsimp only at hSw)
                  go_simp
                  all_goals (with_reducible rfl)
                · assumption
                try simp only [Act.put, List.setIfInBounds_toArray, List.set_cons_zero, List.set_cons_succ]
                refine wpAnyH_take (i := 9) (oi := ?_) (v := ?_) ?_ ?_ ?_ ?_ ?_ ?_ ?_ ?_
                rotate_left 2
                · simp only [List.getElem?_toArray, List.getElem?_cons_succ, List.getElem?_cons_zero]; rfl
                · kernel_rfl
                · kernel_rfl
                · kernel_rfl
                · exact fun _ _ _ h => h
                · refine Or.inl ⟨by rfl, ?_⟩
                  intro w' hSw
                  (try dsimp only at hSw)
                  go_simp
                  all_goals (with_reducible rfl)
                · assumption
                try simp only [Act.put, List.setIfInBounds_toArray, List.set_cons_zero, List.set_cons_succ]
                refine wpAnyH_take (i := 10) (oi := ?_) (v := ?_) ?_ ?_ ?_ ?_ ?_ ?_ ?_ ?_
                rotate_left 2
                · simp only [List.getElem?_toArray, List.getElem?_cons_succ, List.getElem?_cons_zero]; rfl
                · kernel_rfl
                · kernel_rfl
                · kernel_rfl
                · exact fun _ _ _ h => h
                · refine Or.inl ⟨by rfl, ?_⟩
                  intro w' hSw
                  (try dsimp only at hSw)
                  go_simp
                  all_goals (with_reducible rfl)
                · assumption
                try simp only [Act.put, List.setIfInBounds_toArray, List.set_cons_zero, List.set_cons_succ]
                refine wpAnyH_take (i := 11) (oi := ?_) (v := ?_) ?_ ?_ ?_ ?_ ?_ ?_ ?_ ?_
                rotate_left 2
                · simp only [List.getElem?_toArray, List.getElem?_cons_succ, List.getElem?_cons_zero]; rfl
                · kernel_rfl
                · kernel_rfl
                · kernel_rfl
                · exact fun _ _ _ h => h
                · refine Or.inl ⟨by rfl, ?_⟩
                  intro w' hSw
                  (try dsimp only at hSw)
                  go_simp
                  all_goals (with_reducible rfl)
                · assumption
                try simp only [Act.put, List.setIfInBounds_toArray, List.set_cons_zero, List.set_cons_succ]
                refine wpAnyH_done (by kernel_rfl) ?_ _
                clear hHeld sbj
                go_wp2
                go_roundg (N + 1 - (j + 1))
                case measure => have := HKJ.out; have := HJN.out; omega
                case rel => exact ⟨j + 1, nv + 1, sv + mz, mv + mz, HJN.out, Lib.hid rfl, rfl, rfl, rfl, HNV2, HS2, HMW2, HB2'⟩
        · as_aux_lemma =>
            have hnv := HNV.out
            have t3 : decide (nv ≤ k0) = false := by rw [decide_eq_false_iff_not]; omega
            have GJ := Lib.hid (GZ.out.keep HBJ.out)
            have hsv : sv = EV + qsum S (e0 + 1) k0 l := by
              have h := HSV.out
              rw [if_neg (by omega), show nv - 1 = k0 by omega] at h
              exact h
            have hmv : mv = qsum S e0 k0 l := by
              have h := HMW.out
              rw [show nv - 1 = k0 by omega] at h
              exact h
            have CE := Lib.hid (fun wx (hx : RgAt wx R ⟨t', σ.num, σ.F⟩) => show Calls Try.prog 18 #[.pointer (some ⟨R.x, 0, none⟩), .string ⟨#[107]⟩] wx (fun e w' => e = .returned (.int .i64 sv) ∧ Below wx.heap.size wx w') from by
              have h := restimate_any ⟨#[107]⟩ HK107.out wx hx
              rw [(HTL.out wx hx).1, ← HEV.out, ← hsv] at h
              exact h)
            have CM0 := Lib.hid (fun wx (hx : RgAt wx R ⟨t', σ.num, σ.F⟩) => show Calls Try.prog 19 #[.pointer (some ⟨R.x, 0, none⟩), .int .i64 0, .string ⟨#[107]⟩] wx (fun e w' => e = .returned (.int .i64 mv) ∧ Below wx.heap.size wx w') from by
              have h := rmass_any 0 (by omega) ⟨#[107]⟩ HK107.out wx hx
              have h2 := (HTL.out wx hx).2 0 (by omega)
              rw [show msum R ⟨t', σ.num, σ.F⟩ 0 ⟨#[107]⟩ (RgS.now ⟨t', σ.num, σ.F⟩ R - ((R.n : Int) - 1)) R.n = qsum S e0 k0 l from h2, ← hmv] at h
              exact h)
            have CM1 := Lib.hid (fun wx (hx : RgAt wx R ⟨t', σ.num, σ.F⟩) => show Calls Try.prog 19 #[.pointer (some ⟨R.x, 0, none⟩), .int .i64 1, .string ⟨#[107]⟩] wx (fun e w' => e = .returned (.int .i64 mv) ∧ Below wx.heap.size wx w') from by
              have h := rmass_any 1 (by omega) ⟨#[107]⟩ HK107.out wx hx
              have h2 := (HTL.out wx hx).2 1 (by omega)
              rw [show msum R ⟨t', σ.num, σ.F⟩ 1 ⟨#[107]⟩ (RgS.now ⟨t', σ.num, σ.F⟩ R - ((R.n : Int) - 1)) R.n = qsum S e0 k0 l from h2, ← hmv] at h
              exact h)
            have CM2 := Lib.hid (fun wx (hx : RgAt wx R ⟨t', σ.num, σ.F⟩) => show Calls Try.prog 19 #[.pointer (some ⟨R.x, 0, none⟩), .int .i64 2, .string ⟨#[107]⟩] wx (fun e w' => e = .returned (.int .i64 0) ∧ Below wx.heap.size wx w') from by
              have h := rmass_any 2 (by omega) ⟨#[107]⟩ HK107.out wx hx
              rw [msum_off (by rw [HK2.out]; omega)] at h
              exact h)
            have b1 : (sv == sv) = true := by simp
            have b2 : (mv == mv) = true := by simp
            clear hnv hsv hmv hek hjn m5
            go_wp2_with (first
              | (go_at_call 18; ((with_reducible refine (CE.out _ GJ.out.at_).mono ?_); rintro e v1 ⟨rfl, b5⟩; have G1 := Lib.hid (GJ.out.keep b5); clear b5))
              | (go_at_call 19; first
                | ((with_reducible refine (CM0.out _ G1.out.at_).mono ?_); rintro e v2 ⟨rfl, b5⟩; have G2 := Lib.hid (G1.out.keep b5); clear b5)
                | ((with_reducible refine (CM1.out _ G2.out.at_).mono ?_); rintro e v3 ⟨rfl, b5⟩; have G3 := Lib.hid (G2.out.keep b5); clear b5)
                | ((with_reducible refine (CM2.out _ G3.out.at_).mono ?_); rintro e v4 ⟨rfl, b5⟩; have G4 := Lib.hid (G3.out.keep b5); clear b5)))
            go_ret
            exact ⟨rfl, G4.out.bl⟩
end Go.Proofs.Ythfaeapodfgldaa
