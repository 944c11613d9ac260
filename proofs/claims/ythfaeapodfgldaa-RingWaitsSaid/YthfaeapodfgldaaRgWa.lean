/- The law RingWaits of layer 7 (ring), walked. -/
import Derived.Test.YthfaeapodfgldaaRgX
namespace Go.Proofs.Ythfaeapodfgldaa
set_option linter.unusedSimpArgs false
set_option linter.unusedVariables false
open Go.ChangeShapes Go.WideShapes Go.ChangeAt Go.RowKit
open Ar (inR)
set_option maxRecDepth 100000 in
set_option maxHeartbeats 4000000 in
theorem rgwaits_law (w : World) (a b c d : Int) (sm : Bool) (A2 : Option Addr) (n2 c2 : Nat) (L : List (Int × Int × ByteArray)) (cost : Int) (hr2 : RdL w A2 n2 c2 3 encIIS L) (hok : ∀ a ∈ L, okIIS a) (_hc : inR cost) :
    Calls Try.prog 5 #[.agg #[.int .i64 a, .int .i64 b, .int .i64 c, .int .i64 d, .bool sm], .slice A2 n2 c2, .int .i64 cost] w fun e w' => e = .returned (.bool true) ∧ Below w.heap.size w w' := by
  have hmx2 := hr2.max
  unfold maxLen at hmx2
  have hcp2 := hr2.cap
  have HR2 := Lib.hid hr2
  have HO := Lib.hid hok
  clear hr2 hok _hc
  obtain ⟨w1, hw1, k1, l1', s1⟩ := box_new w #[.int .i64 a, .int .i64 b, .int .i64 c, .int .i64 d, .bool sm] 23
  obtain ⟨pl, hpl⟩ : ∃ x, x = w.heap.size := ⟨_, rfl⟩
  rw [← hpl] at k1
  have K2 := Lib.hid (And.intro k1 l1')
  have HB := Lib.hid hpl
  clear k1 l1' s1
  go_enter Try.func5, Try.ntmps5
  go_upto_region 1 with (fail)
  rw [← HB.out]
  clear hw1 hpl
  go_upto_region 3 with (go_at_call 10; ((refine (rgfit_any _).mono ?_); rintro e w3 ⟨rfl, b3⟩; have K3 := Lib.hid (And.intro (K2.out.1.keep b3) (K2.out.2.trans (b3.mono K2.out.2.size))); clear b3))
  have CLi := Lib.hid (rglight_any A2 n2 c2 L w3 (HR2.out.below K3.out.2) HO.out)
  cases hlb : lightR L with
  | false =>
    rw [hlb] at CLi
    go_wp2_with (go_at_call 11; ((with_reducible refine CLi.out.mono ?_); rintro e w4 ⟨rfl, b4⟩; have T4 := Lib.hid (K3.out.2.trans (b4.mono K3.out.2.size)); clear b4))
    go_ret
    exact ⟨rfl, T4.out⟩
  | true =>
  rw [hlb] at CLi
  have hlen : L.length ≤ 100 := by unfold lightR at hlb; simp at hlb; exact hlb.1
  have hln := HR2.out.len
  have hb2 : (n2 : Int) ≤ 100 := by omega
  clear hlb hlen hln
  go_upto_region 5 with (go_at_call 11; ((with_reducible refine CLi.out.mono ?_); rintro e w4 ⟨rfl, b4⟩; have K4 := Lib.hid (And.intro (K3.out.1.keep b4) (K3.out.2.trans (b4.mono K3.out.2.size))); clear b4))
  clear CLi
  have kp := K4.out.1.rd
  have CRu := Lib.hid (rgrule_any a b c d sm w4)
  obtain ⟨Lm, hLm⟩ : ∃ x, x = plL d := ⟨_, rfl⟩
  obtain ⟨Wd, hWd⟩ : ∃ x, x = ((plS b * plN a : Nat) : Int) := ⟨_, rfl⟩
  obtain ⟨Sl, hSl⟩ : ∃ x, x = ((plN a : Nat) : Int) := ⟨_, rfl⟩
  obtain ⟨Wi, hWi⟩ : ∃ x, x = ((plW c : Nat) : Int) := ⟨_, rfl⟩
  have CNw := Lib.hid (fun b0 wx (hr : RowsAt wx b0 1 (rX []) (rA []) (rB [])) => plan_new a b c d sm 1 (by omega) b0 _ _ _ wx hr (rows_lt [] 1))
  rw [← hLm, ← hWd, ← hSl, ← hWi] at CRu CNw
  have hLb : 1 ≤ Lm ∧ Lm ≤ 64 := by rw [hLm]; unfold plL; omega
  obtain ⟨S, hS⟩ : ∃ S, S = plS b := ⟨_, rfl⟩
  obtain ⟨N, hN⟩ : ∃ N, N = plN a := ⟨_, rfl⟩
  have hSb : 1 ≤ S ∧ S ≤ 32 := by rw [hS]; unfold plS; omega
  have hNb : 1 ≤ N ∧ N ≤ 8 := by rw [hN]; unfold plN; omega
  have hWS : Wd = (S : Int) * (N : Int) := by rw [hWd, hS, hN, Int.natCast_mul]
  have hSN : Sl = (N : Int) := by rw [hSl, hN]
  have hWb : 0 ≤ Wd ∧ Wd ≤ 256 := by
    have : S * N ≤ 32 * 8 := Nat.mul_le_mul hSb.2 hNb.2
    rw [hWS, ← Int.natCast_mul]; omega
  have hq0 : Wd.tdiv Sl = (S : Int) := by
    rw [hWS, hSN, ← Int.natCast_mul, Int.tdiv_eq_ediv_of_nonneg (Int.natCast_nonneg _), ← Int.natCast_ediv, Nat.mul_div_cancel _ (by omega)]
  have HW := Lib.hid (And.intro hWb (And.intro hSb (And.intro hNb (And.intro hq0 (And.intro hWS (And.intro hSN (And.intro hS hN)))))))
  have hSl0 : ¬ Sl = 0 := by omega
  have s0 : IntKind.i64.wrap (S : Int) = (S : Int) := by rw [IntKind.wrap_i64]; omega
  obtain ⟨z0, hz0⟩ : ∃ z, z = cost % 64 := ⟨_, rfl⟩
  have e0 : bits .and .i64 cost 63 = z0 := by rw [hz0]; exact i64_mask6 cost
  have hzb : 0 ≤ z0 ∧ z0 < 64 := by omega
  obtain ⟨x0, hx0⟩ : ∃ x, x = z0 % Lm := ⟨_, rfl⟩
  have m0 : z0.tmod Lm = x0 := by rw [hx0]; exact Int.tmod_eq_emod_of_nonneg hzb.1
  have q0 : 0 ≤ x0 := by rw [hx0]; exact Int.emod_nonneg z0 (by omega : Lm ≠ 0)
  have q1 : x0 < Lm := by rw [hx0]; exact Int.emod_lt_of_pos z0 (by omega : 0 < Lm)
  obtain ⟨cz, hcz⟩ : ∃ cz, cz = x0 + 1 := ⟨_, rfl⟩
  have f0 : IntKind.i64.wrap (x0 + 1) = cz := by rw [IntKind.wrap_i64, hcz]; clear m0 hx0; omega
  have HC := Lib.hid (show (1 ≤ cz ∧ cz ≤ Lm) ∧ Lm ≤ 64 by clear m0 hx0; omega)
  have HLM := Lib.hid hLm
  have hL0 : ¬ Lm = 0 := by clear m0 hx0; omega
  clear hz0 hzb hx0 q0 q1 hcz
  clear hLm hWd hSl hWi hLb hSb hNb hWS hSN hWb hS hN
  go_upto_region 6 with (go_at_call 12; ((with_reducible refine CRu.out.mono ?_); rintro e w5 ⟨rfl, b5⟩; obtain ⟨y1, y2, ey1, kr9, kw9, ey2, bl9, kc9⟩ := box9R w5 (.int .i64 Lm) (.int .i64 Wd) (.int .i64 0) (.int .i64 Sl) (.int .i64 0) (.int .i64 0) (.int .i64 Wi) (.int .i64 0) (.bool sm); have K6 := Lib.hid (And.intro kc9 ((K4.out.2.trans (b5.mono K4.out.2.size)).trans (bl9.mono (Nat.le_trans K4.out.2.size b5.size)))); clear b5 bl9 kc9))
  clear ey1 kr9 kw9 ey2 kp CRu
  obtain ⟨rb, hrb⟩ : ∃ rb, rb = w5.heap.size := ⟨_, rfl⟩
  rw [← hrb] at K6 ⊢
  clear hrb
  have kru0 := K6.out.1.rd
  go_upto_region 7 with (fail)
  clear kru0 e0 m0 f0 hL0
  have CR := Lib.hid (fun wx (hb : Below y2.heap.size y2 wx) => show Calls Try.prog 14 #[.slice none 0 0, .int .i64 1] wx (fun e w' => e = .returned (.slice (some ⟨wx.heap.size, 0, none⟩) 1 1) ∧ RowsAt w' wx.heap.size 1 (rX []) (rA []) (rB []) ∧ Below wx.heap.size wx w') from rows_any wx none 0 0 [] (rdI_none wx _) 1 (by omega))
  have SB := Lib.hid (fun wx (hb : Below y2.heap.size y2 wx) => show ∀ i, wx.cell? ⟨rb, i, none⟩ = (#[.int .i64 Lm, .int .i64 Wd, .int .i64 0, .int .i64 Sl, .int .i64 0, .int .i64 0, .int .i64 Wi, .int .i64 0, .bool sm] : Array Value)[i]? from (K6.out.1.keep hb).rd)
  have D7 := Lib.hid (show Below y2.heap.size y2 y2.drew from below_draws (Below.refl _ _) 1)
  have k7 := SB.out _ D7.out
  go_region_held3 (fun wx => ∀ i, wx.cell? ⟨rb, i, none⟩ = (#[.int .i64 Lm, .int .i64 Wd, .int .i64 0, .int .i64 Sl, .int .i64 0, .int .i64 0, .int .i64 Wi, .int .i64 0, .bool sm] : Array Value)[i]?) (first | assumption | exact SB.out _ D8.out | exact SB.out _ D9.out)
    (first
      | (go_at_call 14; ((with_reducible refine (CR.out _ D7.out).mono ?_); rintro e w8 ⟨rfl, r8, b8⟩; have R8 := Lib.hid (show RowsAt w8 y2.heap.size 1 (rX []) (rA []) (rB []) from r8); have D8 := Lib.hid (D7.out.trans (b8.mono D7.out.size)); clear r8 b8))
      | (go_at_call 13; ((with_reducible refine (CNw.out _ _ R8.out).mono ?_); rintro e w9 ⟨R, rfl, s9, n1, n2, b9⟩; have D9 := Lib.hid (D8.out.trans (b9.mono D8.out.size)); have NR := Lib.hid n1; have NS := Lib.hid n2; have BR := Lib.hid (show ¬ R.F rb from fun hh => by have := n2 rb (Or.inl hh); have := D8.out.size; have := K6.out.1; have := lt_of_block this; omega); have G9 := Lib.hid (show GA w w9 R ⟨0, fun _ => 0, fun _ _ _ => 0⟩ from ⟨s9, fun b hb => Nat.le_trans (Nat.le_trans K6.out.2.size D8.out.size) (n2 b hb), K6.out.2.trans (D9.out.mono K6.out.2.size)⟩); have KB := Lib.hid (K6.out.1.keep D9.out); clear s9 n1 n2 b9)))
  clear k7 SB CR CNw
  have hk107 : (⟨#[107]⟩ : ByteArray).size ≤ maxLen := by show 1 ≤ maxLen; unfold maxLen; omega
  have HK107 := Lib.hid hk107
  clear hk107
  have HL := Lib.hid (show R.L = Lm by rw [NR.out.2.2.1, HLM.out])
  have HN := Lib.hid (show R.n = N + 1 by rw [NR.out.1, HW.out.2.2.2.2.2.2.2])
  have HS := Lib.hid (show R.s = S by rw [NR.out.2.1, HW.out.2.2.2.2.2.2.1])
  have hlen2 : n2 ≤ 100 := by omega
  have k9 := KB.out.rd
  go_upto_region 11 with (fail)
  clear k9 hSl0 s0 hq0
  go_wp2
  go_loopg [38, 10] n2 (fun kk si sn wr => ∃ (i : Nat) (t : Int) (σ : RgS), i ≤ n2 ∧ Hid (kk = n2 - i) ∧ si = .int .i64 (i : Int) ∧ sn = .int .i64 t ∧ Hid (0 ≤ t ∧ t ≤ 4095 * (i : Int)) ∧ Hid (σ.t = t) ∧ Hid (GA w wr R σ) ∧ Hid (FewR R σ (31 * (i : Int))) ∧ Hid (Blk wr rb 29 #[.int .i64 Lm, .int .i64 Wd, .int .i64 0, .int .i64 Sl, .int .i64 0, .int .i64 0, .int .i64 Wi, .int .i64 0, .bool sm]))
  case atStart => exact ⟨0, 0, _, by omega, Lib.hid rfl, rfl, rfl, Lib.hid (by omega), Lib.hid rfl, G9, Lib.hid (FewR.new R), KB⟩
  case round =>
    obtain ⟨i, t, σ, hi, HKK, rfl, rfl, HT, HTt, HG, HF, HB2⟩ := hrel
    by_cases hin : i < n2
    · have hl2 := HR2.out.len
      obtain ⟨b', off, rfl, hbl, hc⟩ := (HR2.out.below HG.out.bl).at_ (by omega)
      obtain ⟨⟨gp, cs, ky⟩, ha⟩ : ∃ a, L[i]? = some a := ⟨_, List.getElem?_eq_getElem (by omega)⟩
      have kr0 : wr.cell? ⟨b', off + i * 3, none⟩ = some (.int .i64 gp) := hc i _ ha 0 (by omega)
      have kr1 : wr.cell? ⟨b', off + i * 3 + 1, none⟩ = some (.int .i64 cs) := hc i _ ha 1 (by omega)
      have kr2 : wr.cell? ⟨b', off + i * 3 + 2, none⟩ = some (.string ky) := hc i _ ha 2 (by omega)
      obtain ⟨y1, y2, ey1, kr, kw, ey2, bl2, kc2⟩ := box3R wr 37 (.int .i64 0) (.int .i64 0) (.string ⟨#[]⟩) (.int .i64 gp) (.int .i64 cs) (.string ky)
      have G6 := Lib.hid (HG.out.keep bl2)
      have B6 := Lib.hid (HB2.out.keep bl2)
      obtain ⟨bx, hbx⟩ : ∃ bx, bx = wr.heap.size := ⟨_, rfl⟩
      have HBX := Lib.hid (show ¬ R.F bx from fun hh => by have := HG.out.at_.lt bx (Or.inl hh); omega)
      rw [← hbx] at kc2
      have kc3 := kc2.rd
      have KC := Lib.hid kc2
      obtain ⟨g, hg⟩ : ∃ g, g = gapR gp := ⟨_, rfl⟩
      have hgb : 0 ≤ g ∧ g ≤ 4095 := by rw [hg]; exact gapR_bd gp
      have CG := Lib.hid (fun wx => rggap_any gp wx)
      rw [← hg] at CG
      obtain ⟨t', ht'⟩ : ∃ t', t' = t + g := ⟨_, rfl⟩
      have hT := HT.out
      have et : IntKind.i64.wrap (t + g) = t' := by rw [IntKind.wrap_i64]; omega
      have HT' := Lib.hid (show (0 ≤ t' ∧ t' ≤ 4095 * ((i : Int) + 1)) ∧ t ≤ t' ∧ t' ≤ 9223372036854775807 by omega)
      obtain ⟨q, hq⟩ : ∃ q, q = cs % 32 := ⟨_, rfl⟩
      have eq : bits .and .i64 cs 31 = q := by rw [hq]; exact i64_mask5 cs
      have HQ := Lib.hid (show 0 ≤ q ∧ q ≤ 31 by omega)
      have t2 : (i : Int) < (n2 : Int) := by omega
      have HIN := Lib.hid hin
      have HF1 := Lib.hid (show FewR R ⟨t', σ.num, σ.F⟩ (31 * (i : Int)) from HF.out.to HG.out.at_.bd.2.1.1 (by rw [HTt.out]; exact HT'.out.2.1))
      have CT := Lib.hid (fun wx (hx : RgAt wx R σ) => show Calls Try.prog 16 #[.pointer (some ⟨R.x, 0, none⟩), .int .i64 t'] wx (fun e w' => e = .returned (.tuple #[]) ∧ RgAt w' R ⟨t', σ.num, σ.F⟩ ∧ Fr (fun b => b = R.x) wx w') from by
        have := rto_any t' (by have := HT'.out; omega) wx hx
        rw [show max σ.t t' = t' by rw [HTt.out]; have := HT'.out; omega] at this
        exact this)
      have CA := Lib.hid (fun wx (hx : RgAt wx R ⟨t', σ.num, σ.F⟩) => radd_any ⟨#[107]⟩ HK107.out q (by have := HQ.out; omega) wx hx)
      clear hl2 hc hbl ha bl2 kc2 hgb hg ht' hT hq hin
      go_upto_region 13 with (fail)
      rw [← hbx]
      clear kr kw ey1 kr0 kr1 kr2 ey2 hbx
      go_upto_region 15 with (first
        | (go_at_call 15; ((with_reducible refine (CG.out _).mono ?_); rintro e y3 ⟨rfl, rfl⟩))
        | (go_at_call 16; ((with_reducible refine (CT.out _ G6.out.at_).mono ?_); rintro e y4 ⟨rfl, s4, f4⟩; have G4 := Lib.hid (G6.out.op s4 (f4.mono (fun b hb => Or.inl hb))); have B4 := Lib.hid (B6.out.fr f4 (fun e => BR.out (Or.inl e))); have K4' := Lib.hid (KC.out.fr f4 (fun e => HBX.out (Or.inl e))); clear s4 f4)))
      clear kc3
      have kc3 := K4'.out.rd
      go_wp2_with (go_at_call 17; ((with_reducible refine (CA.out _ G4.out.at_).mono ?_); rintro e y5 ⟨rfl, s5, f5⟩; have G5 := Lib.hid (G4.out.op s5 f5); have B5 := Lib.hid (B4.out.fr f5 BR.out); clear s5 f5))
      go_roundg (n2 - (i + 1))
      case measure => have := HKK.out; have := HIN.out; omega
      case rel =>
        have HF2 : FewR R (RgS.add ⟨t', σ.num, σ.F⟩ R ⟨#[107]⟩ q) (31 * (i : Int) + q) := HF1.out.add G4.out.at_ ⟨#[107]⟩ (by have := HQ.out; omega)
        exact ⟨i + 1, t', _, HIN.out, Lib.hid rfl, by go_num, rfl, Lib.hid (by have := HT'.out; omega), Lib.hid rfl, G5, Lib.hid ⟨fun s => Int.le_trans (HF2.all s) (by have := HQ.out; omega), HF2.now⟩, B5⟩
    · have hie : i = n2 := by omega
      subst hie
      obtain ⟨hWb, hSb, hNb, _h0, hWS, hSN, hSS⟩ := HW.out
      clear hSS _h0
      have hC := HC.out
      have hns : (R.n : Int) * (R.s : Int) = Wd + (S : Int) := by rw [HN.out, HS.out, hWS, show ((N + 1 : Nat) : Int) = (N : Int) + 1 from rfl, Int.add_mul, Int.one_mul, Int.mul_comm]
      have HT2 := Lib.hid (show 0 ≤ t ∧ t ≤ 409500 by have := HT.out; omega)
      have hT2 := HT2.out
      have hTt := HTt.out
      have HF2 := Lib.hid (show FewR R σ 3100 from ⟨fun s => Int.le_trans (HF.out.all s) (by omega), HF.out.now⟩)
      have hbig : σ.now R ≤ 9223372036854775000 := by
        unfold RgS.now
        have h1 := Int.ediv_le_self (R.s : Int) HG.out.at_.ht.1
        omega
      have hwf := wait_facts (s := ⟨#[107]⟩) (c := cz) HG.out.at_ HF2.out (by rw [HL.out]; omega) (by omega) (by rw [hns]; omega)
      have hei := estZ_in HG.out.at_ ⟨#[107]⟩
      have hel : estZ R σ ⟨#[107]⟩ ≤ 3100 := by
        obtain ⟨p1, p2, p3, p4⟩ := est_parts (s := ⟨#[107]⟩) HG.out.at_ HF2.out (by omega)
        have hn1 := HG.out.at_.bd.1
        have sp := rsum_split (R := R) (σ := σ) (s := ⟨#[107]⟩) (a := σ.now R - ((R.n : Int) - 1)) (b := σ.now R) (c := σ.now R - ((R.n : Int) - 1)) (by omega) (by omega) R.n
        have r3 := rsum_in (R := R) (σ := σ) (s := ⟨#[107]⟩) HG.out.at_.ok (σ.now R - ((R.n : Int) - 1)) (σ.now R)
        have := HF2.out.all ⟨#[107]⟩
        omega
      have CW := Lib.hid (rwait_any ⟨#[107]⟩ HK107.out cz (by omega) wr HG.out.at_ hbig)
      have CE := Lib.hid (fun wx (hx : RgAt wx R σ) => restimate_any ⟨#[107]⟩ HK107.out wx hx)
      rw [HL.out] at hwf
      obtain ⟨v, hv⟩ : ∃ v, v = waitR R σ ⟨#[107]⟩ cz := ⟨_, rfl⟩
      obtain ⟨ez, hez⟩ : ∃ ez, ez = estZ R σ ⟨#[107]⟩ := ⟨_, rfl⟩
      rw [← hv] at CW hwf
      simp only [← hez] at CE
      rw [← hez] at hwf hei hel
      have f1 : IntKind.i64.wrap (ez + cz) = ez + cz := by rw [IntKind.wrap_i64]; clear hwf hns; omega
      clear hv hez hbig
      have HWF := Lib.hid hwf
      have HNS := Lib.hid hns
      clear hwf hns hWb hSb hNb hWS hSN hC hT2 hTt hei hel
      go_upto_region 18 with (go_at_call 21; ((with_reducible refine CW.out.mono ?_); rintro e w5 ⟨rfl, b5⟩; have G5 := Lib.hid (HG.out.keep b5); have B5 := Lib.hid (HB2.out.keep b5); clear b5))
      clear CW
      have SB5 := Lib.hid (fun wx (hb : Below w5.heap.size w5 wx) => show ∀ i, wx.cell? ⟨rb, i, none⟩ = (#[.int .i64 Lm, .int .i64 Wd, .int .i64 0, .int .i64 Sl, .int .i64 0, .int .i64 0, .int .i64 Wi, .int .i64 0, .bool sm] : Array Value)[i]? from (B5.out.keep hb).rd)
      have D5 := Lib.hid (show Below w5.heap.size w5 w5.drew from below_draws (Below.refl _ _) 1)
      rcases HWF.out with ⟨c1, rfl⟩ | ⟨c1, nx, n1, n2', n3, n4, n5, n6, n7⟩
      · as_aux_lemma =>
          have t1 : decide (ez + cz ≤ Lm) = true := by rw [decide_eq_true_iff]; exact c1
          have k5 := SB5.out _ D5.out
          clear c1
          go_upto_region 19 with (fail)
          go_region_held3 (fun wx => ∀ i, wx.cell? ⟨rb, i, none⟩ = (#[.int .i64 Lm, .int .i64 Wd, .int .i64 0, .int .i64 Sl, .int .i64 0, .int .i64 0, .int .i64 Wi, .int .i64 0, .bool sm] : Array Value)[i]?) (first | assumption | exact SB5.out _ D6.out)
            (first | (go_at_call 18; ((with_reducible refine (CE.out _ (G5.out.keep D5.out).at_).mono ?_); rintro e w6 ⟨rfl, b6⟩; have D6 := Lib.hid (D5.out.trans (b6.mono D5.out.size)); clear b6)))
          go_wp2
          go_ret
          exact ⟨rfl, G5.out.bl.trans (D6.out.mono G5.out.bl.size)⟩
      · as_aux_lemma =>
          have t1 : decide (ez + cz ≤ Lm) = false := by rw [decide_eq_false_iff_not]; omega
          have t2 : (v == 0) = false := by rw [beq_eq_false_iff_ne]; omega
          have hns := HNS.out
          have hT2 := HT2.out
          have hTt := HTt.out
          obtain ⟨hWb, hSb, hNb, _h0, hWS, hSN, hSS⟩ := HW.out
          clear hSS _h0
          have hs := HS.out
          rw [hs] at n3
          rw [hns] at n5
          obtain ⟨p, hp⟩ : ∃ p, p = nx * (S : Int) := ⟨_, rfl⟩
          rw [← hp, hTt] at n3
          have f2 : IntKind.i64.wrap (t + v) = p := by rw [IntKind.wrap_i64]; clear n6 n7 hns; omega
          have hp0 : 0 ≤ p := by clear n6 n7 hns; omega
          have hpb : p ≤ 500000 := by clear n6 n7 hns; omega
          have m2 : p.tmod (S : Int) = 0 := by rw [hp]; exact Int.mul_tmod_left _ _
          have hS0 : ¬ (S : Int) = 0 := by omega
          have hS1 : ¬ S = 0 := by omega
          have t3 : decide (v < 1) = false := by rw [decide_eq_false_iff_not]; omega
          have f3 : IntKind.i64.wrap (Wd + (S : Int)) = Wd + (S : Int) := by rw [IntKind.wrap_i64]; clear n6 n7 hns; omega
          have t4 : decide (Wd + (S : Int) < v) = false := by rw [decide_eq_false_iff_not]; omega
          obtain ⟨q, hq⟩ : ∃ q, q = σ.now R := ⟨_, rfl⟩
          have hq2 : q = t / (S : Int) := by rw [hq, ← hTt, ← hs]; rfl
          have m3 : t.tdiv (S : Int) = q := by rw [hq2]; exact Int.tdiv_eq_ediv_of_nonneg hT2.1
          have hqb : 0 ≤ q ∧ q ≤ 409500 := by
            have h1 := Int.ediv_le_self (S : Int) hT2.1
            have h2 := Int.ediv_nonneg hT2.1 (show (0 : Int) ≤ (S : Int) by omega)
            rw [← hq2] at h1 h2
            omega
          have f4 : IntKind.i64.wrap q = q := by rw [IntKind.wrap_i64]; clear n6 n7 hns; omega
          obtain ⟨x1, hx1⟩ : ∃ x1, x1 = q + 1 := ⟨_, rfl⟩
          have f5 : IntKind.i64.wrap (q + 1) = x1 := by rw [IntKind.wrap_i64]; clear n6 n7 hns; omega
          rw [← hq, ← hx1] at n1
          have hle1 : x1 * (S : Int) ≤ p := by rw [hp]; exact Int.mul_le_mul_of_nonneg_right n1 (by omega)
          have hlt1 : t < x1 * (S : Int) := by rw [hx1, hq2]; exact Int.lt_ediv_add_one_mul_self _ (by omega)
          obtain ⟨a1, ha1⟩ : ∃ a1, a1 = x1 * (S : Int) := ⟨_, rfl⟩
          rw [← ha1] at hle1 hlt1
          have m5 : x1 * (S : Int) = a1 := ha1.symm
          have f6 : IntKind.i64.wrap a1 = a1 := by rw [IntKind.wrap_i64]; clear n6 n7 hns; omega
          rw [← hq] at n6 n7 n2'
          rw [← hx1] at n6
          have HN6 := Lib.hid n6
          have HN7 := Lib.hid n7
          have HPP := Lib.hid (And.intro hp (And.intro hp0 (And.intro hpb (And.intro hle1 (And.intro hlt1 (And.intro n1 (And.intro ha1 hq)))))))
          have HXQ := Lib.hid hx1
          have hund : undef = Value.tuple #[] := rfl
          have b0 : (0 != (0 : Int)) = false := rfl
          clear n1 n2' n3 n4 n5 n6 n7 c1 hns hT2 hTt hWb hSb hNb hWS hSN hs hp hp0 hpb hq hq2 hqb hx1 hle1 hlt1 ha1
          go_upto_region 20 with (fail)
          refine wp_region_held_drew (S := fun wx => ∀ i, wx.cell? ⟨rb, i, none⟩ = (#[.int .i64 Lm, .int .i64 Wd, .int .i64 0, .int .i64 Sl, .int .i64 0, .int .i64 0, .int .i64 Wi, .int .i64 0, .bool sm] : Array Value)[i]?) (by kernel_rfl) (SB5.out _ D5.out) (fun hHeld => ?_)
          refine wpAnyH_take (i := 0) (oi := ?_) (v := ?_) ?_ ?_ ?_ ?_ ?_ ?_ ?_ ?_
          rotate_left 2
          · simp only [List.getElem?_toArray, List.getElem?_cons_succ, List.getElem?_cons_zero]; rfl
          · kernel_rfl
          · kernel_rfl
          · kernel_rfl
          · exact fun _ _ _ h => h
          · refine Or.inl ⟨by rfl, ?_⟩
            intro w' hSw
            (try dsimp only at hSw)
            go_simp
            all_goals (with_reducible rfl)
          · assumption
          try simp only [Act.put, List.setIfInBounds_toArray, List.set_cons_zero, List.set_cons_succ]
          refine wpAnyH_take (i := 2) (oi := ?_) (v := ?_) ?_ ?_ ?_ ?_ ?_ ?_ ?_ ?_
          rotate_left 2
          · simp only [List.getElem?_toArray, List.getElem?_cons_succ, List.getElem?_cons_zero]; rfl
          · kernel_rfl
          · kernel_rfl
          · kernel_rfl
          · exact fun _ _ _ h => h
          · refine Or.inl ⟨by rfl, ?_⟩
            intro w' hSw
            (try dsimp only at hSw)
            go_simp
            all_goals (with_reducible rfl)
          · assumption
          try simp only [Act.put, List.setIfInBounds_toArray, List.set_cons_zero, List.set_cons_succ]
          refine wpAnyH_take (i := 4) (oi := ?_) (v := ?_) ?_ ?_ ?_ ?_ ?_ ?_ ?_ ?_
          rotate_left 2
          · simp only [List.getElem?_toArray, List.getElem?_cons_succ, List.getElem?_cons_zero]; rfl
          · kernel_rfl
          · kernel_rfl
          · kernel_rfl
          · exact fun _ _ _ h => h
          · refine Or.inl ⟨by rfl, ?_⟩
            intro w' hSw
            (try dsimp only at hSw)
            go_simp
            all_goals (with_reducible rfl)
          · assumption
          try simp only [Act.put, List.setIfInBounds_toArray, List.set_cons_zero, List.set_cons_succ]
          refine wpAnyH_take (i := 5) (oi := ?_) (v := ?_) ?_ ?_ ?_ ?_ ?_ ?_ ?_ ?_
          rotate_left 2
          · simp only [List.getElem?_toArray, List.getElem?_cons_succ, List.getElem?_cons_zero]; rfl
          · kernel_rfl
          · kernel_rfl
          · kernel_rfl
          · exact fun _ _ _ h => h
          · refine Or.inl ⟨by rfl, ?_⟩
            intro w' hSw
            (try dsimp only at hSw)
            go_simp
            all_goals (with_reducible rfl)
          · assumption
          try simp only [Act.put, List.setIfInBounds_toArray, List.set_cons_zero, List.set_cons_succ]
          refine wpAnyH_ready (rs := [1]) (by kernel_rfl) (by simp) ?_
          refine AllReadyH.cons (o := ?_) ?_ ?_ ?_
          rotate_left 1
          · simp only [List.getElem?_toArray, List.getElem?_cons_succ, List.getElem?_cons_zero]; rfl
          rotate_left 1
          · exact AllReadyH.nil
          intro K hK
          go_simp
          ((with_reducible refine (CE.out _ (G5.out.keep D5.out).at_).mono ?_); rintro e w6 ⟨rfl, b6⟩; have D6 := Lib.hid (D5.out.trans (b6.mono D5.out.size)); clear b6)
          refine hK.out _ _ (SB5.out _ D6.out) (fun hHeld => ?_)
          clear hK K
          try simp only [Act.put, List.setIfInBounds_toArray, List.set_cons_zero, List.set_cons_succ]
          refine wpAnyH_take (i := 3) (oi := ?_) (v := ?_) ?_ ?_ ?_ ?_ ?_ ?_ ?_ ?_
          rotate_left 2
          · simp only [List.getElem?_toArray, List.getElem?_cons_succ, List.getElem?_cons_zero]; rfl
          · kernel_rfl
          · kernel_rfl
          · kernel_rfl
          · exact fun _ _ _ h => h
          · refine Or.inl ⟨by rfl, ?_⟩
            intro w' hSw
            (try dsimp only at hSw)
            go_simp
            all_goals (with_reducible rfl)
          · assumption
          try simp only [Act.put, List.setIfInBounds_toArray, List.set_cons_zero, List.set_cons_succ]
          refine wpAnyH_take (i := 6) (oi := ?_) (v := ?_) ?_ ?_ ?_ ?_ ?_ ?_ ?_ ?_
          rotate_left 2
          · simp only [List.getElem?_toArray, List.getElem?_cons_succ, List.getElem?_cons_zero]; rfl
          · kernel_rfl
          · kernel_rfl
          · kernel_rfl
          · exact fun _ _ _ h => h
          · refine Or.inl ⟨by rfl, ?_⟩
            intro w' hSw
            (try dsimp only at hSw)
            go_simp
            all_goals (with_reducible rfl)
          · assumption
          try simp only [Act.put, List.setIfInBounds_toArray, List.set_cons_zero, List.set_cons_succ]
          refine wpAnyH_take (i := 7) (oi := ?_) (v := ?_) ?_ ?_ ?_ ?_ ?_ ?_ ?_ ?_
          rotate_left 2
          · simp only [List.getElem?_toArray, List.getElem?_cons_succ, List.getElem?_cons_zero]; rfl
          · kernel_rfl
          · kernel_rfl
          · kernel_rfl
          · exact fun _ _ _ h => h
          · refine Or.inl ⟨by rfl, ?_⟩
            intro w' hSw
            (try dsimp only at hSw)
            go_simp
            all_goals (with_reducible rfl)
          · assumption
          try simp only [Act.put, List.setIfInBounds_toArray, List.set_cons_zero, List.set_cons_succ]
          refine wpAnyH_take (i := 8) (oi := ?_) (v := ?_) ?_ ?_ ?_ ?_ ?_ ?_ ?_ ?_
          rotate_left 2
          · simp only [List.getElem?_toArray, List.getElem?_cons_succ, List.getElem?_cons_zero]; rfl
          · kernel_rfl
          · kernel_rfl
          · kernel_rfl
          · exact fun _ _ _ h => h
          · refine Or.inl ⟨by rfl, ?_⟩
            intro w' hSw
            (try dsimp only at hSw)
            go_simp
            all_goals (with_reducible rfl)
          · assumption
          try simp only [Act.put, List.setIfInBounds_toArray, List.set_cons_zero, List.set_cons_succ]
          refine wpAnyH_take (i := 9) (oi := ?_) (v := ?_) ?_ ?_ ?_ ?_ ?_ ?_ ?_ ?_
          rotate_left 2
          · simp only [List.getElem?_toArray, List.getElem?_cons_succ, List.getElem?_cons_zero]; rfl
          · kernel_rfl
          · kernel_rfl
          · kernel_rfl
          · exact fun _ _ _ h => h
          · refine Or.inl ⟨by rfl, ?_⟩
            intro w' hSw
            (try dsimp only at hSw)
            go_simp
            all_goals (with_reducible rfl)
          · assumption
          try simp only [Act.put, List.setIfInBounds_toArray, List.set_cons_zero, List.set_cons_succ]
          refine wpAnyH_take (i := 10) (oi := ?_) (v := ?_) ?_ ?_ ?_ ?_ ?_ ?_ ?_ ?_
          rotate_left 2
          · simp only [List.getElem?_toArray, List.getElem?_cons_succ, List.getElem?_cons_zero]; rfl
          · kernel_rfl
          · kernel_rfl
          · kernel_rfl
          · exact fun _ _ _ h => h
          · refine Or.inl ⟨by rfl, ?_⟩
            intro w' hSw
            (try dsimp only at hSw)
            go_simp
            all_goals (with_reducible rfl)
          · assumption
          try simp only [Act.put, List.setIfInBounds_toArray, List.set_cons_zero, List.set_cons_succ]
          refine wpAnyH_take (i := 11) (oi := ?_) (v := ?_) ?_ ?_ ?_ ?_ ?_ ?_ ?_ ?_
          rotate_left 2
          · simp only [List.getElem?_toArray, List.getElem?_cons_succ, List.getElem?_cons_zero]; rfl
          · kernel_rfl
          · kernel_rfl
          · kernel_rfl
          · exact fun _ _ _ h => h
          · refine Or.inl ⟨by rfl, ?_⟩
            intro w' hSw
            (try dsimp only at hSw)
            go_simp
            all_goals (with_reducible rfl)
          · assumption
          try simp only [Act.put, List.setIfInBounds_toArray, List.set_cons_zero, List.set_cons_succ]
          refine wpAnyH_take (i := 12) (oi := ?_) (v := ?_) ?_ ?_ ?_ ?_ ?_ ?_ ?_ ?_
          rotate_left 2
          · simp only [List.getElem?_toArray, List.getElem?_cons_succ, List.getElem?_cons_zero]; rfl
          · kernel_rfl
          · kernel_rfl
          · kernel_rfl
          · exact fun _ _ _ h => h
          · refine Or.inl ⟨by rfl, ?_⟩
            intro w' hSw
            (try dsimp only at hSw)
            go_simp
            all_goals (with_reducible rfl)
          · assumption
          try simp only [Act.put, List.setIfInBounds_toArray, List.set_cons_zero, List.set_cons_succ]
          refine wpAnyH_take (i := 13) (oi := ?_) (v := ?_) ?_ ?_ ?_ ?_ ?_ ?_ ?_ ?_
          rotate_left 2
          · simp only [List.getElem?_toArray, List.getElem?_cons_succ, List.getElem?_cons_zero]; rfl
          · kernel_rfl
          · kernel_rfl
          · kernel_rfl
          · exact fun _ _ _ h => h
          · refine Or.inl ⟨by rfl, ?_⟩
            intro w' hSw
            (try dsimp only at hSw)
            go_simp
            all_goals (with_reducible rfl)
          · assumption
          try simp only [Act.put, List.setIfInBounds_toArray, List.set_cons_zero, List.set_cons_succ]
          refine wpAnyH_take (i := 14) (oi := ?_) (v := ?_) ?_ ?_ ?_ ?_ ?_ ?_ ?_ ?_
          rotate_left 2
          · simp only [List.getElem?_toArray, List.getElem?_cons_succ, List.getElem?_cons_zero]; rfl
          · kernel_rfl
          · kernel_rfl
          · kernel_rfl
          · exact fun _ _ _ h => h
          · refine Or.inl ⟨by rfl, ?_⟩
            intro w' hSw
            (try dsimp only at hSw)
            go_simp
            all_goals (with_reducible rfl)
          · assumption
          try simp only [Act.put, List.setIfInBounds_toArray, List.set_cons_zero, List.set_cons_succ]
          refine wpAnyH_take (i := 15) (oi := ?_) (v := ?_) ?_ ?_ ?_ ?_ ?_ ?_ ?_ ?_
          rotate_left 2
          · simp only [List.getElem?_toArray, List.getElem?_cons_succ, List.getElem?_cons_zero]; rfl
          · kernel_rfl
          · kernel_rfl
          · kernel_rfl
          · exact fun _ _ _ h => h
          · refine Or.inl ⟨by rfl, ?_⟩
            intro w' hSw
            (try dsimp only at hSw)
            go_simp
            all_goals (with_reducible rfl)
          · assumption
          try simp only [Act.put, List.setIfInBounds_toArray, List.set_cons_zero, List.set_cons_succ]
          refine wpAnyH_take (i := 16) (oi := ?_) (v := ?_) ?_ ?_ ?_ ?_ ?_ ?_ ?_ ?_
          rotate_left 2
          · simp only [List.getElem?_toArray, List.getElem?_cons_succ, List.getElem?_cons_zero]; rfl
          · kernel_rfl
          · kernel_rfl
          · kernel_rfl
          · exact fun _ _ _ h => h
          · refine Or.inl ⟨by rfl, ?_⟩
            intro w' hSw
            (try dsimp only at hSw)
            go_simp
            all_goals (with_reducible rfl)
          · assumption
          try simp only [Act.put, List.setIfInBounds_toArray, List.set_cons_zero, List.set_cons_succ]
          refine wpAnyH_take (i := 17) (oi := ?_) (v := ?_) ?_ ?_ ?_ ?_ ?_ ?_ ?_ ?_
          rotate_left 2
          · simp only [List.getElem?_toArray, List.getElem?_cons_succ, List.getElem?_cons_zero]; rfl
          · kernel_rfl
          · kernel_rfl
          · kernel_rfl
          · exact fun _ _ _ h => h
          · refine Or.inl ⟨by rfl, ?_⟩
            intro w' hSw
            (try dsimp only at hSw)
            go_simp
            all_goals (with_reducible rfl)
          · assumption
          try simp only [Act.put, List.setIfInBounds_toArray, List.set_cons_zero, List.set_cons_succ]
          refine wpAnyH_take (i := 18) (oi := ?_) (v := ?_) ?_ ?_ ?_ ?_ ?_ ?_ ?_ ?_
          rotate_left 2
          · simp only [List.getElem?_toArray, List.getElem?_cons_succ, List.getElem?_cons_zero]; rfl
          · kernel_rfl
          · kernel_rfl
          · kernel_rfl
          · exact fun _ _ _ h => h
          · refine Or.inl ⟨by rfl, ?_⟩
            intro w' hSw
            (try dsimp only at hSw)
            go_simp
            all_goals (with_reducible rfl)
          · assumption
          try simp only [Act.put, List.setIfInBounds_toArray, List.set_cons_zero, List.set_cons_succ]
          refine wpAnyH_take (i := 19) (oi := ?_) (v := ?_) ?_ ?_ ?_ ?_ ?_ ?_ ?_ ?_
          rotate_left 2
          · simp only [List.getElem?_toArray, List.getElem?_cons_succ, List.getElem?_cons_zero]; rfl
          · kernel_rfl
          · kernel_rfl
          · kernel_rfl
          · exact fun _ _ _ h => h
          · refine Or.inl ⟨by rfl, ?_⟩
            intro w' hSw
            (try dsimp only at hSw)
            go_simp
            all_goals (with_reducible rfl)
          · assumption
          try simp only [Act.put, List.setIfInBounds_toArray, List.set_cons_zero, List.set_cons_succ]
          refine wpAnyH_take (i := 20) (oi := ?_) (v := ?_) ?_ ?_ ?_ ?_ ?_ ?_ ?_ ?_
          rotate_left 2
          · simp only [List.getElem?_toArray, List.getElem?_cons_succ, List.getElem?_cons_zero]; rfl
          · kernel_rfl
          · kernel_rfl
          · kernel_rfl
          · exact fun _ _ _ h => h
          · refine Or.inl ⟨by rfl, ?_⟩
            intro w' hSw
            (try dsimp only at hSw)
            go_simp
            all_goals (with_reducible rfl)
          · assumption
          try simp only [Act.put, List.setIfInBounds_toArray, List.set_cons_zero, List.set_cons_succ]
          refine wpAnyH_take (i := 21) (oi := ?_) (v := ?_) ?_ ?_ ?_ ?_ ?_ ?_ ?_ ?_
          rotate_left 2
          · simp only [List.getElem?_toArray, List.getElem?_cons_succ, List.getElem?_cons_zero]; rfl
          · kernel_rfl
          · kernel_rfl
          · kernel_rfl
          · exact fun _ _ _ h => h
          · refine Or.inl ⟨by rfl, ?_⟩
            intro w' hSw
            (try dsimp only at hSw)
            go_simp
            all_goals (with_reducible rfl)
          · assumption
          try simp only [Act.put, List.setIfInBounds_toArray, List.set_cons_zero, List.set_cons_succ]
          refine wpAnyH_take (i := 22) (oi := ?_) (v := ?_) ?_ ?_ ?_ ?_ ?_ ?_ ?_ ?_
          rotate_left 2
          · simp only [List.getElem?_toArray, List.getElem?_cons_succ, List.getElem?_cons_zero]; rfl
          · kernel_rfl
          · kernel_rfl
          · kernel_rfl
          · exact fun _ _ _ h => h
          · refine Or.inl ⟨by rfl, ?_⟩
            intro w' hSw
            (try dsimp only at hSw)
            go_simp
            all_goals (with_reducible rfl)
          · assumption
          try simp only [Act.put, List.setIfInBounds_toArray, List.set_cons_zero, List.set_cons_succ]
          refine wpAnyH_take (i := 23) (oi := ?_) (v := ?_) ?_ ?_ ?_ ?_ ?_ ?_ ?_ ?_
          rotate_left 2
          · simp only [List.getElem?_toArray, List.getElem?_cons_succ, List.getElem?_cons_zero]; rfl
          · kernel_rfl
          · kernel_rfl
          · kernel_rfl
          · exact fun _ _ _ h => h
          · refine Or.inl ⟨by rfl, ?_⟩
            intro w' hSw
            (try dsimp only at hSw)
            go_simp
            all_goals (with_reducible rfl)
          · assumption
          try simp only [Act.put, List.setIfInBounds_toArray, List.set_cons_zero, List.set_cons_succ]
          refine wpAnyH_take (i := 24) (oi := ?_) (v := ?_) ?_ ?_ ?_ ?_ ?_ ?_ ?_ ?_
          rotate_left 2
          · simp only [List.getElem?_toArray, List.getElem?_cons_succ, List.getElem?_cons_zero]; rfl
          · kernel_rfl
          · kernel_rfl
          · kernel_rfl
          · exact fun _ _ _ h => h
          · refine Or.inl ⟨by rfl, ?_⟩
            intro w' hSw
            (try dsimp only at hSw)
            go_simp
            all_goals (with_reducible rfl)
          · assumption
          try simp only [Act.put, List.setIfInBounds_toArray, List.set_cons_zero, List.set_cons_succ]
          refine wpAnyH_take (i := 25) (oi := ?_) (v := ?_) ?_ ?_ ?_ ?_ ?_ ?_ ?_ ?_
          rotate_left 2
          · simp only [List.getElem?_toArray, List.getElem?_cons_succ, List.getElem?_cons_zero]; rfl
          · kernel_rfl
          · kernel_rfl
          · kernel_rfl
          · exact fun _ _ _ h => h
          · refine Or.inl ⟨by rfl, ?_⟩
            intro w' hSw
            (try dsimp only at hSw)
            go_simp
            all_goals (with_reducible rfl)
          · assumption
          try simp only [Act.put, List.setIfInBounds_toArray, List.set_cons_zero, List.set_cons_succ]
          refine wpAnyH_take (i := 26) (oi := ?_) (v := ?_) ?_ ?_ ?_ ?_ ?_ ?_ ?_ ?_
          rotate_left 2
          · simp only [List.getElem?_toArray, List.getElem?_cons_succ, List.getElem?_cons_zero]; rfl
          · kernel_rfl
          · kernel_rfl
          · kernel_rfl
          · exact fun _ _ _ h => h
          · refine Or.inl ⟨by rfl, ?_⟩
            intro w' hSw
            (try dsimp only at hSw)
            go_simp
            all_goals (with_reducible rfl)
          · assumption
          try simp only [Act.put, List.setIfInBounds_toArray, List.set_cons_zero, List.set_cons_succ]
          refine wpAnyH_done (by kernel_rfl) ?_ _
          clear hHeld
          have G6 := Lib.hid (G5.out.keep D6.out)
          have B6 := Lib.hid (B5.out.keep D6.out)
          clear t1 t2 t3 t4 f1 f3 SB5 D5 D6 CE
          go_upto_region 23 with (fail)
          go_wp2
          go_loopg [14] (nx - x1).toNat (fun kk sv wr => ∃ (y vv tt : Int), x1 ≤ y ∧ y ≤ nx ∧ Hid (kk = (nx - y).toNat) ∧ sv = .int .i64 vv ∧ Hid (vv = y * (S : Int)) ∧ Hid (0 ≤ tt ∧ tt ≤ vv) ∧ Hid (GA w wr R ⟨tt, σ.num, σ.F⟩) ∧ Hid (Blk wr rb 29 #[.int .i64 Lm, .int .i64 Wd, .int .i64 0, .int .i64 Sl, .int .i64 0, .int .i64 0, .int .i64 Wi, .int .i64 0, .bool sm]))
          case atStart => exact ⟨x1, a1, t, Int.le_refl _, HPP.out.2.2.2.2.2.1, Lib.hid rfl, rfl, Lib.hid HPP.out.2.2.2.2.2.2.1, Lib.hid ⟨HT2.out.1, by have := HPP.out.2.2.2.2.1; omega⟩, Lib.hid (by have := G6.out; rw [← HTt.out]; exact this), B6⟩
          case round =>
            obtain ⟨y, vv, tt, hy1, hy2, HKY, rfl, HV, HTT, HGY, HBY⟩ := hrel
            obtain ⟨o1, o2, o3, o4, o5, o6, o7, o8⟩ := HPP.out
            have hSb := HW.out.2.1
            have hvp : vv ≤ p := by rw [HV.out, o1]; exact Int.mul_le_mul_of_nonneg_right hy2 (by omega)
            have hv0 := HTT.out
            have HVB := Lib.hid (show 0 ≤ vv ∧ vv ≤ 500000 by clear f2 f4 f5 f6 m2 m3 m5; omega)
            have hqn : σ.now R ≤ y := by rw [← o8]; have := HXQ.out; clear f2 f4 f5 f6 m2 m3 m5; omega
            obtain ⟨e2, he2⟩ : ∃ e2, e2 = estZ R ⟨vv, σ.num, σ.F⟩ ⟨#[107]⟩ := ⟨_, rfl⟩
            have HEB := Lib.hid (fun wx (hx : RgAt wx R ⟨vv, σ.num, σ.F⟩) => show e2 = rsum R σ ⟨#[107]⟩ (y - ((R.n : Int) - 1)) q R.n ∧ 0 ≤ e2 ∧ e2 ≤ 3100 from by
              have hvy : vv = y * (R.s : Int) := by rw [HV.out, HS.out]
              have hx' := hx
              rw [hvy] at hx'
              have h := est_begin (s := ⟨#[107]⟩) hx' HF2.out (by omega) hqn
              have h2 := rsum_in (R := R) (σ := σ) (s := ⟨#[107]⟩) HG.out.at_.ok (y - ((R.n : Int) - 1)) (σ.now R)
              have h3 := HF2.out.all ⟨#[107]⟩
              rw [← hvy, ← he2] at h
              rw [o8]
              exact ⟨h, by omega, by omega⟩)
            have CT := Lib.hid (fun wx (hx : RgAt wx R ⟨tt, σ.num, σ.F⟩) => show Calls Try.prog 16 #[.pointer (some ⟨R.x, 0, none⟩), .int .i64 vv] wx (fun e w' => e = .returned (.tuple #[]) ∧ RgAt w' R ⟨vv, σ.num, σ.F⟩ ∧ Fr (fun b => b = R.x) wx w') from by
              have := rto_any vv (by have := HVB.out; omega) wx hx
              rw [show max (RgS.t ⟨tt, σ.num, σ.F⟩) vv = vv by have := HTT.out; show max tt vv = vv; omega] at this
              exact this)
            have CE := Lib.hid (fun wx (hx : RgAt wx R ⟨vv, σ.num, σ.F⟩) => restimate_any ⟨#[107]⟩ HK107.out wx hx)
            simp only [← he2] at CE
            have HE2 := Lib.hid he2
            by_cases hin : y < nx
            · as_aux_lemma =>
                have hlt : vv < p := by rw [HV.out, o1]; exact Int.mul_lt_mul_of_pos_right hin (by omega)
                have t5 : decide (vv < p) = true := by rw [decide_eq_true_iff]; exact hlt
                have hn6 := HN6.out y hy1 hin
                have HN6y := Lib.hid hn6
                have HIN := Lib.hid (show y + 1 ≤ nx ∧ x1 ≤ y + 1 by omega)
                obtain ⟨v2, hv2⟩ : ∃ v2, v2 = vv + (S : Int) := ⟨_, rfl⟩
                have f8 : IntKind.i64.wrap (vv + (S : Int)) = v2 := by rw [IntKind.wrap_i64]; have := HVB.out; clear f2 f4 f5 f6 m2 m3 m5 hn6; omega
                have HV2 := Lib.hid (show v2 = (y + 1) * (S : Int) ∧ vv ≤ v2 by rw [hv2, HV.out, Int.add_mul, Int.one_mul]; exact ⟨rfl, by omega⟩)
                clear o1 o2 o3 o4 o5 o6 o7 o8 hSb hvp hv0 hqn he2 hlt hn6 hin hy1 hy2 hv2 HPP
                go_upto_region 26 with (go_at_call 16; ((with_reducible refine (CT.out _ HGY.out.at_).mono ?_); rintro e w7 ⟨rfl, s7, f7⟩; have G7 := Lib.hid (HGY.out.op s7 (f7.mono (fun b hb => Or.inl hb))); have B7 := Lib.hid (HBY.out.fr f7 (fun e => BR.out (Or.inl e))); clear s7 f7))
                obtain ⟨r1, r2, r3⟩ := HEB.out _ G7.out.at_
                have hn6 := HN6y.out
                rw [← r1] at hn6
                have f7 : IntKind.i64.wrap (e2 + cz) = e2 + cz := by rw [IntKind.wrap_i64]; have := HC.out; clear r1 f2 f4 f5 f6 m2 m3 m5 hn6; omega
                have t6 : decide (e2 + cz ≤ Lm) = false := by rw [decide_eq_false_iff_not]; omega
                have SB7 := Lib.hid (fun wx (hb : Below w7.heap.size w7 wx) => show ∀ i, wx.cell? ⟨rb, i, none⟩ = (#[.int .i64 Lm, .int .i64 Wd, .int .i64 0, .int .i64 Sl, .int .i64 0, .int .i64 0, .int .i64 Wi, .int .i64 0, .bool sm] : Array Value)[i]? from (B7.out.keep hb).rd)
                have D7' := Lib.hid (show Below w7.heap.size w7 w7.drew from below_draws (Below.refl _ _) 1)
                have k7 := SB7.out _ D7'.out
                clear r1 r2 r3 hn6 HEB
                go_region_held3 (fun wx => ∀ i, wx.cell? ⟨rb, i, none⟩ = (#[.int .i64 Lm, .int .i64 Wd, .int .i64 0, .int .i64 Sl, .int .i64 0, .int .i64 0, .int .i64 Wi, .int .i64 0, .bool sm] : Array Value)[i]?) (first | assumption | exact SB7.out _ D8'.out)
                  (first | (go_at_call 18; ((with_reducible refine (CE.out _ (G7.out.keep D7'.out).at_).mono ?_); rintro e w8' ⟨rfl, b8⟩; have D8' := Lib.hid (D7'.out.trans (b8.mono D7'.out.size)); clear b8)))
                clear k7
                go_wp2
                go_roundg (nx - (y + 1)).toNat
                case measure => have := HKY.out; have := HIN.out; omega
                case rel => exact ⟨y + 1, v2, vv, HIN.out.2, HIN.out.1, Lib.hid rfl, rfl, Lib.hid HV2.out.1, Lib.hid ⟨HVB.out.1, HV2.out.2⟩, Lib.hid (G7.out.keep D8'.out), Lib.hid (B7.out.keep D8'.out)⟩
            · as_aux_lemma =>
                have hye : y = nx := by omega
                have hvpe : vv = p := by rw [HV.out, o1, hye]
                subst hvpe
                have t5 : decide (vv < vv) = false := by rw [decide_eq_false_iff_not]; exact Int.lt_irrefl vv
                have hbig' : RgS.now ⟨vv, σ.num, σ.F⟩ R ≤ 9223372036854775000 := by
                  show vv / (R.s : Int) ≤ 9223372036854775000
                  have h1 := Int.ediv_le_self (R.s : Int) HVB.out.1
                  have := HVB.out
                  clear f2 f4 f5 f6 m2 m3 m5
                  omega
                have CW := Lib.hid (fun wx (hx : RgAt wx R ⟨vv, σ.num, σ.F⟩) => show Calls Try.prog 21 #[.pointer (some ⟨R.x, 0, none⟩), .string ⟨#[107]⟩, .int .i64 cz] wx (fun e w' => e = .returned (.int .i64 0) ∧ Below wx.heap.size wx w') from by
                  obtain ⟨r1, r2, r3⟩ := HEB.out wx hx
                  have h7 := HN7.out
                  rw [← hye, ← r1] at h7
                  have hw0 : waitR R ⟨vv, σ.num, σ.F⟩ ⟨#[107]⟩ cz = 0 := by
                    unfold waitR
                    rw [← HE2.out, clamp_in (by have := HC.out; clear f2 f4 f5 f6 m2 m3 m5; omega), HL.out, if_pos h7]
                  have h := rwait_any ⟨#[107]⟩ HK107.out cz (by have := HC.out; clear f2 f4 f5 f6 m2 m3 m5; omega) wx hx hbig'
                  rw [hw0] at h
                  exact h)
                have HN7y := Lib.hid (show rsum R σ ⟨#[107]⟩ (y - ((R.n : Int) - 1)) q R.n + cz ≤ Lm by rw [hye]; exact HN7.out)
                clear o1 o2 o3 o4 o5 o6 o7 o8 hSb hvp hv0 hqn he2 hin hy1 hy2 hye hbig'
                go_upto_region 29 with (go_at_call 16; ((with_reducible refine (CT.out _ HGY.out.at_).mono ?_); rintro e w7 ⟨rfl, s7, f7⟩; have G7 := Lib.hid (HGY.out.op s7 (f7.mono (fun b hb => Or.inl hb))); have B7 := Lib.hid (HBY.out.fr f7 (fun e => BR.out (Or.inl e))); clear s7 f7))
                obtain ⟨r1, r2, r3⟩ := HEB.out _ G7.out.at_
                have hn6 := HN7y.out
                rw [← r1] at hn6
                have f7 : IntKind.i64.wrap (e2 + cz) = e2 + cz := by rw [IntKind.wrap_i64]; have := HC.out; clear r1 f2 f4 f5 f6 m2 m3 m5 hn6; omega
                have t6 : decide (e2 + cz ≤ Lm) = true := by rw [decide_eq_true_iff]; exact hn6
                have SB7 := Lib.hid (fun wx (hb : Below w7.heap.size w7 wx) => show ∀ i, wx.cell? ⟨rb, i, none⟩ = (#[.int .i64 Lm, .int .i64 Wd, .int .i64 0, .int .i64 Sl, .int .i64 0, .int .i64 0, .int .i64 Wi, .int .i64 0, .bool sm] : Array Value)[i]? from (B7.out.keep hb).rd)
                have D7' := Lib.hid (show Below w7.heap.size w7 w7.drew from below_draws (Below.refl _ _) 1)
                clear r1 r2 r3 hn6 HEB
                refine wp_region_held_drew (S := fun wx => ∀ i, wx.cell? ⟨rb, i, none⟩ = (#[.int .i64 Lm, .int .i64 Wd, .int .i64 0, .int .i64 Sl, .int .i64 0, .int .i64 0, .int .i64 Wi, .int .i64 0, .bool sm] : Array Value)[i]?) (by kernel_rfl) (SB7.out _ D7'.out) (fun hHeld => ?_)
                refine wpAnyH_take (i := 0) (oi := ?_) (v := ?_) ?_ ?_ ?_ ?_ ?_ ?_ ?_ ?_
                rotate_left 2
                · simp only [List.getElem?_toArray, List.getElem?_cons_succ, List.getElem?_cons_zero]; rfl
                · kernel_rfl
                · kernel_rfl
                · kernel_rfl
                · exact fun _ _ _ h => h
                · refine Or.inl ⟨by rfl, ?_⟩
                  intro w' hSw
                  (try dsimp only at hSw)
                  go_simp
                  all_goals (with_reducible rfl)
                · assumption
                try simp only [Act.put, List.setIfInBounds_toArray, List.set_cons_zero, List.set_cons_succ]
                refine wpAnyH_take (i := 2) (oi := ?_) (v := ?_) ?_ ?_ ?_ ?_ ?_ ?_ ?_ ?_
                rotate_left 2
                · simp only [List.getElem?_toArray, List.getElem?_cons_succ, List.getElem?_cons_zero]; rfl
                · kernel_rfl
                · kernel_rfl
                · kernel_rfl
                · exact fun _ _ _ h => h
                · refine Or.inl ⟨by rfl, ?_⟩
                  intro w' hSw
                  (try dsimp only at hSw)
                  go_simp
                  all_goals (with_reducible rfl)
                · assumption
                try simp only [Act.put, List.setIfInBounds_toArray, List.set_cons_zero, List.set_cons_succ]
                refine wpAnyH_take (i := 4) (oi := ?_) (v := ?_) ?_ ?_ ?_ ?_ ?_ ?_ ?_ ?_
                rotate_left 2
                · simp only [List.getElem?_toArray, List.getElem?_cons_succ, List.getElem?_cons_zero]; rfl
                · kernel_rfl
                · kernel_rfl
                · kernel_rfl
                · exact fun _ _ _ h => h
                · refine Or.inl ⟨by rfl, ?_⟩
                  intro w' hSw
                  (try dsimp only at hSw)
                  go_simp
                  all_goals (with_reducible rfl)
                · assumption
                try simp only [Act.put, List.setIfInBounds_toArray, List.set_cons_zero, List.set_cons_succ]
                refine wpAnyH_take (i := 5) (oi := ?_) (v := ?_) ?_ ?_ ?_ ?_ ?_ ?_ ?_ ?_
                rotate_left 2
                · simp only [List.getElem?_toArray, List.getElem?_cons_succ, List.getElem?_cons_zero]; rfl
                · kernel_rfl
                · kernel_rfl
                · kernel_rfl
                · exact fun _ _ _ h => h
                · refine Or.inl ⟨by rfl, ?_⟩
                  intro w' hSw
                  (try dsimp only at hSw)
                  go_simp
                  all_goals (with_reducible rfl)
                · assumption
                try simp only [Act.put, List.setIfInBounds_toArray, List.set_cons_zero, List.set_cons_succ]
                refine wpAnyH_ready (rs := [1]) (by kernel_rfl) (by simp) ?_
                refine AllReadyH.cons (o := ?_) ?_ ?_ ?_
                rotate_left 1
                · simp only [List.getElem?_toArray, List.getElem?_cons_succ, List.getElem?_cons_zero]; rfl
                rotate_left 1
                · exact AllReadyH.nil
                intro K hK
                go_simp
                ((with_reducible refine (CE.out _ (G7.out.keep D7'.out).at_).mono ?_); rintro e w8' ⟨rfl, b8⟩; have D8' := Lib.hid (D7'.out.trans (b8.mono D7'.out.size)); clear b8)
                refine hK.out _ _ (SB7.out _ D8'.out) (fun hHeld => ?_)
                clear hK K
                try simp only [Act.put, List.setIfInBounds_toArray, List.set_cons_zero, List.set_cons_succ]
                refine wpAnyH_take (i := 3) (oi := ?_) (v := ?_) ?_ ?_ ?_ ?_ ?_ ?_ ?_ ?_
                rotate_left 2
                · simp only [List.getElem?_toArray, List.getElem?_cons_succ, List.getElem?_cons_zero]; rfl
                · kernel_rfl
                · kernel_rfl
                · kernel_rfl
                · exact fun _ _ _ h => h
                · refine Or.inl ⟨by rfl, ?_⟩
                  intro w' hSw
                  (try dsimp only at hSw)
                  go_simp
                  all_goals (with_reducible rfl)
                · assumption
                try simp only [Act.put, List.setIfInBounds_toArray, List.set_cons_zero, List.set_cons_succ]
                refine wpAnyH_take (i := 6) (oi := ?_) (v := ?_) ?_ ?_ ?_ ?_ ?_ ?_ ?_ ?_
                rotate_left 2
                · simp only [List.getElem?_toArray, List.getElem?_cons_succ, List.getElem?_cons_zero]; rfl
                · kernel_rfl
                · kernel_rfl
                · kernel_rfl
                · exact fun _ _ _ h => h
                · refine Or.inl ⟨by rfl, ?_⟩
                  intro w' hSw
                  (try dsimp only at hSw)
                  go_simp
                  all_goals (with_reducible rfl)
                · assumption
                try simp only [Act.put, List.setIfInBounds_toArray, List.set_cons_zero, List.set_cons_succ]
                refine wpAnyH_take (i := 7) (oi := ?_) (v := ?_) ?_ ?_ ?_ ?_ ?_ ?_ ?_ ?_
                rotate_left 2
                · simp only [List.getElem?_toArray, List.getElem?_cons_succ, List.getElem?_cons_zero]; rfl
                · kernel_rfl
                · kernel_rfl
                · kernel_rfl
                · exact fun _ _ _ h => h
                · refine Or.inl ⟨by rfl, ?_⟩
                  intro w' hSw
                  (try dsimp only at hSw)
                  go_simp
                  all_goals (with_reducible rfl)
                · assumption
                try simp only [Act.put, List.setIfInBounds_toArray, List.set_cons_zero, List.set_cons_succ]
                refine wpAnyH_take (i := 8) (oi := ?_) (v := ?_) ?_ ?_ ?_ ?_ ?_ ?_ ?_ ?_
                rotate_left 2
                · simp only [List.getElem?_toArray, List.getElem?_cons_succ, List.getElem?_cons_zero]; rfl
                · kernel_rfl
                · kernel_rfl
                · kernel_rfl
                · exact fun _ _ _ h => h
                · refine Or.inl ⟨by rfl, ?_⟩
                  intro w' hSw
                  (try dsimp only at hSw)
                  go_simp
                  all_goals (with_reducible rfl)
                · assumption
                try simp only [Act.put, List.setIfInBounds_toArray, List.set_cons_zero, List.set_cons_succ]
                refine wpAnyH_take (i := 9) (oi := ?_) (v := ?_) ?_ ?_ ?_ ?_ ?_ ?_ ?_ ?_
                rotate_left 2
                · simp only [List.getElem?_toArray, List.getElem?_cons_succ, List.getElem?_cons_zero]; rfl
                · kernel_rfl
                · kernel_rfl
                · kernel_rfl
                · exact fun _ _ _ h => h
                · refine Or.inl ⟨by rfl, ?_⟩
                  intro w' hSw
                  (try dsimp only at hSw)
                  go_simp
                  all_goals (with_reducible rfl)
                · assumption
                try simp only [Act.put, List.setIfInBounds_toArray, List.set_cons_zero, List.set_cons_succ]
                refine wpAnyH_ready (rs := [10]) (by kernel_rfl) (by simp) ?_
                refine AllReadyH.cons (o := ?_) ?_ ?_ ?_
                rotate_left 1
                · simp only [List.getElem?_toArray, List.getElem?_cons_succ, List.getElem?_cons_zero]; rfl
                rotate_left 1
                · exact AllReadyH.nil
                intro K hK
                go_simp
                ((with_reducible refine (CW.out _ (G7.out.keep D8'.out).at_).mono ?_); rintro e w9' ⟨rfl, b9⟩; have D9' := Lib.hid (D8'.out.trans (b9.mono D8'.out.size)); clear b9)
                refine hK.out _ _ (SB7.out _ D9'.out) (fun hHeld => ?_)
                clear hK K
                try simp only [Act.put, List.setIfInBounds_toArray, List.set_cons_zero, List.set_cons_succ]
                refine wpAnyH_take (i := 11) (oi := ?_) (v := ?_) ?_ ?_ ?_ ?_ ?_ ?_ ?_ ?_
                rotate_left 2
                · simp only [List.getElem?_toArray, List.getElem?_cons_succ, List.getElem?_cons_zero]; rfl
                · kernel_rfl
                · kernel_rfl
                · kernel_rfl
                · exact fun _ _ _ h => h
                · refine Or.inl ⟨by rfl, ?_⟩
                  intro w' hSw
                  (try dsimp only at hSw)
                  go_simp
                  all_goals (with_reducible rfl)
                · assumption
                try simp only [Act.put, List.setIfInBounds_toArray, List.set_cons_zero, List.set_cons_succ]
                refine wpAnyH_take (i := 12) (oi := ?_) (v := ?_) ?_ ?_ ?_ ?_ ?_ ?_ ?_ ?_
                rotate_left 2
                · simp only [List.getElem?_toArray, List.getElem?_cons_succ, List.getElem?_cons_zero]; rfl
                · kernel_rfl
                · kernel_rfl
                · kernel_rfl
                · exact fun _ _ _ h => h
                · refine Or.inl ⟨by rfl, ?_⟩
                  intro w' hSw
                  (try dsimp only at hSw)
                  go_simp
                  all_goals (with_reducible rfl)
                · assumption
                try simp only [Act.put, List.setIfInBounds_toArray, List.set_cons_zero, List.set_cons_succ]
                refine wpAnyH_take (i := 13) (oi := ?_) (v := ?_) ?_ ?_ ?_ ?_ ?_ ?_ ?_ ?_
                rotate_left 2
                · simp only [List.getElem?_toArray, List.getElem?_cons_succ, List.getElem?_cons_zero]; rfl
                · kernel_rfl
                · kernel_rfl
                · kernel_rfl
                · exact fun _ _ _ h => h
                · refine Or.inl ⟨by rfl, ?_⟩
                  intro w' hSw
                  (try dsimp only at hSw)
                  go_simp
                  all_goals (with_reducible rfl)
                · assumption
                try simp only [Act.put, List.setIfInBounds_toArray, List.set_cons_zero, List.set_cons_succ]
                refine wpAnyH_done (by kernel_rfl) ?_ _
                clear hHeld
                go_wp2
                go_ret
                exact ⟨rfl, G7.out.bl.trans (D9'.out.mono G7.out.bl.size)⟩
end Go.Proofs.Ythfaeapodfgldaa
