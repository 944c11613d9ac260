/- The law RingFades of layer 7 (ring), walked. -/
import Derived.Test.YthfaeapodfgldaaRgU
import Derived.BigQuiet
namespace Go.Proofs.Ythfaeapodfgldaa
set_option linter.unusedSimpArgs false
set_option linter.unusedVariables false
open Go.ChangeShapes Go.WideShapes Go.ChangeAt Go.RowKit
open Ar (inR)
theorem fades_end {w : World} {R : RgN} {σ τ : RgS} {s : ByteArray} {T : Int} {N S : Nat} (h : RgAt w R τ) (hf : FewR R σ T) (hT : T ≤ 9223372036854775807) (hn : R.n = N + 1) (hs : R.s = S) (h400 : (S : Int) * (N : Int) + (S : Int) ≤ 400) (he : τ = ⟨σ.t + 400, σ.num, σ.F⟩) : estZ R τ s = 0 := by
  have hs1 : 1 ≤ S := by have := h.bd.2.1.1; omega
  subst he
  refine est_gone h (hf.to (by omega) (by omega)) hT (fun i hi => ?_)
  have h1 := hf.now i hi
  show σ.num i < (σ.t + 400) / (R.s : Int) - ((R.n : Int) - 1)
  have h1' : σ.num i ≤ σ.t / (R.s : Int) := h1
  rw [hs] at h1' ⊢
  rw [hn]
  have h2 : σ.t / (S : Int) + ((N : Int) + 1) = (σ.t + ((N : Int) + 1) * (S : Int)) / (S : Int) := (Int.add_mul_ediv_right _ _ (by omega)).symm
  have h3 : ((N : Int) + 1) * (S : Int) = (S : Int) * (N : Int) + (S : Int) := by rw [Int.add_mul, Int.one_mul, Int.mul_comm]
  have h4 : (σ.t + ((N : Int) + 1) * (S : Int)) / (S : Int) ≤ (σ.t + 400) / (S : Int) := Int.ediv_le_ediv (by omega) (by omega)
  rw [← h2] at h4
  omega
set_option maxRecDepth 100000 in
set_option maxHeartbeats 4000000 in
theorem rgfades_law (w : World) (a b c d : Int) (sm : Bool) (A : Option Addr) (n c0 : Nat) (zs : List Int) (A2 : Option Addr) (n2 c2 : Nat) (L : List (Int × Int × ByteArray)) (hr : RdI w .u64 A n c0 zs) (hr2 : RdL w A2 n2 c2 3 encIIS L) (hok : ∀ a ∈ L, okIIS a) :
    Calls Try.prog 7 #[.agg #[.int .i64 a, .int .i64 b, .int .i64 c, .int .i64 d, .bool sm], .slice A n c0, .slice A2 n2 c2] w fun e w' => e = .returned (.bool true) ∧ Below w.heap.size w w' := by
  have hmx2 := hr2.max
  unfold maxLen at hmx2
  have hcp2 := hr2.cap
  have HR2 := Lib.hid hr2
  have HO := Lib.hid hok
  have hmx1 := hr.max
  unfold maxLen at hmx1
  have hcp1 := hr.cap
  have HR1 := Lib.hid hr
  clear hr hr2 hok
  obtain ⟨w1, hw1, k1, l1', s1⟩ := box_new w #[.int .i64 a, .int .i64 b, .int .i64 c, .int .i64 d, .bool sm] 23
  obtain ⟨pl, hpl⟩ : ∃ x, x = w.heap.size := ⟨_, rfl⟩
  rw [← hpl] at k1
  have K2 := Lib.hid (And.intro k1 l1')
  have HB := Lib.hid hpl
  clear k1 l1' s1
  go_enter Try.func7, Try.ntmps7
  go_upto_region 1 with (fail)
  rw [← HB.out]
  clear hw1 hpl
  go_upto_region 3 with (go_at_call 10; ((refine (rgfit_any _).mono ?_); rintro e w3 ⟨rfl, b3⟩; have K3 := Lib.hid (And.intro (K2.out.1.keep b3) (K2.out.2.trans (b3.mono K2.out.2.size))); clear b3))
  by_cases hn60 : 60 < n
  · have t60 : decide ((60 : Int) < (n : Int)) = true := by rw [decide_eq_true_iff]; omega
    clear hn60
    go_wp2
    go_ret
    exact ⟨rfl, K3.out.2⟩
  have t60 : decide ((60 : Int) < (n : Int)) = false := by rw [decide_eq_false_iff_not]; omega
  clear hn60
  have CLi := Lib.hid (rglight_any A2 n2 c2 L w3 (HR2.out.below K3.out.2) HO.out)
  cases hlb : lightR L with
  | false =>
    rw [hlb] at CLi
    go_wp2_with (go_at_call 11; ((with_reducible refine CLi.out.mono ?_); rintro e w4 ⟨rfl, b4⟩; have T4 := Lib.hid (K3.out.2.trans (b4.mono K3.out.2.size)); clear b4))
    go_ret
    exact ⟨rfl, T4.out⟩
  | true =>
  rw [hlb] at CLi
  have hlen : L.length ≤ 100 := by unfold lightR at hlb; simp at hlb; exact hlb.1
  have hln := HR2.out.len
  have hb2 : (n2 : Int) ≤ 100 := by omega
  clear hlb hlen hln
  go_upto_region 5 with (go_at_call 11; ((with_reducible refine CLi.out.mono ?_); rintro e w4 ⟨rfl, b4⟩; have K4 := Lib.hid (And.intro (K3.out.1.keep b4) (K3.out.2.trans (b4.mono K3.out.2.size))); clear b4))
  clear CLi
  have kp := K4.out.1.rd
  have CRu := Lib.hid (rgrule_any a b c d sm w4)
  obtain ⟨Lm, hLm⟩ : ∃ x, x = plL d := ⟨_, rfl⟩
  obtain ⟨Wd, hWd⟩ : ∃ x, x = ((plS b * plN a : Nat) : Int) := ⟨_, rfl⟩
  obtain ⟨Sl, hSl⟩ : ∃ x, x = ((plN a : Nat) : Int) := ⟨_, rfl⟩
  obtain ⟨Wi, hWi⟩ : ∃ x, x = ((plW c : Nat) : Int) := ⟨_, rfl⟩
  have CNw := Lib.hid (fun b0 wx (hr : RowsAt wx b0 2 (rX zs) (rA zs) (rB zs)) => plan_new a b c d sm 2 (by omega) b0 _ _ _ wx hr (rows_lt zs 2))
  rw [← hLm, ← hWd, ← hSl, ← hWi] at CRu CNw
  have hLb : 1 ≤ Lm ∧ Lm ≤ 64 := by rw [hLm]; unfold plL; omega
  obtain ⟨S, hS⟩ : ∃ S, S = plS b := ⟨_, rfl⟩
  obtain ⟨N, hN⟩ : ∃ N, N = plN a := ⟨_, rfl⟩
  have hSb : 1 ≤ S ∧ S ≤ 32 := by rw [hS]; unfold plS; omega
  have hNb : 1 ≤ N ∧ N ≤ 8 := by rw [hN]; unfold plN; omega
  have hWS : Wd = (S : Int) * (N : Int) := by rw [hWd, hS, hN, Int.natCast_mul]
  have hSN : Sl = (N : Int) := by rw [hSl, hN]
  have hWb : 0 ≤ Wd ∧ Wd ≤ 256 := by
    have : S * N ≤ 32 * 8 := Nat.mul_le_mul hSb.2 hNb.2
    rw [hWS, ← Int.natCast_mul]; omega
  have hq0 : Wd.tdiv Sl = (S : Int) := by
    rw [hWS, hSN, ← Int.natCast_mul, Int.tdiv_eq_ediv_of_nonneg (Int.natCast_nonneg _), ← Int.natCast_ediv, Nat.mul_div_cancel _ (by omega)]
  have HW := Lib.hid (And.intro hWb (And.intro hSb (And.intro hNb (And.intro hq0 (And.intro hWS (And.intro hSN (And.intro hS hN)))))))
  clear hLm hWd hSl hWi hLb hSb hNb hWS hSN hWb hq0 hS hN
  go_upto_region 6 with (go_at_call 12; ((with_reducible refine CRu.out.mono ?_); rintro e w5 ⟨rfl, b5⟩; obtain ⟨y1, y2, ey1, kr9, kw9, ey2, bl9, kc9⟩ := box9R w5 (.int .i64 Lm) (.int .i64 Wd) (.int .i64 0) (.int .i64 Sl) (.int .i64 0) (.int .i64 0) (.int .i64 Wi) (.int .i64 0) (.bool sm); have K6 := Lib.hid (And.intro kc9 ((K4.out.2.trans (b5.mono K4.out.2.size)).trans (bl9.mono (Nat.le_trans K4.out.2.size b5.size)))); clear b5 bl9 kc9))
  clear ey1 kr9 kw9 ey2 kp CRu
  obtain ⟨rb, hrb⟩ : ∃ rb, rb = w5.heap.size := ⟨_, rfl⟩
  rw [← hrb] at K6 ⊢
  clear hrb
  have CR := Lib.hid (fun wx (hb : Below y2.heap.size y2 wx) => show Calls Try.prog 14 #[.slice A n c0, .int .i64 2] wx (fun e w' => e = .returned (.slice (some ⟨wx.heap.size, 0, none⟩) 2 2) ∧ RowsAt w' wx.heap.size 2 (rX zs) (rA zs) (rB zs) ∧ Below wx.heap.size wx w') from rows_any wx A n c0 zs (HR1.out.below (K6.out.2.trans (hb.mono K6.out.2.size))) 2 (by omega))
  have SB := Lib.hid (fun wx (hb : Below y2.heap.size y2 wx) => show ∀ i, wx.cell? ⟨rb, i, none⟩ = (#[.int .i64 Lm, .int .i64 Wd, .int .i64 0, .int .i64 Sl, .int .i64 0, .int .i64 0, .int .i64 Wi, .int .i64 0, .bool sm] : Array Value)[i]? from (K6.out.1.keep hb).rd)
  have D7 := Lib.hid (show Below y2.heap.size y2 y2.drew from below_draws (Below.refl _ _) 1)
  have k7 := SB.out _ D7.out
  go_region_held3 (fun wx => ∀ i, wx.cell? ⟨rb, i, none⟩ = (#[.int .i64 Lm, .int .i64 Wd, .int .i64 0, .int .i64 Sl, .int .i64 0, .int .i64 0, .int .i64 Wi, .int .i64 0, .bool sm] : Array Value)[i]?) (first | assumption | exact SB.out _ D8.out | exact SB.out _ D9.out)
    (first
      | (go_at_call 14; ((with_reducible refine (CR.out _ D7.out).mono ?_); rintro e w8 ⟨rfl, r8, b8⟩; have R8 := Lib.hid (show RowsAt w8 y2.heap.size 2 (rX zs) (rA zs) (rB zs) from r8); have D8 := Lib.hid (D7.out.trans (b8.mono D7.out.size)); clear r8 b8))
      | (go_at_call 13; ((with_reducible refine (CNw.out _ _ R8.out).mono ?_); rintro e w9 ⟨R, rfl, s9, n1, n2, b9⟩; have D9 := Lib.hid (D8.out.trans (b9.mono D8.out.size)); have NR := Lib.hid n1; have NS := Lib.hid n2; have BR := Lib.hid (show ¬ R.F rb from fun hh => by have := n2 rb (Or.inl hh); have := D8.out.size; have := K6.out.1; have := lt_of_block this; omega); have G9 := Lib.hid (show GA w w9 R ⟨0, fun _ => 0, fun _ _ _ => 0⟩ from ⟨s9, fun b hb => Nat.le_trans (Nat.le_trans K6.out.2.size D8.out.size) (n2 b hb), K6.out.2.trans (D9.out.mono K6.out.2.size)⟩); have KB := Lib.hid (K6.out.1.keep D9.out); clear s9 n1 n2 b9)))
  clear k7 SB CR CNw
  have hk97 : (⟨#[97]⟩ : ByteArray).size ≤ maxLen := by show 1 ≤ maxLen; unfold maxLen; omega
  have HK97 := Lib.hid hk97
  clear hk97
  have HK2 := Lib.hid (show R.k = 2 from NR.out.2.2.2.2.1)
  have HN := Lib.hid (show R.n = N + 1 by rw [NR.out.1, HW.out.2.2.2.2.2.2.2])
  have HS := Lib.hid (show R.s = S by rw [NR.out.2.1, HW.out.2.2.2.2.2.2.1])
  have hlen2 : n2 ≤ 100 := by omega
  go_wp2
  go_loopg [32, 9] n2 (fun kk si sn wr => ∃ (i : Nat) (t : Int) (σ : RgS), i ≤ n2 ∧ Hid (kk = n2 - i) ∧ si = .int .i64 (i : Int) ∧ sn = .int .i64 t ∧ Hid (0 ≤ t ∧ t ≤ 7 * (i : Int)) ∧ Hid (σ.t = t) ∧ Hid (GA w wr R σ) ∧ Hid (FewR R σ (255 * (i : Int))) ∧ Hid (Blk wr rb 29 #[.int .i64 Lm, .int .i64 Wd, .int .i64 0, .int .i64 Sl, .int .i64 0, .int .i64 0, .int .i64 Wi, .int .i64 0, .bool sm]))
  case atStart => exact ⟨0, 0, _, by omega, Lib.hid rfl, rfl, rfl, Lib.hid (by omega), Lib.hid rfl, G9, Lib.hid (FewR.new R), KB⟩
  case round =>
    obtain ⟨i, t, σ, hi, HKK, rfl, rfl, HT, HTt, HG, HF, HB2⟩ := hrel
    by_cases hin : i < n2
    · have hl2 := HR2.out.len
      obtain ⟨b', off, rfl, hbl, hc⟩ := (HR2.out.below HG.out.bl).at_ (by omega)
      obtain ⟨⟨gp, cs, ky⟩, ha⟩ : ∃ a, L[i]? = some a := ⟨_, List.getElem?_eq_getElem (by omega)⟩
      have hky0 := HO.out _ (List.mem_of_getElem? ha)
      have hky : ky.size ≤ maxLen := by unfold okIIS at hky0; first | exact hky0 | exact hky0.2 | exact hky0.2.2
      clear hky0
      have kr0 : wr.cell? ⟨b', off + i * 3, none⟩ = some (.int .i64 gp) := hc i _ ha 0 (by omega)
      have kr1 : wr.cell? ⟨b', off + i * 3 + 1, none⟩ = some (.int .i64 cs) := hc i _ ha 1 (by omega)
      have kr2 : wr.cell? ⟨b', off + i * 3 + 2, none⟩ = some (.string ky) := hc i _ ha 2 (by omega)
      obtain ⟨y1, y2, ey1, kr, kw, ey2, bl2, kc2⟩ := box3R wr 37 (.int .i64 0) (.int .i64 0) (.string ⟨#[]⟩) (.int .i64 gp) (.int .i64 cs) (.string ky)
      have G6 := Lib.hid (HG.out.keep bl2)
      have B6 := Lib.hid (HB2.out.keep bl2)
      obtain ⟨bx, hbx⟩ : ∃ bx, bx = wr.heap.size := ⟨_, rfl⟩
      have HBX := Lib.hid (show ¬ R.F bx from fun hh => by have := HG.out.at_.lt bx (Or.inl hh); omega)
      rw [← hbx] at kc2
      have kc3 := kc2.rd
      have KC := Lib.hid kc2
      obtain ⟨g, hg⟩ : ∃ g, g = gapR gp := ⟨_, rfl⟩
      obtain ⟨g7, hg7⟩ : ∃ g7, g7 = g % 8 := ⟨_, rfl⟩
      have e7 : bits .and .i64 g 7 = g7 := by rw [hg7]; exact i64_mask3 g
      have hgb : 0 ≤ g7 ∧ g7 ≤ 7 := by omega
      have CG := Lib.hid (fun wx => rggap_any gp wx)
      rw [← hg] at CG
      obtain ⟨t', ht'⟩ : ∃ t', t' = t + g7 := ⟨_, rfl⟩
      have hT := HT.out
      have et : IntKind.i64.wrap (t + g7) = t' := by rw [IntKind.wrap_i64]; omega
      have HT' := Lib.hid (show (0 ≤ t' ∧ t' ≤ 7 * ((i : Int) + 1)) ∧ t ≤ t' ∧ t' ≤ 9223372036854775807 by omega)
      obtain ⟨q, hq⟩ : ∃ q, q = cs % 256 := ⟨_, rfl⟩
      have eq : bits .and .i64 cs 255 = q := by rw [hq]; exact i64_mask8 cs
      have HQ := Lib.hid (show 0 ≤ q ∧ q ≤ 255 by omega)
      have t2 : (i : Int) < (n2 : Int) := by omega
      have HIN := Lib.hid hin
      have HF1 := Lib.hid (show FewR R ⟨t', σ.num, σ.F⟩ (255 * (i : Int)) from HF.out.to HG.out.at_.bd.2.1.1 (by rw [HTt.out]; exact HT'.out.2.1))
      have CT := Lib.hid (fun wx (hx : RgAt wx R σ) => show Calls Try.prog 16 #[.pointer (some ⟨R.x, 0, none⟩), .int .i64 t'] wx (fun e w' => e = .returned (.tuple #[]) ∧ RgAt w' R ⟨t', σ.num, σ.F⟩ ∧ Fr (fun b => b = R.x) wx w') from by
        have := rto_any t' (by have := HT'.out; omega) wx hx
        rw [show max σ.t t' = t' by rw [HTt.out]; have := HT'.out; omega] at this
        exact this)
      have CA := Lib.hid (fun wx (hx : RgAt wx R ⟨t', σ.num, σ.F⟩) => radd_any ky hky q (by have := HQ.out; omega) wx hx)
      clear hl2 hc hbl ha bl2 kc2 hgb hg ht' hT hq hin hg7 hky
      go_upto_region 11 with (fail)
      rw [← hbx]
      clear kr kw ey1 kr0 kr1 kr2 ey2 hbx
      go_upto_region 13 with (first
        | (go_at_call 15; ((with_reducible refine (CG.out _).mono ?_); rintro e y3 ⟨rfl, rfl⟩))
        | (go_at_call 16; ((with_reducible refine (CT.out _ G6.out.at_).mono ?_); rintro e y4 ⟨rfl, s4, f4⟩; have G4 := Lib.hid (G6.out.op s4 (f4.mono (fun b hb => Or.inl hb))); have B4 := Lib.hid (B6.out.fr f4 (fun e => BR.out (Or.inl e))); have K4' := Lib.hid (KC.out.fr f4 (fun e => HBX.out (Or.inl e))); clear s4 f4)))
      clear kc3
      have kc3 := K4'.out.rd
      go_wp2_with (go_at_call 17; ((with_reducible refine (CA.out _ G4.out.at_).mono ?_); rintro e y5 ⟨rfl, s5, f5⟩; have G5 := Lib.hid (G4.out.op s5 f5); have B5 := Lib.hid (B4.out.fr f5 BR.out); clear s5 f5))
      go_roundg (n2 - (i + 1))
      case measure => have := HKK.out; have := HIN.out; omega
      case rel =>
        have HF2 : FewR R (RgS.add ⟨t', σ.num, σ.F⟩ R ky q) (255 * (i : Int) + q) := HF1.out.add G4.out.at_ ky (by have := HQ.out; omega)
        exact ⟨i + 1, t', _, HIN.out, Lib.hid rfl, by go_num, rfl, Lib.hid (by have := HT'.out; omega), Lib.hid rfl, G5, Lib.hid ⟨fun s => Int.le_trans (HF2.all s) (by have := HQ.out; omega), HF2.now⟩, B5⟩
    · have hie : i = n2 := by omega
      subst hie
      have HT2 := Lib.hid (show 0 ≤ t ∧ t ≤ 700 by have := HT.out; omega)
      have HF2 := Lib.hid (show FewR R σ 25500 from ⟨fun s => Int.le_trans (HF.out.all s) (by omega), HF.out.now⟩)
      obtain ⟨ez, hez⟩ : ∃ e, e = estZ R σ ⟨#[97]⟩ := ⟨_, rfl⟩
      have HEZ := Lib.hid (show ez = estZ R ⟨t, σ.num, σ.F⟩ ⟨#[97]⟩ by rw [hez, ← HTt.out])
      have CE := Lib.hid (restimate_any ⟨#[97]⟩ HK97.out wr HG.out.at_)
      have HGT := Lib.hid (show GA w wr R ⟨t, σ.num, σ.F⟩ by have := HG.out; rw [← HTt.out]; exact this)
      rw [← hez] at CE
      clear hez
      go_upto_region 17 with (go_at_call 18; ((with_reducible refine CE.out.mono ?_); rintro e w5 ⟨rfl, b5⟩; have G5 := Lib.hid (HGT.out.keep b5); have B5 := Lib.hid (HB2.out.keep b5); clear b5))
      clear CE
      go_wp2
      go_loopg [55, 9, 12] 400 (fun kk si sn sl wr => ∃ (r : Nat) (tt e : Int), r ≤ 400 ∧ Hid (kk = 400 - r) ∧ si = .int .i64 (r : Int) ∧ sn = .int .i64 tt ∧ sl = .int .i64 e ∧ Hid (tt = t + (r : Int)) ∧ Hid (e = estZ R ⟨tt, σ.num, σ.F⟩ ⟨#[97]⟩) ∧ Hid (GA w wr R ⟨tt, σ.num, σ.F⟩) ∧ Hid (Blk wr rb 29 #[.int .i64 Lm, .int .i64 Wd, .int .i64 0, .int .i64 Sl, .int .i64 0, .int .i64 0, .int .i64 Wi, .int .i64 0, .bool sm]))
      case atStart => exact ⟨0, t, ez, by omega, Lib.hid rfl, rfl, rfl, rfl, Lib.hid (by omega), HEZ, G5, B5⟩
      case round =>
        obtain ⟨r, tt, e, hr4, HKR, rfl, rfl, rfl, HTR, HER, HGR, HBR⟩ := hrel
        by_cases hin : r < 400
        · obtain ⟨t', ht'⟩ : ∃ t', t' = tt + 1 := ⟨_, rfl⟩
          have hT2 := HT2.out
          have hTR := HTR.out
          have et : IntKind.i64.wrap (tt + 1) = t' := by rw [IntKind.wrap_i64]; omega
          have HT' := Lib.hid (show t' = t + ((r : Int) + 1) ∧ tt ≤ t' ∧ 0 ≤ t' ∧ t' ≤ 9223372036854775807 by omega)
          have t2 : decide ((r : Int) < 400) = true := by rw [decide_eq_true_iff]; omega
          have HIN := Lib.hid hin
          obtain ⟨e2, he2⟩ : ∃ e2, e2 = estZ R ⟨t', σ.num, σ.F⟩ ⟨#[97]⟩ := ⟨_, rfl⟩
          obtain ⟨mz, hmz⟩ : ∃ mz, mz = msum R ⟨t', σ.num, σ.F⟩ (0 : Int) ⟨#[97]⟩ (RgS.now ⟨t', σ.num, σ.F⟩ R - ((R.n : Int) - 1)) R.n := ⟨_, rfl⟩
          have HE2 := Lib.hid he2
          have CT := Lib.hid (fun wx (hx : RgAt wx R ⟨tt, σ.num, σ.F⟩) => show Calls Try.prog 16 #[.pointer (some ⟨R.x, 0, none⟩), .int .i64 t'] wx (fun e w' => e = .returned (.tuple #[]) ∧ RgAt w' R ⟨t', σ.num, σ.F⟩ ∧ Fr (fun b => b = R.x) wx w') from by
            have := rto_any t' (by have := HT'.out; omega) wx hx
            rw [show max (RgS.t ⟨tt, σ.num, σ.F⟩) t' = t' by have := HT'.out; show max tt t' = t'; omega] at this
            exact this)
          have CE := Lib.hid (fun wx (hx : RgAt wx R ⟨t', σ.num, σ.F⟩) => restimate_any ⟨#[97]⟩ HK97.out wx hx)
          have CM := Lib.hid (fun wx (hx : RgAt wx R ⟨t', σ.num, σ.F⟩) => rmass_any 0 (by omega) ⟨#[97]⟩ HK97.out wx hx)
          have HFT := Lib.hid (HF2.out.to (t := tt) HGR.out.at_.bd.2.1.1 (by have := HTt.out; omega))
          have HFT' := Lib.hid (HF2.out.to (t := t') HGR.out.at_.bd.2.1.1 (by have := HTt.out; omega))
          have HLE := Lib.hid (fun wx (hx : RgAt wx R ⟨t', σ.num, σ.F⟩) => show e2 ≤ e from by
            have h := est_fades (s := ⟨#[97]⟩) HGR.out.at_ (w' := wx) (by rw [ht'] at hx; exact hx) HFT.out (by omega)
            rw [HER.out, he2, ht']; exact h)
          have HLM := Lib.hid (fun wx (hx : RgAt wx R ⟨t', σ.num, σ.F⟩) => show e2 ≤ mz from by
            have h := est_le_mass (s := ⟨#[97]⟩) (row := 0) hx HFT'.out (by omega) (by rw [HK2.out]; omega)
            rw [he2, hmz]; exact h)
          simp only [← he2] at CE
          simp only [← hmz] at CM
          clear hT2 hTR ht' hin he2 hmz
          go_upto_region 21 with (first
            | (go_at_call 16; ((with_reducible refine (CT.out _ HGR.out.at_).mono ?_); rintro e w6 ⟨rfl, s6, f6⟩; have G6 := Lib.hid (HGR.out.op s6 (f6.mono (fun b hb => Or.inl hb))); have B6 := Lib.hid (HBR.out.fr f6 (fun e => BR.out (Or.inl e))); clear s6 f6))
            | (go_at_call 18; ((with_reducible refine (CE.out _ G6.out.at_).mono ?_); rintro e w7 ⟨rfl, b7⟩; have G7 := Lib.hid (G6.out.keep b7); have B7 := Lib.hid (B6.out.keep b7); clear b7)))
          have hle := HLE.out _ G7.out.at_
          have hlm := HLM.out _ G7.out.at_
          have t5 : decide (e < e2) = false := by rw [decide_eq_false_iff_not]; omega
          have t6 : decide (mz < e2) = false := by rw [decide_eq_false_iff_not]; omega
          clear hle hlm HLE HLM CT CE
          go_wp2_with (go_at_call 19; ((with_reducible refine (CM.out _ G7.out.at_).mono ?_); rintro e w8 ⟨rfl, b8⟩; have G8 := Lib.hid (G7.out.keep b8); have B8 := Lib.hid (B7.out.keep b8); clear b8))
          go_roundg (400 - (r + 1))
          case measure => have := HKR.out; have := HIN.out; omega
          case rel => exact ⟨r + 1, t', e2, HIN.out, Lib.hid rfl, by go_num, rfl, rfl, Lib.hid (by have := HT'.out; omega), HE2, G8, B8⟩
        · have hie : r = 400 := by omega
          subst hie
          have kb := HBR.out.rd
          have hW := HW.out
          obtain ⟨hWb, hSb, hNb, hq0, hWS, hSN, hSS⟩ := hW
          clear hSS
          have hSl0 : ¬ Sl = 0 := by omega
          have s0 : IntKind.i64.wrap (S : Int) = (S : Int) := by rw [IntKind.wrap_i64]; omega
          have s1 : IntKind.i64.wrap (Wd + (S : Int)) = Wd + (S : Int) := by rw [IntKind.wrap_i64]; omega
          have t2 : decide (((400 : Nat) : Int) < 400) = false := rfl
          by_cases h4 : 400 < Wd + (S : Int)
          · have t3 : decide (400 < Wd + (S : Int)) = true := by rw [decide_eq_true_iff]; exact h4
            clear hWb hSb hNb hWS hSN h4
            go_upto_region 25 with (fail)
            go_quiet (fail)
            go_wp2
            go_ret
            exact ⟨rfl, HGR.out.bl.trans ((below_draws (Below.refl _ _) _).mono HGR.out.bl.size)⟩
          · have t3 : decide (400 < Wd + (S : Int)) = false := by rw [decide_eq_false_iff_not]; exact h4
            have he0 : e = 0 := by
              rw [HER.out]
              exact fades_end (σ := σ) HGR.out.at_ HF2.out (by omega) HN.out HS.out (by rw [← hWS]; omega) (by rw [HTR.out, HTt.out]; rfl)
            subst he0
            clear hWb hSb hNb hWS hSN h4
            go_upto_region 25 with (fail)
            go_quiet (fail)
            go_wp2
            go_ret
            exact ⟨rfl, HGR.out.bl.trans ((below_draws (Below.refl _ _) _).mono HGR.out.bl.size)⟩
end Go.Proofs.Ythfaeapodfgldaa
