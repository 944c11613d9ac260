/- The law RingOver of layer 7 (ring), walked. -/
import Derived.Test.YthfaeapodfgldaaRgO
import Derived.Test.YthfaeapodfgldaaGen
import Derived.BigQuiet
namespace Go.Proofs.Ythfaeapodfgldaa
set_option linter.unusedSimpArgs false
set_option linter.unusedVariables false
open Go.ChangeShapes Go.WideShapes Go.ChangeAt Go.RowKit
open Ar (inR)
def encHd (a : Int × Int × ByteArray) : List Value := [.int .i64 a.1, .int .i64 a.2.1, .string a.2.2]
theorem encHd_len (a : Int × Int × ByteArray) : (encHd a).length = 3 := rfl
theorem infoHad : (Try.prog.info? 42).map (fun i => (i.zero, i.size, i.bytes)) = some (some (.agg #[.int .i64 0, .int .i64 0, .string ⟨#[]⟩]), 3, 32) := by kernel_rfl
theorem str_neR {s t : ByteArray} (h : t ≠ s) : (t.toList == s.toList) = false :=
  beq_eq_false_iff_ne.2 (fun e => h (ByteArray.ext (Array.toList_inj.1 (by rw [ByteArray.toList_eq, ByteArray.toList_eq] at e; exact e))))
theorem own_hd {w : World} {base g c n m : Nat} {e : TypeId} {l : List (Int × Int × ByteArray)} (h : w.ownsRow base e 3 (.slice (some ⟨g, 0, none⟩) m c) n (rws encHd l)) {j : Nat} {x : Int × Int × ByteArray} (hx : l[j]? = some x) :
    w.cell? ⟨g, j * 3, none⟩ = some (.int .i64 x.1) ∧ w.cell? ⟨g, j * 3 + 1, none⟩ = some (.int .i64 x.2.1) ∧ w.cell? ⟨g, j * 3 + 2, none⟩ = some (.string x.2.2) := by
  have hl : (rws encHd l).length = n * 3 := h.1
  rw [rws_length encHd_len] at hl
  have hj : j < l.length := (List.getElem?_eq_some_iff.1 hx).1
  obtain ⟨A, c', hv, h1, h2, h3⟩ := G.own_at h
  injection hv with e1 e2 e3
  subst e1 e2 e3
  obtain ⟨g', hg, _, _, _, hc, _⟩ := h3 (by omega)
  injection hg with e4
  injection e4 with e5
  subst e5
  have r := fun k (hk : k < 3) => rws_get encHd_len l j k x hx hk
  refine ⟨?_, ?_, ?_⟩
  · rw [hc _ (by omega)]; exact r 0 (by omega)
  · rw [hc _ (by omega)]; exact r 1 (by omega)
  · rw [hc _ (by omega)]; exact r 2 (by omega)
set_option maxRecDepth 100000 in
set_option maxHeartbeats 4000000 in
theorem rgover_law (w : World) (a b c d : Int) (sm : Bool) (A : Option Addr) (n c0 : Nat) (zs : List Int) (A2 : Option Addr) (n2 c2 : Nat) (L : List (Int × Int × ByteArray)) (hr : RdI w .u64 A n c0 zs) (hr2 : RdL w A2 n2 c2 3 encIIS L) (hok : ∀ a ∈ L, okIIS a) :
    Calls Try.prog 3 #[.agg #[.int .i64 a, .int .i64 b, .int .i64 c, .int .i64 d, .bool sm], .slice A n c0, .slice A2 n2 c2] w fun e w' => e = .returned (.bool true) ∧ Below w.heap.size w w' := by
  have hmx2 := hr2.max
  unfold maxLen at hmx2
  have hcp2 := hr2.cap
  have HR2 := Lib.hid hr2
  have HO := Lib.hid hok
  have hmx1 := hr.max
  unfold maxLen at hmx1
  have hcp1 := hr.cap
  have HR1 := Lib.hid hr
  clear hr hr2 hok
  obtain ⟨w1, hw1, k1, l1', s1⟩ := box_new w #[.int .i64 a, .int .i64 b, .int .i64 c, .int .i64 d, .bool sm] 23
  obtain ⟨pl, hpl⟩ : ∃ x, x = w.heap.size := ⟨_, rfl⟩
  rw [← hpl] at k1
  have K2 := Lib.hid (And.intro k1 l1')
  have HB := Lib.hid hpl
  clear k1 l1' s1
  go_enter Try.func3, Try.ntmps3
  go_upto_region 1 with (fail)
  rw [← HB.out]
  clear hw1 hpl
  go_upto_region 3 with (go_at_call 10; ((refine (rgfit_any _).mono ?_); rintro e w3 ⟨rfl, b3⟩; have K3 := Lib.hid (And.intro (K2.out.1.keep b3) (K2.out.2.trans (b3.mono K2.out.2.size))); clear b3))
  by_cases hn60 : 60 < n
  · have t60 : decide ((60 : Int) < (n : Int)) = true := by rw [decide_eq_true_iff]; omega
    clear hn60
    go_wp2
    go_ret
    exact ⟨rfl, K3.out.2⟩
  have t60 : decide ((60 : Int) < (n : Int)) = false := by rw [decide_eq_false_iff_not]; omega
  clear hn60
  have CLi := Lib.hid (rglight_any A2 n2 c2 L w3 (HR2.out.below K3.out.2) HO.out)
  cases hlb : lightR L with
  | false =>
    rw [hlb] at CLi
    go_wp2_with (go_at_call 11; ((with_reducible refine CLi.out.mono ?_); rintro e w4 ⟨rfl, b4⟩; have T4 := Lib.hid (K3.out.2.trans (b4.mono K3.out.2.size)); clear b4))
    go_ret
    exact ⟨rfl, T4.out⟩
  | true =>
  rw [hlb] at CLi
  have hlen : L.length ≤ 100 := by unfold lightR at hlb; simp at hlb; exact hlb.1
  have hln := HR2.out.len
  have hb2 : (n2 : Int) ≤ 100 := by omega
  clear hlb hlen hln
  go_upto_region 5 with (go_at_call 11; ((with_reducible refine CLi.out.mono ?_); rintro e w4 ⟨rfl, b4⟩; have K4 := Lib.hid (And.intro (K3.out.1.keep b4) (K3.out.2.trans (b4.mono K3.out.2.size))); clear b4))
  clear CLi
  have kp := K4.out.1.rd
  have CRu := Lib.hid (rgrule_any a b c d sm w4)
  obtain ⟨Lm, hLm⟩ : ∃ x, x = plL d := ⟨_, rfl⟩
  obtain ⟨Wd, hWd⟩ : ∃ x, x = ((plS b * plN a : Nat) : Int) := ⟨_, rfl⟩
  obtain ⟨Sl, hSl⟩ : ∃ x, x = ((plN a : Nat) : Int) := ⟨_, rfl⟩
  obtain ⟨Wi, hWi⟩ : ∃ x, x = ((plW c : Nat) : Int) := ⟨_, rfl⟩
  have CNw := Lib.hid (fun b0 wx (hr : RowsAt wx b0 3 (rX zs) (rA zs) (rB zs)) => plan_new a b c d sm 3 (by omega) b0 _ _ _ wx hr (rows_lt zs 3))
  rw [← hLm, ← hWd, ← hSl, ← hWi] at CRu CNw
  have hLb : 1 ≤ Lm ∧ Lm ≤ 64 := by rw [hLm]; unfold plL; omega
  obtain ⟨S, hS⟩ : ∃ S, S = plS b := ⟨_, rfl⟩
  obtain ⟨N, hN⟩ : ∃ N, N = plN a := ⟨_, rfl⟩
  have hSb : 1 ≤ S ∧ S ≤ 32 := by rw [hS]; unfold plS; omega
  have hNb : 1 ≤ N ∧ N ≤ 8 := by rw [hN]; unfold plN; omega
  have hWS : Wd = (S : Int) * (N : Int) := by rw [hWd, hS, hN, Int.natCast_mul]
  have hSN : Sl = (N : Int) := by rw [hSl, hN]
  have hWb : 0 ≤ Wd ∧ Wd ≤ 256 := by
    have : S * N ≤ 32 * 8 := Nat.mul_le_mul hSb.2 hNb.2
    rw [hWS, ← Int.natCast_mul]; omega
  have hq0 : Wd.tdiv Sl = (S : Int) := by
    rw [hWS, hSN, ← Int.natCast_mul, Int.tdiv_eq_ediv_of_nonneg (Int.natCast_nonneg _), ← Int.natCast_ediv, Nat.mul_div_cancel _ (by omega)]
  have HW := Lib.hid (And.intro hWb (And.intro hSb (And.intro hNb (And.intro hq0 (And.intro hWS (And.intro hSN (And.intro hS hN)))))))
  clear hLm hWd hSl hWi hLb hSb hNb hWS hSN hWb hq0 hS hN
  go_upto_region 6 with (go_at_call 12; ((with_reducible refine CRu.out.mono ?_); rintro e w5 ⟨rfl, b5⟩; obtain ⟨y1, y2, ey1, kr9, kw9, ey2, bl9, kc9⟩ := box9R w5 (.int .i64 Lm) (.int .i64 Wd) (.int .i64 0) (.int .i64 Sl) (.int .i64 0) (.int .i64 0) (.int .i64 Wi) (.int .i64 0) (.bool sm); have K6 := Lib.hid (And.intro kc9 ((K4.out.2.trans (b5.mono K4.out.2.size)).trans (bl9.mono (Nat.le_trans K4.out.2.size b5.size)))); clear b5 bl9 kc9))
  clear ey1 kr9 kw9 ey2 kp CRu
  obtain ⟨rb, hrb⟩ : ∃ rb, rb = w5.heap.size := ⟨_, rfl⟩
  rw [← hrb] at K6 ⊢
  clear hrb
  have CR := Lib.hid (fun wx (hb : Below y2.heap.size y2 wx) => show Calls Try.prog 14 #[.slice A n c0, .int .i64 3] wx (fun e w' => e = .returned (.slice (some ⟨wx.heap.size, 0, none⟩) 3 3) ∧ RowsAt w' wx.heap.size 3 (rX zs) (rA zs) (rB zs) ∧ Below wx.heap.size wx w') from rows_any wx A n c0 zs (HR1.out.below (K6.out.2.trans (hb.mono K6.out.2.size))) 3 (by omega))
  have SB := Lib.hid (fun wx (hb : Below y2.heap.size y2 wx) => show ∀ i, wx.cell? ⟨rb, i, none⟩ = (#[.int .i64 Lm, .int .i64 Wd, .int .i64 0, .int .i64 Sl, .int .i64 0, .int .i64 0, .int .i64 Wi, .int .i64 0, .bool sm] : Array Value)[i]? from (K6.out.1.keep hb).rd)
  have D7 := Lib.hid (show Below y2.heap.size y2 y2.drew from below_draws (Below.refl _ _) 1)
  have k7 := SB.out _ D7.out
  go_region_held3 (fun wx => ∀ i, wx.cell? ⟨rb, i, none⟩ = (#[.int .i64 Lm, .int .i64 Wd, .int .i64 0, .int .i64 Sl, .int .i64 0, .int .i64 0, .int .i64 Wi, .int .i64 0, .bool sm] : Array Value)[i]?) (first | assumption | exact SB.out _ D8.out | exact SB.out _ D9.out)
    (first
      | (go_at_call 14; ((with_reducible refine (CR.out _ D7.out).mono ?_); rintro e w8 ⟨rfl, r8, b8⟩; have R8 := Lib.hid (show RowsAt w8 y2.heap.size 3 (rX zs) (rA zs) (rB zs) from r8); have D8 := Lib.hid (D7.out.trans (b8.mono D7.out.size)); clear r8 b8))
      | (go_at_call 13; ((with_reducible refine (CNw.out _ _ R8.out).mono ?_); rintro e w9 ⟨R, rfl, s9, n1, n2, b9⟩; have D9 := Lib.hid (D8.out.trans (b9.mono D8.out.size)); have NR := Lib.hid n1; have NS := Lib.hid n2; have BR := Lib.hid (show ¬ R.F rb from fun hh => by have := n2 rb (Or.inl hh); have := D8.out.size; have := K6.out.1; have := lt_of_block this; omega); have G9 := Lib.hid (show GA w w9 R ⟨0, fun _ => 0, fun _ _ _ => 0⟩ from ⟨s9, fun b hb => Nat.le_trans (Nat.le_trans K6.out.2.size D8.out.size) (n2 b hb), K6.out.2.trans (D9.out.mono K6.out.2.size)⟩); have KB := Lib.hid (K6.out.1.keep D9.out); clear s9 n1 n2 b9)))
  clear k7 SB CR CNw
  have HSM := Lib.hid (show R.sm = sm from NR.out.2.2.2.1)
  have HK2 := Lib.hid (show R.k = 3 from NR.out.2.2.2.2.1)
  have HN := Lib.hid (show R.n = N + 1 by rw [NR.out.1, HW.out.2.2.2.2.2.2.2])
  have HS := Lib.hid (show R.s = S by rw [NR.out.2.1, HW.out.2.2.2.2.2.2.1])
  have hlen2 : n2 ≤ 100 := by omega
  have HNB := Lib.hid (show ∀ b, R.all b → b < w9.heap.size from G9.out.at_.lt)
  go_wp2
  go_loopg [38, 9, 10] n2 (fun kk si sn sl wr => ∃ (i : Nat) (t : Int) (σ : RgS) (l : List (Int × Int × ByteArray)), i ≤ n2 ∧ Hid (kk = n2 - i) ∧ si = .int .i64 (i : Int) ∧ sn = .int .i64 t ∧ Hid (0 ≤ t ∧ t ≤ 4095 * (i : Int)) ∧ Hid (σ.t = t) ∧ Hid (GA w wr R σ) ∧ Hid (FewR R σ (255 * (i : Int))) ∧ Hid (OvR R σ l) ∧ Hid (l.length = i) ∧ Hid (w9.heap.size ≤ wr.heap.size) ∧ Hid (wr.ownsRow w9.heap.size 42 3 sl l.length (rws encHd l)) ∧ Hid (Blk wr rb 29 #[.int .i64 Lm, .int .i64 Wd, .int .i64 0, .int .i64 Sl, .int .i64 0, .int .i64 0, .int .i64 Wi, .int .i64 0, .bool sm]))
  case atStart => exact ⟨0, 0, _, [], by omega, Lib.hid rfl, rfl, rfl, Lib.hid (by omega), Lib.hid rfl, G9, Lib.hid (FewR.new R), Lib.hid (OvR.new R), Lib.hid rfl, Lib.hid (Nat.le_refl _), Lib.hid (World.ownsRow_nil _ _ _ _), KB⟩
  case round =>
    obtain ⟨i, t, σ, l, hi, HKK, rfl, rfl, HT, HTt, HG, HF, HV, HLL, HS9, HO9, HB2⟩ := hrel
    by_cases hin : i < n2
    · as_aux_lemma =>
        have hl2 := HR2.out.len
        obtain ⟨b', off, rfl, hbl, hc⟩ := (HR2.out.below HG.out.bl).at_ (by omega)
        obtain ⟨⟨gp, cs, ky⟩, ha⟩ : ∃ a, L[i]? = some a := ⟨_, List.getElem?_eq_getElem (by omega)⟩
        have hky0 := HO.out _ (List.mem_of_getElem? ha)
        have hky : ky.size ≤ maxLen := by unfold okIIS at hky0; first | exact hky0 | exact hky0.2 | exact hky0.2.2
        clear hky0
        have kr0 : wr.cell? ⟨b', off + i * 3, none⟩ = some (.int .i64 gp) := hc i _ ha 0 (by omega)
        have kr1 : wr.cell? ⟨b', off + i * 3 + 1, none⟩ = some (.int .i64 cs) := hc i _ ha 1 (by omega)
        have kr2 : wr.cell? ⟨b', off + i * 3 + 2, none⟩ = some (.string ky) := hc i _ ha 2 (by omega)
        obtain ⟨y1, y2, ey1, kr, kw, ey2, bl2, kc2⟩ := box3R wr 37 (.int .i64 0) (.int .i64 0) (.string ⟨#[]⟩) (.int .i64 gp) (.int .i64 cs) (.string ky)
        have G6 := Lib.hid (HG.out.keep bl2)
        have B6 := Lib.hid (HB2.out.keep bl2)
        obtain ⟨bx, hbx⟩ : ∃ bx, bx = wr.heap.size := ⟨_, rfl⟩
        have HBX := Lib.hid (show ¬ R.F bx from fun hh => by have := HG.out.at_.lt bx (Or.inl hh); omega)
        rw [← hbx] at kc2
        have kc3 := kc2.rd
        have KC := Lib.hid kc2
        obtain ⟨g, hg⟩ : ∃ g, g = gapR gp := ⟨_, rfl⟩
        have hgb : 0 ≤ g ∧ g ≤ 4095 := by rw [hg]; exact gapR_bd gp
        have CG := Lib.hid (fun wx => rggap_any gp wx)
        rw [← hg] at CG
        obtain ⟨t', ht'⟩ : ∃ t', t' = t + g := ⟨_, rfl⟩
        have hT := HT.out
        have et : IntKind.i64.wrap (t + g) = t' := by rw [IntKind.wrap_i64]; omega
        have HT' := Lib.hid (show (0 ≤ t' ∧ t' ≤ 4095 * ((i : Int) + 1)) ∧ t ≤ t' ∧ t' ≤ 9223372036854775807 by omega)
        obtain ⟨q, hq⟩ : ∃ q, q = cs % 256 := ⟨_, rfl⟩
        have eq : bits .and .i64 cs 255 = q := by rw [hq]; exact i64_mask8 cs
        have HQ := Lib.hid (show 0 ≤ q ∧ q ≤ 255 by omega)
        have t2 : (i : Int) < (n2 : Int) := by omega
        have HIN := Lib.hid hin
        have HF1 := Lib.hid (show FewR R ⟨t', σ.num, σ.F⟩ (255 * (i : Int)) from HF.out.to HG.out.at_.bd.2.1.1 (by rw [HTt.out]; exact HT'.out.2.1))
        have CT := Lib.hid (fun wx (hx : RgAt wx R σ) => show Calls Try.prog 16 #[.pointer (some ⟨R.x, 0, none⟩), .int .i64 t'] wx (fun e w' => e = .returned (.tuple #[]) ∧ RgAt w' R ⟨t', σ.num, σ.F⟩ ∧ Fr (fun b => b = R.x) wx w') from by
          have := rto_any t' (by have := HT'.out; omega) wx hx
          rw [show max σ.t t' = t' by rw [HTt.out]; have := HT'.out; omega] at this
          exact this)
        have CA := Lib.hid (fun wx (hx : RgAt wx R ⟨t', σ.num, σ.F⟩) => radd_any ky hky q (by have := HQ.out; omega) wx hx)
        have bl2' := bl2
        clear hl2 hc hbl ha bl2 kc2 hgb hg ht' hT hq hin
        have HFT := Lib.hid hky
        clear hky
        go_upto_region 12 with (fail)
        rw [← hbx]
        have S6 := Lib.hid (show w9.heap.size ≤ y2.heap.size ∧ w9.heap.size ≤ bx from ⟨Nat.le_trans HS9.out bl2'.size, by rw [hbx]; exact HS9.out⟩)
        have O6 := Lib.hid (G.own_below HO9.out bl2')
        have OB := Lib.hid (show ∀ g, u10.ownBlock = some g → g < bx from fun g hg => by rw [hbx]; exact G.own_lt HO9.out g hg)
        clear kr kw ey1 kr0 kr1 kr2 ey2 hbx bl2'
        go_upto_region 14 with (first
          | (go_at_call 15; ((with_reducible refine (CG.out _).mono ?_); rintro e y3 ⟨rfl, rfl⟩)))
        go_upto_region 15 with (first
          | (go_at_call 16; ((with_reducible refine (CT.out _ G6.out.at_).mono ?_); rintro e y4 ⟨rfl, s4, f4⟩; have G4 := Lib.hid (G6.out.op s4 (f4.mono (fun b hb => Or.inl hb))); have B4 := Lib.hid (B6.out.fr f4 (fun e => BR.out (Or.inl e))); have K4' := Lib.hid (KC.out.fr f4 (fun e => HBX.out (Or.inl e))); have O4 := Lib.hid (G.own_fr O6.out f4 (fun g hg hh => by have h1 := G.own_base O6.out g hg; have h2 := HNB.out R.x (Or.inl (Or.inl rfl)); omega)); have S4 := Lib.hid (Nat.le_trans S6.out.1 f4.size); clear s4 f4)))
        clear kc3
        have kc3 := K4'.out.rd
        go_upto_region 16 with (go_at_call 17; ((with_reducible refine (CA.out _ G4.out.at_).mono ?_); rintro e y5 ⟨rfl, s5, f5⟩; have G5 := Lib.hid (G4.out.op s5 f5); have B5 := Lib.hid (B4.out.fr f5 BR.out); have K5 := Lib.hid (K4'.out.fr f5 HBX.out); have O5 := Lib.hid (G.own_fr O4.out f5 (fun g hg hh => by have h1 := G.own_base O4.out g hg; have h2 := HNB.out g (Or.inl hh); omega)); have S5 := Lib.hid (Nat.le_trans S4.out f5.size); clear s5 f5))
        clear kc3 CT CA
        have kc3 := K5.out.rd
        obtain ⟨iH, hI, hI0, hI1, hI2⟩ := info_parts infoHad
        have hlb : l.length ≤ 100 := by have := HLL.out; have := HIN.out; omega
        go_upto_region 17 with (at_builtin; refine G.wpList_push (by rfl) _ _ (by rfl) (by rfl) (by rfl) Try.underlying35 hI hI0 hI1 hI2 (by rfl) (by omega) O5.out S5.out (encHd (t', q, ky)) (by rfl) (by intro u hu; simp [encHd] at hu; rcases hu with rfl | rfl | rfl <;> rfl) (by omega) (by unfold maxLen; omega) ?_; intro g1 c1 y6 ho5 hf5 hn5; have HO6 := Lib.hid ho5; have HF6 := Lib.hid hf5; clear ho5 hf5 hn5)
        clear hI hI0 hI1 hI2 kc3
        have hw9 := G9.out.bl.size
        obtain ⟨σ', hσ'⟩ : ∃ x, x = RgS.add ⟨t', σ.num, σ.F⟩ R ky q := ⟨_, rfl⟩
        have hst : σ'.t = t' := by rw [hσ']; rfl
        have G7 := Lib.hid (show GA w y6 R σ' from by
          rw [hσ']
          exact ⟨G5.out.at_.fr HF6.out (fun b hb hh => by have h1 := G.own_base O5.out b hh; have h2 := HNB.out b hb; omega), G5.out.lo, G5.out.bl.trans (HF6.out.below G5.out.bl.size (fun b hb => by have := G.own_base O5.out b hb; omega))⟩)
        have B7 := Lib.hid (B5.out.fr HF6.out (fun hh => by have h1 := G.own_base O5.out rb hh; have h2 := lt_of_block KB.out; omega))
        have K7 := Lib.hid (K5.out.fr HF6.out (fun hh => by have h1 := OB.out bx hh; omega))
        have S7 := Lib.hid (Nat.le_trans S5.out HF6.out.size)
        obtain ⟨L2, hL2⟩ : ∃ x, x = l ++ [(t', q, ky)] := ⟨_, rfl⟩
        have hL2l : L2.length = i + 1 := by rw [hL2, List.length_append, HLL.out]; rfl
        have O7 := Lib.hid (show y6.ownsRow w9.heap.size 42 3 (.slice (some ⟨g1, 0, none⟩) (l.length + 1) c1) L2.length (rws encHd L2) from by
          have := HO6.out
          rw [hL2, rws_app, List.length_append]
          exact this)
        have HF7 := Lib.hid (show FewR R σ' (255 * ((i : Int) + 1)) from by
          have HF2 : FewR R (RgS.add ⟨t', σ.num, σ.F⟩ R ky q) (255 * (i : Int) + q) := HF1.out.add G4.out.at_ ky (by have := HQ.out; omega)
          rw [hσ']
          exact ⟨fun s => Int.le_trans (HF2.all s) (by have := HQ.out; omega), HF2.now⟩)
        have HV7 := Lib.hid (show OvR R σ' L2 from by
          rw [hσ', hL2]
          exact (HV.out.to HF.out G4.out.at_.bd.2.1.1 (by rw [HTt.out]; exact HT'.out.2.1)).add HF1.out G4.out.at_ (by rw [HK2.out]; omega) ky HQ.out (by have := HIN.out; omega))
        have HL2 := Lib.hid hL2l
        have HST := Lib.hid hst
        have hlb2 : l.length + 1 = i + 1 := by rw [HLL.out]
        have hi100 := HIN.out
        rw [hlb2] at O7 ⊢
        have hT'' := HT'.out
        clear hw9 hσ' hL2 hL2l hst HO6 O5 HF6 B5 K5 S5 G5 G4 B4 K4' O4 S4 CG hlb hlb2
        have kb := B7.out.rd
        obtain ⟨hWb, hSb, hNb, hq0, hWS, hSN, hSS⟩ := HW.out
        obtain ⟨Sp, hSp⟩ : ∃ z, z = (if sm then Wd - (S : Int) else Wd) := ⟨_, rfl⟩
        have hSl0 : ¬ Sl = 0 := by omega
        have s0 : IntKind.i64.wrap (S : Int) = (S : Int) := by rw [IntKind.wrap_i64]; omega
        have s1 : IntKind.i64.wrap (Wd - (S : Int)) = Wd - (S : Int) := by rw [IntKind.wrap_i64]; omega
        obtain ⟨zz, hzz⟩ : ∃ z, z = t' - Sp := ⟨_, rfl⟩
        have hSpb : 0 ≤ Sp ∧ Sp ≤ 256 := by
          have hSW : (S : Int) ≤ Wd := by rw [hWS]; have := Int.mul_le_mul_of_nonneg_left (show (1 : Int) ≤ (N : Int) by omega) (show (0 : Int) ≤ (S : Int) by omega); omega
          rw [hSp]; split <;> omega
        have fz : IntKind.i64.wrap (t' - Sp) = zz := by rw [IntKind.wrap_i64]; omega
        have HZ := Lib.hid (show zz = σ'.t - ((R.s : Int) * ((R.n : Int) - 1) - (if R.sm then (R.s : Int) else 0)) from by
          rw [hzz, HST.out, HS.out, HN.out, HSM.out, show ((N + 1 : Nat) : Int) - 1 = (N : Int) by omega, ← hWS, hSp]
          cases sm <;> simp)
        have HVC := Lib.hid (HV7.out.cs)
        have HSP := Lib.hid hSp
        clear hSp hzz hSpb hWb hSb hNb hWS hSN hSS
        go_upto_if 69 with (fail)
        go_cut [14] from 70 to 76 (fun s14 wx => s14 = .int .i64 Sp ∧ wx = y6)
        case first =>
          cases sm with
          | true =>
            go_wp2
            go_meet
            case rel => exact ⟨by rw [HSP.out]; rfl, rfl⟩
          | false =>
            go_wp2
            go_meet
            case rel => exact ⟨by rw [HSP.out]; rfl, rfl⟩
        case rest =>
        obtain ⟨rfl, hwc⟩ := hcut
        have hwc' := hwc.symm
        clear hwc
        subst hwc'
        clear hSl0 hq0 s0 s1 kb
        have hlen1 : ((i + 1 : Nat) : Int) ≤ 100 := by omega
        go_upto_region 22 with (fail)
        go_wp2
        obtain ⟨wo, hwo⟩ : ∃ x : World, x = y6 := ⟨_, rfl⟩
        go_loopg [79, 15] (i + 1) (fun kk sj ss wr => ∃ (j : Nat) (sv : Int), j ≤ i + 1 ∧ Hid (kk = i + 1 - j) ∧ sj = .int .i64 (j : Int) ∧ ss = .int .i64 sv ∧ Hid (sv = wsum ky zz (L2.take j)) ∧ Hid (Below y6.heap.size y6 wr))
        case atStart => exact ⟨0, 0, by omega, Lib.hid rfl, rfl, rfl, Lib.hid (by simp [wsum]), Lib.hid (Below.refl _ _)⟩
        case round =>
          obtain ⟨j, sv, hj, HKJ, rfl, rfl, HSV, HBJ⟩ := hrel
          by_cases hjn : j < i + 1
          · as_aux_lemma =>
              obtain ⟨⟨xa, xc, xk⟩, hx⟩ : ∃ x, L2[j]? = some x := ⟨_, List.getElem?_eq_getElem (by have := HL2.out; omega)⟩
              obtain ⟨m0, m1, m2⟩ := own_hd (G.own_below O7.out HBJ.out) hx
              have HSS := Lib.hid (show wsum ky zz (L2.take (j + 1)) = sv + (if xk = ky ∧ zz < xa then xc else 0) from by rw [HSV.out]; exact wsum_take ky zz hx)
              have HSB := Lib.hid (show 0 ≤ sv ∧ sv ≤ 25500 from by
                have h := wsum_in ky zz (L2.take j) (fun x hx => HVC.out x (List.mem_of_mem_take hx))
                rw [← HSV.out] at h
                have hl : ((L2.take j).length : Int) ≤ 100 := by rw [List.length_take]; omega
                omega)
              have HXC := Lib.hid (HVC.out _ (List.mem_of_getElem? hx))
              obtain ⟨z1, z2, ez1, kr, kw, ez2, blz, kcz⟩ := box3R wr 42 (.int .i64 0) (.int .i64 0) (.string ⟨#[]⟩) (.int .i64 xa) (.int .i64 xc) (.string xk)
              obtain ⟨bz, hbz⟩ : ∃ bz, bz = wr.heap.size := ⟨_, rfl⟩
              rw [← hbz] at kcz
              have kz := kcz.rd
              have HB2 := Lib.hid (HBJ.out.trans (blz.mono HBJ.out.size))
              have kx := (K7.out.keep HB2.out).rd
              have HJN := Lib.hid hjn
              clear hx blz kcz
              go_upto_region 24 with (fail)
              rw [← hbz]
              clear kr kw ez1 ez2 m0 m1 m2 hbz
              have hund : undef = Value.tuple #[] := rfl
              by_cases hk : xk = ky
              · subst hk
                have tk : (xk.toList == xk.toList) = true := by simp
                by_cases hz : zz < xa
                · have tz : decide (zz < xa) = true := by rw [decide_eq_true_iff]; exact hz
                  obtain ⟨s2, hs2⟩ : ∃ s2, s2 = sv + xc := ⟨_, rfl⟩
                  have fs : IntKind.i64.wrap (sv + xc) = s2 := by rw [IntKind.wrap_i64]; have := HSB.out; have := HXC.out; simp only at this; omega
                  have HS2 := Lib.hid (show s2 = wsum xk zz (L2.take (j + 1)) by rw [HSS.out, if_pos ⟨rfl, hz⟩]; exact hs2)
                  clear hz hs2
                  go_wp2
                  go_roundg (i + 1 - (j + 1))
                  case measure => have := HKJ.out; have := HJN.out; omega
                  case rel => exact ⟨j + 1, s2, HJN.out, Lib.hid rfl, by go_num, rfl, HS2, HB2⟩
                · have tz : decide (zz < xa) = false := by rw [decide_eq_false_iff_not]; exact hz
                  have HS2 := Lib.hid (show sv = wsum xk zz (L2.take (j + 1)) by rw [HSS.out, if_neg (fun hh => hz hh.2)]; omega)
                  clear hz
                  go_wp2
                  go_roundg (i + 1 - (j + 1))
                  case measure => have := HKJ.out; have := HJN.out; omega
                  case rel => exact ⟨j + 1, sv, HJN.out, Lib.hid rfl, by go_num, rfl, HS2, HB2⟩
              · have tk : (xk.toList == ky.toList) = false := str_neR hk
                have HS2 := Lib.hid (show sv = wsum ky zz (L2.take (j + 1)) by rw [HSS.out, if_neg (fun hh => hk hh.1)]; omega)
                clear hk
                go_wp2
                go_roundg (i + 1 - (j + 1))
                case measure => have := HKJ.out; have := HJN.out; omega
                case rel => exact ⟨j + 1, sv, HJN.out, Lib.hid rfl, by go_num, rfl, HS2, HB2⟩
          · have hje : j = i + 1 := by omega
            subst hje
            obtain ⟨ez, hez⟩ : ∃ e, e = estZ R σ' ky := ⟨_, rfl⟩
            have G8 := Lib.hid (G7.out.keep HBJ.out)
            have CE := Lib.hid (fun wx (hx : RgAt wx R σ') => restimate_any ky HFT.out wx hx)
            simp only [← hez] at CE
            have hov : sv ≤ ez := by
              have h := est_over HV7.out HF7.out G7.out.at_ (by omega) ky HZ.out
              rw [← hez] at h
              have e1 : L2.take (i + 1) = L2 := by rw [List.take_of_length_le (by rw [HL2.out]; exact Nat.le_refl _)]
              rw [HSV.out, e1]
              exact h
            have tE : decide (ez < sv) = false := by rw [decide_eq_false_iff_not]; omega
            have HEZ := Lib.hid hez
            have K8 := Lib.hid (K7.out.keep HBJ.out)
            have kx := K8.out.rd
            clear hov hez
            go_upto_region 28 with (go_at_call 18; ((with_reducible refine (CE.out _ G8.out.at_).mono ?_); rintro e w7 ⟨rfl, b7⟩; have BJ7 := Lib.hid (HBJ.out.trans (b7.mono HBJ.out.size)); clear b7))
            clear CE kx
            obtain ⟨w7', hw7⟩ : ∃ x : World, x = wr := ⟨_, rfl⟩
            go_wp2
            go_loopg [108] 3 (fun kk sr wr => ∃ (r : Nat), r ≤ 3 ∧ Hid (kk = 3 - r) ∧ sr = .int .i64 (r : Int) ∧ Hid (Below y6.heap.size y6 wr))
            case atStart => exact ⟨0, by omega, Lib.hid rfl, rfl, BJ7⟩
            case round =>
              obtain ⟨r, hr3, HKR, rfl, HBR⟩ := hrel
              by_cases hrn : r < 3
              · as_aux_lemma =>
                  obtain ⟨mz, hmz⟩ : ∃ mz, mz = msum R σ' (r : Int) ky (RgS.now σ' R - ((R.n : Int) - 1)) R.n := ⟨_, rfl⟩
                  have CM := Lib.hid (fun wx (hx : RgAt wx R σ') => rmass_any (r : Int) (by omega) ky HFT.out wx hx)
                  simp only [← hmz] at CM
                  have hlm : ez ≤ mz := by
                    have h := est_le_mass (s := ky) (row := r) G7.out.at_ HF7.out (by omega) (by rw [HK2.out]; exact hrn)
                    rw [HEZ.out, hmz]; exact h
                  have t6 : decide (mz < ez) = false := by rw [decide_eq_false_iff_not]; omega
                  have t2' : decide ((r : Int) < 3) = true := by rw [decide_eq_true_iff]; omega
                  have G9' := Lib.hid (G7.out.keep HBR.out)
                  have kx := (K7.out.keep HBR.out).rd
                  have HRN := Lib.hid hrn
                  clear hlm hmz hrn
                  go_wp2_with (go_at_call 19; ((with_reducible refine (CM.out _ G9'.out.at_).mono ?_); rintro e w8 ⟨rfl, b8⟩; have B8 := Lib.hid (HBR.out.trans (b8.mono HBR.out.size)); clear b8))
                  go_roundg (3 - (r + 1))
                  case measure => have := HKR.out; have := HRN.out; omega
                  case rel => exact ⟨r + 1, HRN.out, Lib.hid rfl, by go_num, B8⟩
              · have hre : r = 3 := by omega
                subst hre
                have t2' : decide (((3 : Nat) : Int) < 3) = false := rfl
                go_wp2
                go_roundg (n2 - (i + 1))
                case measure => have := HKK.out; have := HIN.out; omega
                case rel => exact ⟨i + 1, t', σ', L2, HIN.out, Lib.hid rfl, by go_num, rfl, Lib.hid (by have := HT'.out; omega), HST, Lib.hid (G7.out.keep HBR.out), HF7, HV7, HL2, Lib.hid (Nat.le_trans S7.out HBR.out.size), Lib.hid (by have := G.own_below O7.out HBR.out; exact this), Lib.hid (B7.out.keep HBR.out)⟩
    · as_aux_lemma =>
        have hie : n2 = i := by omega
        subst hie
        have hT := HT.out
        obtain ⟨hWb, hSb, hNb, hq0, hWS, hSN, hSS⟩ := HW.out
        have hSl0 : ¬ Sl = 0 := by omega
        have hS0 : ¬ (S : Int) = 0 := by omega
        have hS1 : ¬ S = 0 := by omega
        have s0 : IntKind.i64.wrap (S : Int) = (S : Int) := by rw [IntKind.wrap_i64]; omega
        obtain ⟨qq, hqq⟩ : ∃ x, x = t / (S : Int) := ⟨_, rfl⟩
        have hqb : 0 ≤ qq ∧ qq ≤ 409500 := by
          have h1 := Int.ediv_le_self (S : Int) hT.1
          have h2 := Int.ediv_nonneg hT.1 (show (0 : Int) ≤ (S : Int) by omega)
          rw [← hqq] at h1 h2
          omega
        have m3 : t.tdiv (S : Int) = qq := by rw [hqq]; exact Int.tdiv_eq_ediv_of_nonneg hT.1
        have s2 : IntKind.i64.wrap qq = qq := by rw [IntKind.wrap_i64]; omega
        have CN := Lib.hid (fun wx (hx : RgAt wx R σ) => show Calls Try.prog 20 #[.pointer (some ⟨R.x, 0, none⟩), .int .i64 t] wx (fun e w' => e = .returned (.int .i64 qq) ∧ wx = w') from by
          have := rnumber_any t (by omega) wx hx
          rw [HS.out, ← hqq] at this
          exact this)
        have SB5 := Lib.hid (fun wx (hb : Below wr.heap.size wr wx) => show ∀ i, wx.cell? ⟨rb, i, none⟩ = (#[.int .i64 Lm, .int .i64 Wd, .int .i64 0, .int .i64 Sl, .int .i64 0, .int .i64 0, .int .i64 Wi, .int .i64 0, .bool sm] : Array Value)[i]? from (HB2.out.keep hb).rd)
        have D5 := Lib.hid (show Below wr.heap.size wr wr.drew from below_draws (Below.refl _ _) 1)
        have k5 := SB5.out _ D5.out
        clear hWb hSb hNb hWS hSN hSS hqb hqq hT
        have b0 : (qq == qq) = true := by simp
        go_upto_region 37 with (fail)
        refine wp_region_held_drew (S := fun wx => ∀ i, wx.cell? ⟨rb, i, none⟩ = (#[.int .i64 Lm, .int .i64 Wd, .int .i64 0, .int .i64 Sl, .int .i64 0, .int .i64 0, .int .i64 Wi, .int .i64 0, .bool sm] : Array Value)[i]?) (by kernel_rfl) k5 (fun hHeld => ?_)
        refine wpAnyH_take (i := 0) (oi := ?_) (v := ?_) ?_ ?_ ?_ ?_ ?_ ?_ ?_ ?_
        rotate_left 2
        · simp only [List.getElem?_toArray, List.getElem?_cons_succ, List.getElem?_cons_zero]; rfl
        · kernel_rfl
        · kernel_rfl
        · kernel_rfl
        · exact fun _ _ _ h => h
        · refine Or.inl ⟨by rfl, ?_⟩
          intro w' hSw
          (try dsimp only at hSw)
          go_simp
          all_goals (with_reducible rfl)
        · assumption
        try simp only [Act.put, List.setIfInBounds_toArray, List.set_cons_zero, List.set_cons_succ]
        refine wpAnyH_take (i := 1) (oi := ?_) (v := ?_) ?_ ?_ ?_ ?_ ?_ ?_ ?_ ?_
        rotate_left 2
        · simp only [List.getElem?_toArray, List.getElem?_cons_succ, List.getElem?_cons_zero]; rfl
        · kernel_rfl
        · kernel_rfl
        · kernel_rfl
        · exact fun _ _ _ h => h
        · refine Or.inl ⟨by rfl, ?_⟩
          intro w' hSw
          (try dsimp only at hSw)
          go_simp
          all_goals (with_reducible rfl)
        · assumption
        try simp only [Act.put, List.setIfInBounds_toArray, List.set_cons_zero, List.set_cons_succ]
        refine wpAnyH_take (i := 3) (oi := ?_) (v := ?_) ?_ ?_ ?_ ?_ ?_ ?_ ?_ ?_
        rotate_left 2
        · simp only [List.getElem?_toArray, List.getElem?_cons_succ, List.getElem?_cons_zero]; rfl
        · kernel_rfl
        · kernel_rfl
        · kernel_rfl
        · exact fun _ _ _ h => h
        · refine Or.inl ⟨by rfl, ?_⟩
          intro w' hSw
          (try dsimp only at hSw)
          go_simp
          all_goals (with_reducible rfl)
        · assumption
        try simp only [Act.put, List.setIfInBounds_toArray, List.set_cons_zero, List.set_cons_succ]
        refine wpAnyH_take (i := 4) (oi := ?_) (v := ?_) ?_ ?_ ?_ ?_ ?_ ?_ ?_ ?_
        rotate_left 2
        · simp only [List.getElem?_toArray, List.getElem?_cons_succ, List.getElem?_cons_zero]; rfl
        · kernel_rfl
        · kernel_rfl
        · kernel_rfl
        · exact fun _ _ _ h => h
        · refine Or.inl ⟨by rfl, ?_⟩
          intro w' hSw
          (try dsimp only at hSw)
          go_simp
          all_goals (with_reducible rfl)
        · assumption
        try simp only [Act.put, List.setIfInBounds_toArray, List.set_cons_zero, List.set_cons_succ]
        refine wpAnyH_take (i := 5) (oi := ?_) (v := ?_) ?_ ?_ ?_ ?_ ?_ ?_ ?_ ?_
        rotate_left 2
        · simp only [List.getElem?_toArray, List.getElem?_cons_succ, List.getElem?_cons_zero]; rfl
        · kernel_rfl
        · kernel_rfl
        · kernel_rfl
        · exact fun _ _ _ h => h
        · refine Or.inl ⟨by rfl, ?_⟩
          intro w' hSw
          (try dsimp only at hSw)
          go_simp
          all_goals (with_reducible rfl)
        · assumption
        try simp only [Act.put, List.setIfInBounds_toArray, List.set_cons_zero, List.set_cons_succ]
        refine wpAnyH_take (i := 6) (oi := ?_) (v := ?_) ?_ ?_ ?_ ?_ ?_ ?_ ?_ ?_
        rotate_left 2
        · simp only [List.getElem?_toArray, List.getElem?_cons_succ, List.getElem?_cons_zero]; rfl
        · kernel_rfl
        · kernel_rfl
        · kernel_rfl
        · exact fun _ _ _ h => h
        · refine Or.inl ⟨by rfl, ?_⟩
          intro w' hSw
          (try dsimp only at hSw)
          go_simp
          all_goals (with_reducible rfl)
        · assumption
        try simp only [Act.put, List.setIfInBounds_toArray, List.set_cons_zero, List.set_cons_succ]
        refine wpAnyH_take (i := 7) (oi := ?_) (v := ?_) ?_ ?_ ?_ ?_ ?_ ?_ ?_ ?_
        rotate_left 2
        · simp only [List.getElem?_toArray, List.getElem?_cons_succ, List.getElem?_cons_zero]; rfl
        · kernel_rfl
        · kernel_rfl
        · kernel_rfl
        · exact fun _ _ _ h => h
        · refine Or.inl ⟨by rfl, ?_⟩
          intro w' hSw
          (try dsimp only at hSw)
          go_simp
          all_goals (with_reducible rfl)
        · assumption
        try simp only [Act.put, List.setIfInBounds_toArray, List.set_cons_zero, List.set_cons_succ]
        refine wpAnyH_take (i := 8) (oi := ?_) (v := ?_) ?_ ?_ ?_ ?_ ?_ ?_ ?_ ?_
        rotate_left 2
        · simp only [List.getElem?_toArray, List.getElem?_cons_succ, List.getElem?_cons_zero]; rfl
        · kernel_rfl
        · kernel_rfl
        · kernel_rfl
        · exact fun _ _ _ h => h
        · refine Or.inl ⟨by rfl, ?_⟩
          intro w' hSw
          (try dsimp only at hSw)
          go_simp
          all_goals (with_reducible rfl)
        · assumption
        try simp only [Act.put, List.setIfInBounds_toArray, List.set_cons_zero, List.set_cons_succ]
        refine wpAnyH_take (i := 9) (oi := ?_) (v := ?_) ?_ ?_ ?_ ?_ ?_ ?_ ?_ ?_
        rotate_left 2
        · simp only [List.getElem?_toArray, List.getElem?_cons_succ, List.getElem?_cons_zero]; rfl
        · kernel_rfl
        · kernel_rfl
        · kernel_rfl
        · exact fun _ _ _ h => h
        · refine Or.inl ⟨by rfl, ?_⟩
          intro w' hSw
          (try dsimp only at hSw)
          go_simp
          all_goals (with_reducible rfl)
        · assumption
        try simp only [Act.put, List.setIfInBounds_toArray, List.set_cons_zero, List.set_cons_succ]
        refine wpAnyH_ready (rs := [2]) (by kernel_rfl) (by simp) ?_
        refine AllReadyH.cons (o := ?_) ?_ ?_ ?_
        rotate_left 1
        · simp only [List.getElem?_toArray, List.getElem?_cons_succ, List.getElem?_cons_zero]; rfl
        rotate_left 1
        · exact AllReadyH.nil
        intro K hK
        go_simp
        ((with_reducible refine (CN.out _ (HG.out.keep D5.out).at_).mono ?_); rintro e w6 ⟨rfl, rfl⟩)
        refine hK.out _ _ (SB5.out _ D5.out) (fun hHeld => ?_)
        clear hK K
        try simp only [Act.put, List.setIfInBounds_toArray, List.set_cons_zero, List.set_cons_succ]
        refine wpAnyH_take (i := 10) (oi := ?_) (v := ?_) ?_ ?_ ?_ ?_ ?_ ?_ ?_ ?_
        rotate_left 2
        · simp only [List.getElem?_toArray, List.getElem?_cons_succ, List.getElem?_cons_zero]; rfl
        · kernel_rfl
        · kernel_rfl
        · kernel_rfl
        · exact fun _ _ _ h => h
        · refine Or.inl ⟨by rfl, ?_⟩
          intro w' hSw
          (try dsimp only at hSw)
          go_simp
          all_goals (with_reducible rfl)
        · assumption
        try simp only [Act.put, List.setIfInBounds_toArray, List.set_cons_zero, List.set_cons_succ]
        refine wpAnyH_take (i := 11) (oi := ?_) (v := ?_) ?_ ?_ ?_ ?_ ?_ ?_ ?_ ?_
        rotate_left 2
        · simp only [List.getElem?_toArray, List.getElem?_cons_succ, List.getElem?_cons_zero]; rfl
        · kernel_rfl
        · kernel_rfl
        · kernel_rfl
        · exact fun _ _ _ h => h
        · refine Or.inl ⟨by rfl, ?_⟩
          intro w' hSw
          (try dsimp only at hSw)
          go_simp
          all_goals (with_reducible rfl)
        · assumption
        try simp only [Act.put, List.setIfInBounds_toArray, List.set_cons_zero, List.set_cons_succ]
        refine wpAnyH_done (by kernel_rfl) ?_ _
        clear hHeld
        go_wp2
        go_ret
        exact ⟨rfl, HG.out.bl.trans (D5.out.mono HG.out.bl.size)⟩
end Go.Proofs.Ythfaeapodfgldaa
