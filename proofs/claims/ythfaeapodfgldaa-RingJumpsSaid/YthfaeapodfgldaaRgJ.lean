/- The law RingJumps of layer 7 (ring), walked. -/
import Derived.Test.YthfaeapodfgldaaRgJm
namespace Go.Proofs.Ythfaeapodfgldaa
set_option linter.unusedSimpArgs false
set_option linter.unusedVariables false
open Go.ChangeShapes Go.WideShapes Go.ChangeAt Go.RowKit
open Ar (inR)
theorem rnew_bad (b0 : Nat) (w : World) : Calls Try.prog 13 #[rlV 0 3 0 4 0 0 1 0 false, .slice (some ⟨b0, 0, none⟩) 1 1] w fun e w' => e = .returned (.pointer none) ∧ Below w.heap.size w w' := by
  obtain ⟨w1, hw1, k1, l1, s1⟩ := box_new w (rlC 0 3 0 4 0 0 1 0 false) 29
  obtain ⟨rb, hrb⟩ : ∃ rb, rb = w.heap.size := ⟨_, rfl⟩
  rw [← hrb] at k1
  have kr := k1.rd
  have L1 := Lib.hid l1
  have HRB := Lib.hid hrb
  clear k1 l1 s1 hrb
  go_enter Try.func13, Try.ntmps13
  go_upto_region 1 with (fail)
  rw [← HRB.out]
  clear hw1
  go_wp2
  go_ret
  exact ⟨rfl, L1.out⟩
set_option maxRecDepth 100000 in
set_option maxHeartbeats 4000000 in
theorem rgjumps_law (w : World) (a b c d : Int) (sm : Bool) (A2 : Option Addr) (n2 c2 : Nat) (L : List (Int × Int × ByteArray)) (jp : Int) (hr2 : RdL w A2 n2 c2 3 encIIS L) (hok : ∀ a ∈ L, okIIS a) (_hj : inR jp) :
    Calls Try.prog 6 #[.agg #[.int .i64 a, .int .i64 b, .int .i64 c, .int .i64 d, .bool sm], .slice A2 n2 c2, .int .i64 jp] w fun e w' => e = .returned (.bool true) ∧ Below w.heap.size w w' := by
  have hmx2 := hr2.max
  unfold maxLen at hmx2
  have hcp2 := hr2.cap
  have HR2 := Lib.hid hr2
  have HO := Lib.hid hok
  clear hr2 hok _hj
  obtain ⟨w1, hw1, k1, l1', s1⟩ := box_new w #[.int .i64 a, .int .i64 b, .int .i64 c, .int .i64 d, .bool sm] 23
  obtain ⟨pl, hpl⟩ : ∃ x, x = w.heap.size := ⟨_, rfl⟩
  rw [← hpl] at k1
  have K2 := Lib.hid (And.intro k1 l1')
  have HB := Lib.hid hpl
  clear k1 l1' s1
  go_enter Try.func6, Try.ntmps6
  go_upto_region 1 with (fail)
  rw [← HB.out]
  clear hw1 hpl
  go_upto_region 3 with (go_at_call 10; ((refine (rgfit_any _).mono ?_); rintro e w3 ⟨rfl, b3⟩; have K3 := Lib.hid (And.intro (K2.out.1.keep b3) (K2.out.2.trans (b3.mono K2.out.2.size))); clear b3))
  have CLi := Lib.hid (rglight_any A2 n2 c2 L w3 (HR2.out.below K3.out.2) HO.out)
  cases hlb : lightR L with
  | false =>
    rw [hlb] at CLi
    go_wp2_with (go_at_call 11; ((with_reducible refine CLi.out.mono ?_); rintro e w4 ⟨rfl, b4⟩; have T4 := Lib.hid (K3.out.2.trans (b4.mono K3.out.2.size)); clear b4))
    go_ret
    exact ⟨rfl, T4.out⟩
  | true =>
  rw [hlb] at CLi
  have hlen : L.length ≤ 100 := by unfold lightR at hlb; simp at hlb; exact hlb.1
  have hln := HR2.out.len
  have hb2 : (n2 : Int) ≤ 100 := by omega
  clear hlb hlen hln
  go_upto_region 5 with (go_at_call 11; ((with_reducible refine CLi.out.mono ?_); rintro e w4 ⟨rfl, b4⟩; have K4 := Lib.hid (And.intro (K3.out.1.keep b4) (K3.out.2.trans (b4.mono K3.out.2.size))); clear b4))
  clear CLi
  have kp := K4.out.1.rd
  have CRu := Lib.hid (rgrule_any a b c d sm w4)
  obtain ⟨Lm, hLm⟩ : ∃ x, x = plL d := ⟨_, rfl⟩
  obtain ⟨Wd, hWd⟩ : ∃ x, x = ((plS b * plN a : Nat) : Int) := ⟨_, rfl⟩
  obtain ⟨Sl, hSl⟩ : ∃ x, x = ((plN a : Nat) : Int) := ⟨_, rfl⟩
  obtain ⟨Wi, hWi⟩ : ∃ x, x = ((plW c : Nat) : Int) := ⟨_, rfl⟩
  have CNw := Lib.hid (fun b0 wx (hr : RowsAt wx b0 2 (rX []) (rA []) (rB [])) => plan_new a b c d sm 2 (by omega) b0 _ _ _ wx hr (rows_lt [] 2))
  rw [← hLm, ← hWd, ← hSl, ← hWi] at CRu CNw
  have hLb : 1 ≤ Lm ∧ Lm ≤ 64 := by rw [hLm]; unfold plL; omega
  obtain ⟨S, hS⟩ : ∃ S, S = plS b := ⟨_, rfl⟩
  obtain ⟨N, hN⟩ : ∃ N, N = plN a := ⟨_, rfl⟩
  have hSb : 1 ≤ S ∧ S ≤ 32 := by rw [hS]; unfold plS; omega
  have hNb : 1 ≤ N ∧ N ≤ 8 := by rw [hN]; unfold plN; omega
  have hWS : Wd = (S : Int) * (N : Int) := by rw [hWd, hS, hN, Int.natCast_mul]
  have hSN : Sl = (N : Int) := by rw [hSl, hN]
  have hWb : 0 ≤ Wd ∧ Wd ≤ 256 := by
    have : S * N ≤ 32 * 8 := Nat.mul_le_mul hSb.2 hNb.2
    rw [hWS, ← Int.natCast_mul]; omega
  have hq0 : Wd.tdiv Sl = (S : Int) := by
    rw [hWS, hSN, ← Int.natCast_mul, Int.tdiv_eq_ediv_of_nonneg (Int.natCast_nonneg _), ← Int.natCast_ediv, Nat.mul_div_cancel _ (by omega)]
  have HW := Lib.hid (And.intro hWb (And.intro hSb (And.intro hNb (And.intro hq0 (And.intro hWS (And.intro hSN (And.intro hS hN)))))))
  clear hLm hWd hSl hWi hLb hSb hNb hWS hSN hWb hq0 hS hN
  go_upto_region 6 with (go_at_call 12; ((with_reducible refine CRu.out.mono ?_); rintro e w5 ⟨rfl, b5⟩; obtain ⟨y1, y2, ey1, kr9, kw9, ey2, bl9, kc9⟩ := box9R w5 (.int .i64 Lm) (.int .i64 Wd) (.int .i64 0) (.int .i64 Sl) (.int .i64 0) (.int .i64 0) (.int .i64 Wi) (.int .i64 0) (.bool sm); have K6 := Lib.hid (And.intro kc9 ((K4.out.2.trans (b5.mono K4.out.2.size)).trans (bl9.mono (Nat.le_trans K4.out.2.size b5.size)))); clear b5 bl9 kc9))
  clear ey1 kr9 kw9 ey2 kp CRu
  obtain ⟨rb, hrb⟩ : ∃ rb, rb = w5.heap.size := ⟨_, rfl⟩
  rw [← hrb] at K6 ⊢
  clear hrb
  have CR := Lib.hid (fun wx (hb : Below y2.heap.size y2 wx) => show Calls Try.prog 14 #[.slice none 0 0, .int .i64 2] wx (fun e w' => e = .returned (.slice (some ⟨wx.heap.size, 0, none⟩) 2 2) ∧ RowsAt w' wx.heap.size 2 (rX []) (rA []) (rB []) ∧ Below wx.heap.size wx w') from rows_any wx none 0 0 [] (rdI_none wx _) 2 (by omega))
  have SB := Lib.hid (fun wx (hb : Below y2.heap.size y2 wx) => show ∀ i, wx.cell? ⟨rb, i, none⟩ = (#[.int .i64 Lm, .int .i64 Wd, .int .i64 0, .int .i64 Sl, .int .i64 0, .int .i64 0, .int .i64 Wi, .int .i64 0, .bool sm] : Array Value)[i]? from (K6.out.1.keep hb).rd)
  have D7 := Lib.hid (show Below y2.heap.size y2 y2.drew from below_draws (Below.refl _ _) 1)
  have k7 := SB.out _ D7.out
  go_upto_region 6 with (fail)
  refine wp_region_held_drew (S := fun wx => ∀ i, wx.cell? ⟨rb, i, none⟩ = (#[.int .i64 Lm, .int .i64 Wd, .int .i64 0, .int .i64 Sl, .int .i64 0, .int .i64 0, .int .i64 Wi, .int .i64 0, .bool sm] : Array Value)[i]?) (by kernel_rfl) k7 (fun hHeld => ?_)
  refine wpAnyH_take (i := 0) (oi := ?_) (v := ?_) ?_ ?_ ?_ ?_ ?_ ?_ ?_ ?_
  rotate_left 2
  · simp only [List.getElem?_toArray, List.getElem?_cons_succ, List.getElem?_cons_zero]; rfl
  · kernel_rfl
  · kernel_rfl
  · kernel_rfl
  · exact fun _ _ _ h => h
  · refine Or.inl ⟨by rfl, ?_⟩
    intro w' hSw
    (try dsimp only at hSw)
    go_simp
    all_goals (with_reducible rfl)
  · assumption
  try simp only [Act.put, List.setIfInBounds_toArray, List.set_cons_zero, List.set_cons_succ]
  refine wpAnyH_take (i := 3) (oi := ?_) (v := ?_) ?_ ?_ ?_ ?_ ?_ ?_ ?_ ?_
  rotate_left 2
  · simp only [List.getElem?_toArray, List.getElem?_cons_succ, List.getElem?_cons_zero]; rfl
  · kernel_rfl
  · kernel_rfl
  · kernel_rfl
  · exact fun _ _ _ h => h
  · refine Or.inl ⟨by rfl, ?_⟩
    intro w' hSw
    (try dsimp only at hSw)
    go_simp
    all_goals (with_reducible rfl)
  · assumption
  try simp only [Act.put, List.setIfInBounds_toArray, List.set_cons_zero, List.set_cons_succ]
  refine wpAnyH_ready (rs := [1]) (by kernel_rfl) (by simp) ?_
  refine AllReadyH.cons (o := ?_) ?_ ?_ ?_
  rotate_left 1
  · simp only [List.getElem?_toArray, List.getElem?_cons_succ, List.getElem?_cons_zero]; rfl
  rotate_left 1
  · exact AllReadyH.nil
  intro K hK
  go_simp
  ((with_reducible refine (CR.out _ D7.out).mono ?_); rintro e w8 ⟨rfl, r8, b8⟩; have R8 := Lib.hid (show RowsAt w8 y2.heap.size 2 (rX []) (rA []) (rB []) from r8); have D8 := Lib.hid (D7.out.trans (b8.mono D7.out.size)); clear r8 b8)
  refine hK.out _ _ (SB.out _ D8.out) (fun hHeld => ?_)
  clear hK K
  try simp only [Act.put, List.setIfInBounds_toArray, List.set_cons_zero, List.set_cons_succ]
  refine wpAnyH_ready (rs := [2]) (by kernel_rfl) (by simp) ?_
  refine AllReadyH.cons (o := ?_) ?_ ?_ ?_
  rotate_left 1
  · simp only [List.getElem?_toArray, List.getElem?_cons_succ, List.getElem?_cons_zero]; rfl
  rotate_left 1
  · exact AllReadyH.nil
  intro K hK
  go_simp
  ((with_reducible refine (CNw.out _ _ R8.out).mono ?_); rintro e w9 ⟨R, rfl, s9, n1, n2, b9⟩; have D9 := Lib.hid (D8.out.trans (b9.mono D8.out.size)); have NR := Lib.hid n1; have NS := Lib.hid n2; have G9 := Lib.hid (show GA w w9 R ⟨0, fun _ => 0, fun _ _ _ => 0⟩ from ⟨s9, fun b hb => Nat.le_trans (Nat.le_trans K6.out.2.size D8.out.size) (n2 b hb), K6.out.2.trans (D9.out.mono K6.out.2.size)⟩); clear s9 n1 n2 b9)
  refine hK.out _ _ (SB.out _ D9.out) (fun hHeld => ?_)
  clear hK K
  try simp only [Act.put, List.setIfInBounds_toArray, List.set_cons_zero, List.set_cons_succ]
  refine wpAnyH_ready (rs := [4]) (by kernel_rfl) (by simp) ?_
  refine AllReadyH.cons (o := ?_) ?_ ?_ ?_
  rotate_left 1
  · simp only [List.getElem?_toArray, List.getElem?_cons_succ, List.getElem?_cons_zero]; rfl
  rotate_left 1
  · exact AllReadyH.nil
  intro K hK
  go_simp
  ((with_reducible refine (CR.out _ D9.out).mono ?_); rintro e w10 ⟨rfl, r8, b8⟩; have R10 := Lib.hid (show RowsAt w10 w9.heap.size 2 (rX []) (rA []) (rB []) from r8); have B10 := Lib.hid b8; have D10 := Lib.hid (D9.out.trans (b8.mono D9.out.size)); clear r8 b8)
  refine hK.out _ _ (SB.out _ D10.out) (fun hHeld => ?_)
  clear hK K
  try simp only [Act.put, List.setIfInBounds_toArray, List.set_cons_zero, List.set_cons_succ]
  refine wpAnyH_ready (rs := [5]) (by kernel_rfl) (by simp) ?_
  refine AllReadyH.cons (o := ?_) ?_ ?_ ?_
  rotate_left 1
  · simp only [List.getElem?_toArray, List.getElem?_cons_succ, List.getElem?_cons_zero]; rfl
  rotate_left 1
  · exact AllReadyH.nil
  intro K hK
  go_simp
  ((with_reducible refine (CNw.out _ _ R10.out).mono ?_); rintro e w11 ⟨Q, rfl, s9, n1, n2, b9⟩; have D11 := Lib.hid (D10.out.trans (b9.mono D10.out.size)); have NQ := Lib.hid n1; have G11 := Lib.hid (show GB w w11 R Q ⟨0, fun _ => 0, fun _ _ _ => 0⟩ ⟨0, fun _ => 0, fun _ _ _ => 0⟩ from ⟨(G9.out.keep B10.out).keep b9, ⟨s9, fun b hb => Nat.le_trans (Nat.le_trans K6.out.2.size D10.out.size) (n2 b hb), K6.out.2.trans (D11.out.mono K6.out.2.size)⟩, fun x hx hy => by have h1 := (G9.out.keep B10.out).at_.lt x hx; have h2 := n2 x hy; omega⟩); have BR := Lib.hid (show ¬ R.F rb ∧ ¬ Q.F rb from ⟨fun hh => by have := NS.out rb (Or.inl hh); have := D8.out.size; have := K6.out.1; have := lt_of_block this; omega, fun hh => by have := n2 rb (Or.inl hh); have := D10.out.size; have := K6.out.1; have := lt_of_block this; omega⟩); have KB := Lib.hid (K6.out.1.keep D11.out); clear s9 n1 n2 b9)
  refine hK.out _ _ (SB.out _ D11.out) (fun hHeld => ?_)
  clear hK K
  try simp only [Act.put, List.setIfInBounds_toArray, List.set_cons_zero, List.set_cons_succ]
  refine wpAnyH_take (i := 6) (oi := ?_) (v := ?_) ?_ ?_ ?_ ?_ ?_ ?_ ?_ ?_
  rotate_left 2
  · simp only [List.getElem?_toArray, List.getElem?_cons_succ, List.getElem?_cons_zero]; rfl
  · kernel_rfl
  · kernel_rfl
  · kernel_rfl
  · exact fun _ _ _ h => h
  · refine Or.inl ⟨by rfl, ?_⟩
    intro w' hSw
    (try dsimp only at hSw)
    go_simp
    all_goals (with_reducible rfl)
  · assumption
  try simp only [Act.put, List.setIfInBounds_toArray, List.set_cons_zero, List.set_cons_succ]
  refine wpAnyH_take (i := 7) (oi := ?_) (v := ?_) ?_ ?_ ?_ ?_ ?_ ?_ ?_ ?_
  rotate_left 2
  · simp only [List.getElem?_toArray, List.getElem?_cons_succ, List.getElem?_cons_zero]; rfl
  · kernel_rfl
  · kernel_rfl
  · kernel_rfl
  · exact fun _ _ _ h => h
  · refine Or.inl ⟨by rfl, ?_⟩
    intro w' hSw
    (try dsimp only at hSw)
    go_simp
    all_goals (with_reducible rfl)
  · assumption
  try simp only [Act.put, List.setIfInBounds_toArray, List.set_cons_zero, List.set_cons_succ]
  refine wpAnyH_done (by kernel_rfl) ?_ _
  clear hHeld
  clear k7 SB CR CNw
  have hk97 : (⟨#[97]⟩ : ByteArray).size ≤ maxLen := by show 1 ≤ maxLen; unfold maxLen; omega
  have HK97 := Lib.hid hk97
  clear hk97
  have HK2 := Lib.hid (show Q.k = R.k from NQ.out.2.2.2.2.1.trans NR.out.2.2.2.2.1.symm)
  have HN := Lib.hid (show R.n = N + 1 by rw [NR.out.1, HW.out.2.2.2.2.2.2.2])
  have HS := Lib.hid (show R.s = S by rw [NR.out.2.1, HW.out.2.2.2.2.2.2.1])
  have hlen2 : n2 ≤ 100 := by omega
  go_wp2
  go_loopg [31, 10] n2 (fun kk si sn wr => ∃ (i : Nat) (t : Int) (σ : RgS), i ≤ n2 ∧ Hid (kk = n2 - i) ∧ si = .int .i64 (i : Int) ∧ sn = .int .i64 t ∧ Hid (0 ≤ t ∧ t ≤ 4095 * (i : Int)) ∧ Hid (σ.t = t) ∧ Hid (GB w wr R Q σ ⟨0, fun _ => 0, fun _ _ _ => 0⟩) ∧ Hid (FewR R σ (255 * (i : Int))) ∧ Hid (Blk wr rb 29 #[.int .i64 Lm, .int .i64 Wd, .int .i64 0, .int .i64 Sl, .int .i64 0, .int .i64 0, .int .i64 Wi, .int .i64 0, .bool sm]))
  case atStart => exact ⟨0, 0, _, by omega, Lib.hid rfl, rfl, rfl, Lib.hid (by omega), Lib.hid rfl, G11, Lib.hid (FewR.new R), KB⟩
  case round =>
    obtain ⟨i, t, σ, hi, HKK, rfl, rfl, HT, HTt, HG, HF, HB2⟩ := hrel
    by_cases hin : i < n2
    · have hl2 := HR2.out.len
      obtain ⟨b', off, rfl, hbl, hc⟩ := (HR2.out.below HG.out.a.bl).at_ (by omega)
      obtain ⟨⟨gp, cs, ky⟩, ha⟩ : ∃ a, L[i]? = some a := ⟨_, List.getElem?_eq_getElem (by omega)⟩
      have hky0 := HO.out _ (List.mem_of_getElem? ha)
      have hky : ky.size ≤ maxLen := by unfold okIIS at hky0; first | exact hky0 | exact hky0.2 | exact hky0.2.2
      clear hky0
      have kr0 : wr.cell? ⟨b', off + i * 3, none⟩ = some (.int .i64 gp) := hc i _ ha 0 (by omega)
      have kr1 : wr.cell? ⟨b', off + i * 3 + 1, none⟩ = some (.int .i64 cs) := hc i _ ha 1 (by omega)
      have kr2 : wr.cell? ⟨b', off + i * 3 + 2, none⟩ = some (.string ky) := hc i _ ha 2 (by omega)
      obtain ⟨y1, y2, ey1, kr, kw, ey2, bl2, kc2⟩ := box3R wr 37 (.int .i64 0) (.int .i64 0) (.string ⟨#[]⟩) (.int .i64 gp) (.int .i64 cs) (.string ky)
      have G6 := Lib.hid (HG.out.keep bl2)
      have B6 := Lib.hid (HB2.out.keep bl2)
      obtain ⟨bx, hbx⟩ : ∃ bx, bx = wr.heap.size := ⟨_, rfl⟩
      have HBX := Lib.hid (show ¬ R.F bx from fun hh => by have := HG.out.a.at_.lt bx (Or.inl hh); omega)
      rw [← hbx] at kc2
      have kc3 := kc2.rd
      have KC := Lib.hid kc2
      obtain ⟨g, hg⟩ : ∃ g, g = gapR gp := ⟨_, rfl⟩
      have hgb : 0 ≤ g ∧ g ≤ 4095 := by rw [hg]; exact gapR_bd gp
      have CG := Lib.hid (fun wx => rggap_any gp wx)
      rw [← hg] at CG
      obtain ⟨t', ht'⟩ : ∃ t', t' = t + g := ⟨_, rfl⟩
      have hT := HT.out
      have et : IntKind.i64.wrap (t + g) = t' := by rw [IntKind.wrap_i64]; omega
      have HT' := Lib.hid (show (0 ≤ t' ∧ t' ≤ 4095 * ((i : Int) + 1)) ∧ t ≤ t' ∧ t' ≤ 9223372036854775807 by omega)
      obtain ⟨q, hq⟩ : ∃ q, q = cs % 256 := ⟨_, rfl⟩
      have eq : bits .and .i64 cs 255 = q := by rw [hq]; exact i64_mask8 cs
      have HQ := Lib.hid (show 0 ≤ q ∧ q ≤ 255 by omega)
      have t2 : (i : Int) < (n2 : Int) := by omega
      have HIN := Lib.hid hin
      have HF1 := Lib.hid (show FewR R ⟨t', σ.num, σ.F⟩ (255 * (i : Int)) from HF.out.to HG.out.a.at_.bd.2.1.1 (by rw [HTt.out]; exact HT'.out.2.1))
      have CT := Lib.hid (fun wx (hx : RgAt wx R σ) => show Calls Try.prog 16 #[.pointer (some ⟨R.x, 0, none⟩), .int .i64 t'] wx (fun e w' => e = .returned (.tuple #[]) ∧ RgAt w' R ⟨t', σ.num, σ.F⟩ ∧ Fr (fun b => b = R.x) wx w') from by
        have := rto_any t' (by have := HT'.out; omega) wx hx
        rw [show max σ.t t' = t' by rw [HTt.out]; have := HT'.out; omega] at this
        exact this)
      have CA := Lib.hid (fun wx (hx : RgAt wx R ⟨t', σ.num, σ.F⟩) => radd_any ky hky q (by have := HQ.out; omega) wx hx)
      clear hl2 hc hbl ha bl2 kc2 hgb hg ht' hT hq hin hky
      go_upto_region 11 with (fail)
      rw [← hbx]
      clear kr kw ey1 kr0 kr1 kr2 ey2 hbx
      go_upto_region 13 with (first
        | (go_at_call 15; ((with_reducible refine (CG.out _).mono ?_); rintro e y3 ⟨rfl, rfl⟩))
        | (go_at_call 16; ((with_reducible refine (CT.out _ G6.out.a.at_).mono ?_); rintro e y4 ⟨rfl, s4, f4⟩; have G4 := Lib.hid (G6.out.op1 s4 (f4.mono (fun b hb => Or.inl hb))); have B4 := Lib.hid (B6.out.fr f4 (fun e => BR.out.1 (Or.inl e))); have K4' := Lib.hid (KC.out.fr f4 (fun e => HBX.out (Or.inl e))); clear s4 f4)))
      clear kc3
      have kc3 := K4'.out.rd
      go_wp2_with (go_at_call 17; ((with_reducible refine (CA.out _ G4.out.a.at_).mono ?_); rintro e y5 ⟨rfl, s5, f5⟩; have G5 := Lib.hid (G4.out.op1 s5 f5); have B5 := Lib.hid (B4.out.fr f5 BR.out.1); clear s5 f5))
      go_roundg (n2 - (i + 1))
      case measure => have := HKK.out; have := HIN.out; omega
      case rel =>
        have HF2 : FewR R (RgS.add ⟨t', σ.num, σ.F⟩ R ky q) (255 * (i : Int) + q) := HF1.out.add G4.out.a.at_ ky (by have := HQ.out; omega)
        exact ⟨i + 1, t', _, HIN.out, Lib.hid rfl, by go_num, rfl, Lib.hid (by have := HT'.out; omega), Lib.hid rfl, G5, Lib.hid ⟨fun s => Int.le_trans (HF2.all s) (by have := HQ.out; omega), HF2.now⟩, B5⟩
    · have hie : n2 = i := by omega
      subst hie
      have HT2 := Lib.hid (show 0 ≤ t ∧ t ≤ 409500 by have := HT.out; omega)
      have HF2 := Lib.hid (show FewR R σ 25500 from ⟨fun s => Int.le_trans (HF.out.all s) (by omega), HF.out.now⟩)
      have hT2 := HT2.out
      obtain ⟨hWb, hSb, hNb, hq0, hWS, hSN, hSS⟩ := HW.out
      clear hSS hq0
      obtain ⟨z0, hz0⟩ : ∃ z, z = jp % 1152921504606846976 := ⟨_, rfl⟩
      have e0 : bits .and .i64 jp 1152921504606846975 = z0 := by rw [hz0]; exact i64_mask60 jp
      have f1 : IntKind.i64.wrap (2 * Wd) = 2 * Wd := by rw [IntKind.wrap_i64]; omega
      have f2 : IntKind.i64.wrap (2 * Wd + 2) = 2 * Wd + 2 := by rw [IntKind.wrap_i64]; omega
      have f3 : IntKind.i64.wrap (2 * Wd + 2 + z0) = 2 * Wd + 2 + z0 := by rw [IntKind.wrap_i64]; omega
      obtain ⟨t', ht'⟩ : ∃ t', t' = t + (2 * Wd + 2 + z0) := ⟨_, rfl⟩
      have f4 : IntKind.i64.wrap (t + (2 * Wd + 2 + z0)) = t' := by rw [IntKind.wrap_i64]; omega
      have HT' := Lib.hid (show 0 ≤ t' ∧ t' ≤ 1152921504607256990 ∧ t ≤ t' by omega)
      have hns : (R.n : Int) * (R.s : Int) = Wd + (S : Int) := by rw [HN.out, HS.out, hWS, show ((N + 1 : Nat) : Int) = (N : Int) + 1 from rfl, Int.add_mul, Int.one_mul, Int.mul_comm]
      have hSW : (S : Int) ≤ Wd := by rw [hWS]; have := Int.mul_le_mul_of_nonneg_left (show (1 : Int) ≤ (N : Int) by omega) (show (0 : Int) ≤ (S : Int) by omega); omega
      have HAL := Lib.hid (show AlikeR R Q ⟨t', σ.num, σ.F⟩ ⟨t', fun _ => 0, fun _ _ _ => 0⟩ (t' / (R.s : Int) - ((R.n : Int) - 1)) from
        jump_alike ⟨NR.out.1.trans NQ.out.1.symm, by rw [HN.out]; omega⟩ ⟨NR.out.2.1.trans NQ.out.2.1.symm, by rw [HS.out]; omega⟩ (NR.out.2.2.2.1.trans NQ.out.2.2.2.1.symm) HK2.out.symm
          ⟨NR.out.2.2.2.2.2.2.1.trans NQ.out.2.2.2.2.2.2.1.symm, NR.out.2.2.2.2.2.2.2.1.trans NQ.out.2.2.2.2.2.2.2.1.symm, NR.out.2.2.2.2.2.2.2.2.trans NQ.out.2.2.2.2.2.2.2.2.symm, NR.out.2.2.2.2.2.1.trans NQ.out.2.2.2.2.2.1.symm⟩
          (by rw [HTt.out]; omega) HF.out.now (by rw [HTt.out, hns]; omega))
      have CT1 := Lib.hid (fun wx (hx : RgAt wx R σ) => show Calls Try.prog 16 #[.pointer (some ⟨R.x, 0, none⟩), .int .i64 t'] wx (fun e w' => e = .returned (.tuple #[]) ∧ RgAt w' R ⟨t', σ.num, σ.F⟩ ∧ Fr (fun b => b = R.x) wx w') from by
        have := rto_any t' (by have := HT'.out; omega) wx hx
        rw [show max σ.t t' = t' by rw [HTt.out]; have := HT'.out; omega] at this
        exact this)
      have CT2 := Lib.hid (fun wx (hx : RgAt wx Q ⟨0, fun _ => 0, fun _ _ _ => 0⟩) => show Calls Try.prog 16 #[.pointer (some ⟨Q.x, 0, none⟩), .int .i64 t'] wx (fun e w' => e = .returned (.tuple #[]) ∧ RgAt w' Q ⟨t', fun _ => 0, fun _ _ _ => 0⟩ ∧ Fr (fun b => b = Q.x) wx w') from by
        have := rto_any t' (by have := HT'.out; omega) wx hx
        rw [show max (RgS.t ⟨0, fun _ => 0, fun _ _ _ => 0⟩) t' = t' by have := HT'.out; show max 0 t' = t'; omega] at this
        exact this)
      have kb := HB2.out.rd
      obtain ⟨dd, hdd⟩ : ∃ dd, dd = t' / (R.s : Int) - ((R.n : Int) - 1) := ⟨_, rfl⟩
      rw [← hdd] at HAL
      clear hT2 hWb hSb hNb hWS hSN hz0 ht' hns hSW hdd
      go_upto_region 18 with (go_at_call 16; first
        | ((with_reducible refine (CT1.out _ HG.out.a.at_).mono ?_); rintro e y4 ⟨rfl, s4, f4'⟩; have G4 := Lib.hid (HG.out.op1 s4 (f4'.mono (fun b hb => Or.inl hb))); clear s4 f4')
        | ((with_reducible refine (CT2.out _ G4.out.b.at_).mono ?_); rintro e y5 ⟨rfl, s5, f5'⟩; have G5 := Lib.hid (G4.out.op2 s5 (f5'.mono (fun b hb => Or.inl hb))); clear s5 f5'))
      clear kb CT1 CT2 e0 f1 f2 f3 f4
      go_wp2
      go_loopg [68, 10] n2 (fun kk si sn wr => ∃ (i : Nat) (t : Int) (σ τ : RgS), i ≤ n2 ∧ Hid (kk = n2 - i) ∧ si = .int .i64 (i : Int) ∧ sn = .int .i64 t ∧ Hid (0 ≤ t ∧ t ≤ 1152921504607256990 + 4095 * (i : Int)) ∧ Hid (σ.t = t) ∧ Hid (GB w wr R Q σ τ) ∧ Hid (AlikeR R Q σ τ dd))
      case atStart => exact ⟨0, t', _, _, by omega, Lib.hid rfl, rfl, rfl, Lib.hid (by have := HT'.out; omega), Lib.hid rfl, G5, HAL⟩
      case round =>
        clear HKK HT HTt HG HF HB2 HT2 HT' G4 G5 HAL
        obtain ⟨i, t, σ, τ, hi, HKK, rfl, rfl, HT, HTt, HG, HA⟩ := hrel
        by_cases hin : i < n2
        · have hl2 := HR2.out.len
          obtain ⟨b', off, rfl, hbl, hc⟩ := (HR2.out.below HG.out.a.bl).at_ (by omega)
          obtain ⟨⟨gp, cs, ky⟩, ha⟩ : ∃ a, L[i]? = some a := ⟨_, List.getElem?_eq_getElem (by omega)⟩
          have hky0 := HO.out _ (List.mem_of_getElem? ha)
          have hky : ky.size ≤ maxLen := by unfold okIIS at hky0; first | exact hky0 | exact hky0.2 | exact hky0.2.2
          clear hky0
          have kr0 : wr.cell? ⟨b', off + i * 3, none⟩ = some (.int .i64 gp) := hc i _ ha 0 (by omega)
          have kr1 : wr.cell? ⟨b', off + i * 3 + 1, none⟩ = some (.int .i64 cs) := hc i _ ha 1 (by omega)
          have kr2 : wr.cell? ⟨b', off + i * 3 + 2, none⟩ = some (.string ky) := hc i _ ha 2 (by omega)
          obtain ⟨y1, y2, ey1, kr, kw, ey2, bl2, kc2⟩ := box3R wr 37 (.int .i64 0) (.int .i64 0) (.string ⟨#[]⟩) (.int .i64 gp) (.int .i64 cs) (.string ky)
          have G6 := Lib.hid (HG.out.keep bl2)
          obtain ⟨bx, hbx⟩ : ∃ bx, bx = wr.heap.size := ⟨_, rfl⟩
          have HBX := Lib.hid (show ¬ R.F bx ∧ ¬ Q.F bx from ⟨fun hh => by have := HG.out.a.at_.lt bx (Or.inl hh); omega, fun hh => by have := HG.out.b.at_.lt bx (Or.inl hh); omega⟩)
          rw [← hbx] at kc2
          have KC := Lib.hid kc2
          obtain ⟨g, hg⟩ : ∃ g, g = gapR gp := ⟨_, rfl⟩
          have hgb : 0 ≤ g ∧ g ≤ 4095 := by rw [hg]; exact gapR_bd gp
          have CG := Lib.hid (fun wx => rggap_any gp wx)
          rw [← hg] at CG
          obtain ⟨t', ht'⟩ : ∃ t', t' = t + g := ⟨_, rfl⟩
          have hT := HT.out
          have et : IntKind.i64.wrap (t + g) = t' := by rw [IntKind.wrap_i64]; omega
          have HT' := Lib.hid (show (0 ≤ t' ∧ t' ≤ 1152921504607256990 + 4095 * ((i : Int) + 1)) ∧ t ≤ t' ∧ t' ≤ 9223372036854775807 by omega)
          obtain ⟨q, hq⟩ : ∃ q, q = cs % 256 := ⟨_, rfl⟩
          have eq : bits .and .i64 cs 255 = q := by rw [hq]; exact i64_mask8 cs
          have HQ := Lib.hid (show 0 ≤ q ∧ q ≤ 255 by omega)
          have t2 : (i : Int) < (n2 : Int) := by omega
          have HIN := Lib.hid hin
          have hn1 : 1 ≤ R.n := by have := HG.out.a.at_.bd.1; omega
          obtain ⟨ez, hez⟩ : ∃ ez, ez = estZ R σ ky := ⟨_, rfl⟩
          have hez2 : ez = estZ Q τ ky := by rw [hez]; exact HA.out.est ky hn1
          have CE1 := Lib.hid (fun wx (hx : RgAt wx R σ) => restimate_any ky hky wx hx)
          have CE2 := Lib.hid (fun wx (hx : RgAt wx Q τ) => restimate_any ky hky wx hx)
          simp only [← hez] at CE1
          simp only [← hez2] at CE2
          have CA1 := Lib.hid (fun wx (hx : RgAt wx R σ) => radd_any ky hky q (by have := HQ.out; omega) wx hx)
          have CA2 := Lib.hid (fun wx (hx : RgAt wx Q τ) => radd_any ky hky q (by have := HQ.out; omega) wx hx)
          have HA2 := Lib.hid ((HA.out.add hn1 HG.out.a.at_.pl_lt.1 ky q).to HG.out.a.at_.bd.2.1.1 (t := t') (by show σ.t ≤ t'; rw [HTt.out]; exact HT'.out.2.1))
          obtain ⟨σ', hσ'⟩ : ∃ x, x = σ.add R ky q := ⟨_, rfl⟩
          obtain ⟨τ', hτ'⟩ : ∃ x, x = τ.add Q ky q := ⟨_, rfl⟩
          have hst : σ'.t = t := by rw [hσ']; exact HTt.out
          have htt : τ'.t = t := by rw [hτ']; show τ.t = t; rw [← HA.out.t]; exact HTt.out
          rw [← hσ', ← hτ'] at HA2
          simp only [← hσ'] at CA1
          simp only [← hτ'] at CA2
          have CT1 := Lib.hid (fun wx (hx : RgAt wx R σ') => show Calls Try.prog 16 #[.pointer (some ⟨R.x, 0, none⟩), .int .i64 t'] wx (fun e w' => e = .returned (.tuple #[]) ∧ RgAt w' R ⟨t', σ'.num, σ'.F⟩ ∧ Fr (fun b => b = R.x) wx w') from by
            have := rto_any t' (by have := HT'.out; omega) wx hx
            rw [show max σ'.t t' = t' by rw [hst]; have := HT'.out; omega] at this
            exact this)
          have CT2 := Lib.hid (fun wx (hx : RgAt wx Q τ') => show Calls Try.prog 16 #[.pointer (some ⟨Q.x, 0, none⟩), .int .i64 t'] wx (fun e w' => e = .returned (.tuple #[]) ∧ RgAt w' Q ⟨t', τ'.num, τ'.F⟩ ∧ Fr (fun b => b = Q.x) wx w') from by
            have := rto_any t' (by have := HT'.out; omega) wx hx
            rw [show max τ'.t t' = t' by rw [htt]; have := HT'.out; omega] at this
            exact this)
          clear hl2 hc hbl ha bl2 kc2 hgb hg ht' hT hq hin hky hn1 hez hez2 hσ' hτ' hst htt
          go_upto_region 21 with (fail)
          rw [← hbx]
          clear kr kw ey1 kr0 kr1 kr2 ey2 hbx
          have SBC := Lib.hid (fun wx (hb : Below y2.heap.size y2 wx) => show ∀ i, wx.cell? ⟨bx, i, none⟩ = (#[.int .i64 gp, .int .i64 cs, .string ky] : Array Value)[i]? from (KC.out.keep hb).rd)
          have D7 := Lib.hid (show Below y2.heap.size y2 y2.drew from below_draws (Below.refl _ _) 1)
          have k7 := SBC.out _ D7.out
          have b1 : (ez != ez) = false := by simp
          go_region_held3 (fun wx => ∀ i, wx.cell? ⟨bx, i, none⟩ = (#[.int .i64 gp, .int .i64 cs, .string ky] : Array Value)[i]?) (first | assumption | exact SBC.out _ D8.out | exact SBC.out _ D9.out)
            (first | (go_at_call 18; first
              | ((with_reducible refine (CE1.out _ (G6.out.keep D7.out).a.at_).mono ?_); rintro e w8 ⟨rfl, b8⟩; have D8 := Lib.hid (D7.out.trans (b8.mono D7.out.size)); clear b8)
              | ((with_reducible refine (CE2.out _ (G6.out.keep D8.out).b.at_).mono ?_); rintro e w9' ⟨rfl, b9⟩; have D9 := Lib.hid (D8.out.trans (b9.mono D8.out.size)); clear b9)))
          have G9' := Lib.hid (G6.out.keep D9.out)
          have KC9 := Lib.hid (KC.out.keep D9.out)
          clear k7 CE1 CE2 SBC D7 D8 D9 b1
          have kc3 := KC9.out.rd
          go_upto_region 24 with (go_at_call 17; ((with_reducible refine (CA1.out _ G9'.out.a.at_).mono ?_); rintro e y5 ⟨rfl, s5, f5⟩; have G10 := Lib.hid (G9'.out.op1 s5 f5); have KC10 := Lib.hid (KC9.out.fr f5 HBX.out.1); clear s5 f5))
          clear kc3
          have kc3 := KC10.out.rd
          go_upto_region 25 with (go_at_call 17; ((with_reducible refine (CA2.out _ G10.out.b.at_).mono ?_); rintro e y6 ⟨rfl, s5, f5⟩; have G11' := Lib.hid (G10.out.op2 s5 f5); have KC11 := Lib.hid (KC10.out.fr f5 HBX.out.2); clear s5 f5))
          clear kc3
          have kc3 := KC11.out.rd
          go_wp2_with (first
            | (go_at_call 15; ((with_reducible refine (CG.out _).mono ?_); rintro e y3 ⟨rfl, rfl⟩))
            | (go_at_call 16; first
              | ((with_reducible refine (CT1.out _ G11'.out.a.at_).mono ?_); rintro e y7 ⟨rfl, s4, f4⟩; have G12 := Lib.hid (G11'.out.op1 s4 (f4.mono (fun b hb => Or.inl hb))); clear s4 f4)
              | ((with_reducible refine (CT2.out _ G12.out.b.at_).mono ?_); rintro e y8 ⟨rfl, s4, f4⟩; have G13 := Lib.hid (G12.out.op2 s4 (f4.mono (fun b hb => Or.inl hb))); clear s4 f4)))
          go_roundg (n2 - (i + 1))
          case measure => have := HKK.out; have := HIN.out; omega
          case rel => exact ⟨i + 1, t', _, _, HIN.out, Lib.hid rfl, by go_num, rfl, Lib.hid (by have := HT'.out; omega), Lib.hid rfl, G13, HA2⟩
        · have hie : i = n2 := by omega
          subst hie
          have C1 := Lib.hid (fun wx => rto_nil 3 wx)
          have C2 := Lib.hid (fun wx => radd_nil ⟨#[97]⟩ 1 wx)
          have C3 := Lib.hid (fun wx => restimate_nil ⟨#[97]⟩ wx)
          have C4 := Lib.hid (fun wx => rmass_nil 0 ⟨#[97]⟩ wx)
          have C5 := Lib.hid (fun wx => rwait_nil ⟨#[97]⟩ 1 wx)
          have C6 := Lib.hid (fun wx => rnumber_nil 5 wx)
          have C7 := Lib.hid (fun wx => show Calls Try.prog 14 #[.slice none 0 0, .int .i64 1] wx (fun e w' => e = .returned (.slice (some ⟨wx.heap.size, 0, none⟩) 1 1) ∧ RowsAt w' wx.heap.size 1 (rX []) (rA []) (rB []) ∧ Below wx.heap.size wx w') from rows_any wx none 0 0 [] (rdI_none wx _) 1 (by omega))
          have C8 := Lib.hid (fun b0 wx => rnew_bad b0 wx)
          go_wp2_with (first
            | (go_at_call 16; ((with_reducible refine (C1.out _).mono ?_); rintro e y1 ⟨rfl, rfl⟩))
            | (go_at_call 17; ((with_reducible refine (C2.out _).mono ?_); rintro e y2 ⟨rfl, rfl⟩))
            | (go_at_call 18; ((with_reducible refine (C3.out _).mono ?_); rintro e y3 ⟨rfl, rfl⟩))
            | (go_at_call 19; ((with_reducible refine (C4.out _).mono ?_); rintro e y4 ⟨rfl, rfl⟩))
            | (go_at_call 21; ((with_reducible refine (C5.out _).mono ?_); rintro e y5 ⟨rfl, d5, rfl⟩; have G5 := Lib.hid (HG.out.a.bl.trans ((below_draws (Below.refl _ _) d5).mono HG.out.a.bl.size))))
            | (go_at_call 20; ((with_reducible refine (C6.out _).mono ?_); rintro e y6 ⟨rfl, rfl⟩))
            | (go_at_call 14; ((with_reducible refine (C7.out _).mono ?_); rintro e y7 ⟨rfl, r7, b7⟩; have G7 := Lib.hid (G5.out.trans (b7.mono G5.out.size)); clear r7 b7))
            | (go_at_call 13; ((with_reducible refine (C8.out _ _).mono ?_); rintro e y8 ⟨rfl, b8⟩; have G8 := Lib.hid (G7.out.trans (b8.mono G7.out.size)); clear b8)))
          go_ret
          exact ⟨rfl, G8.out⟩
end Go.Proofs.Ythfaeapodfgldaa
