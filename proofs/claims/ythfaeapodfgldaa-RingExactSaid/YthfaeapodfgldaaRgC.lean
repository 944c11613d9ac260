/- The law RingCosts of layer 7 (ring), walked. -/
import Derived.Test.YthfaeapodfgldaaRgP
namespace Go.Proofs.Ythfaeapodfgldaa
set_option linter.unusedSimpArgs false
set_option linter.unusedVariables false
open Go.ChangeShapes Go.WideShapes Go.ChangeAt Go.RowKit
open Ar (inR)
/-- a ring of the law's own. -/
structure GA (W w : World) (R : RgN) (σ : RgS) : Prop where
  at_ : RgAt w R σ
  lo : ∀ b, R.all b → W.heap.size ≤ b
  bl : Below W.heap.size W w
theorem GA.keep {W w w' : World} {R : RgN} {σ : RgS} (h : GA W w R σ) (hb : Below w.heap.size w w') : GA W w' R σ := ⟨h.at_.keep hb, h.lo, h.bl.trans (hb.mono h.bl.size)⟩
theorem GA.op {W w w' : World} {R : RgN} {σ τ : RgS} (h : GA W w R σ) (h1 : RgAt w' R τ) (hf : Fr R.F w w') : GA W w' R τ := ⟨h1, h.lo, h.bl.trans (hf.below h.bl.size (fun b hb => h.lo b (Or.inl hb)))⟩
theorem clamp_mono {a b : Int} (h : a ≤ b) : clamp a ≤ clamp b := by
  unfold clamp
  split <;> split <;> (try split) <;> (try split) <;> omega
theorem clamp_ge {t z : Int} (ht : 0 ≤ t ∧ t ≤ 9223372036854775807) (h : t ≤ z) : t ≤ clamp z := by
  unfold clamp
  split
  · omega
  · split <;> omega
theorem room_mono {R : RgN} {σ : RgS} {s : ByteArray} {a b x : Int} (h : a ≤ b) (hr : roomAt R σ s b x) : roomAt R σ s a x := by
  unfold roomAt at *
  exact Int.le_trans (clamp_mono (by omega)) hr
theorem nextR_mono {R : RgN} {σ : RgS} {s : ByteArray} {a b : Int} (h : a ≤ b) : ∀ (j : Nat) (x : Int), nextR R σ s a j x ≤ nextR R σ s b j x
  | 0, x => Int.le_refl _
  | j + 1, x => by
    have ih := nextR_mono (R := R) (σ := σ) (s := s) h j (x + 1)
    have hb := (nextR_in R σ s b (j + 1) x).1
    by_cases ha : roomAt R σ s a x
    · have e : nextR R σ s a (j + 1) x = x := by unfold nextR; rw [if_pos ha]
      rw [e]; exact hb
    · have hnb : ¬ roomAt R σ s b x := fun hh => ha (room_mono h hh)
      have e1 : nextR R σ s a (j + 1) x = nextR R σ s a j (x + 1) := by
        show (if roomAt R σ s a x then x else nextR R σ s a j (x + 1)) = _
        rw [if_neg ha]
      have e2 : nextR R σ s b (j + 1) x = nextR R σ s b j (x + 1) := by
        show (if roomAt R σ s b x then x else nextR R σ s b j (x + 1)) = _
        rw [if_neg hnb]
      rw [e1, e2]; exact ih
theorem next_time {w : World} {R : RgN} {σ : RgS} (h : RgAt w R σ) (s : ByteArray) (c : Int) : σ.t ≤ clamp (nextR R σ s c (R.n - 1) (σ.now R + 1) * (R.s : Int)) := by
  have h1 := (nextR_in R σ s c (R.n - 1) (σ.now R + 1)).1
  have hs : (0 : Int) < (R.s : Int) := by have := h.bd.2.1.1; omega
  refine clamp_ge h.ht ?_
  have h2 : σ.t < (σ.now R + 1) * (R.s : Int) := Int.lt_ediv_add_one_mul_self _ hs
  have h3 : (σ.now R + 1) * (R.s : Int) ≤ nextR R σ s c (R.n - 1) (σ.now R + 1) * (R.s : Int) := Int.mul_le_mul_of_nonneg_right h1 (Int.le_of_lt hs)
  omega
/-- the greater the cost, the longer the wait. -/
theorem wait_mono {w : World} {R : RgN} {σ : RgS} (h : RgAt w R σ) (s : ByteArray) {a b : Int} (hab : a ≤ b) : waitR R σ s a ≤ waitR R σ s b := by
  have ht := next_time h s b
  have hs : (0 : Int) ≤ (R.s : Int) := Int.natCast_nonneg _
  unfold waitR
  by_cases hb : clamp (estZ R σ s + b) ≤ R.L
  · have ha : clamp (estZ R σ s + a) ≤ R.L := Int.le_trans (clamp_mono (by omega)) hb
    rw [if_pos ha, if_pos hb]; exact Int.le_refl _
  · rw [if_neg hb]
    by_cases ha : clamp (estZ R σ s + a) ≤ R.L
    · rw [if_pos ha]; omega
    · rw [if_neg ha]
      have h1 := clamp_mono (Int.mul_le_mul_of_nonneg_right (nextR_mono (R := R) (σ := σ) (s := s) hab (R.n - 1) (σ.now R + 1)) hs)
      omega
/-- a plan's ring, as it is made. -/
theorem plan_new (a b c d : Int) (sm : Bool) (k : Nat) (hk : 1 ≤ k ∧ k ≤ 3) (b0 : Nat) (X A B : Nat → Nat) (w : World) (hr : RowsAt w b0 k X A B) (hl : ∀ j, j < k → X j < 2305843009213693951 ∧ A j < 2305843009213693951 ∧ B j < 2305843009213693951) :
    Calls Try.prog 13 #[rlV (plL d) ((plS b * plN a : Nat) : Int) 0 (plN a : Nat) 0 0 (plW c : Nat) 0 sm, .slice (some ⟨b0, 0, none⟩) k k] w fun e w' => ∃ R : RgN, e = .returned (.pointer (some ⟨R.x, 0, none⟩)) ∧ RgAt w' R ⟨0, fun _ => 0, fun _ _ _ => 0⟩ ∧ (R.n = plN a + 1 ∧ R.s = plS b ∧ R.L = plL d ∧ R.sm = sm ∧ R.k = k ∧ R.W = plW c ∧ R.X = X ∧ R.A = A ∧ R.B = B) ∧ (∀ b, R.all b → w.heap.size ≤ b) ∧ Below w.heap.size w w' := by
  have h1 : 1 ≤ plN a ∧ plN a ≤ 8 := by unfold plN; omega
  have h2 : 1 ≤ plS b ∧ plS b ≤ 32 := by unfold plS; omega
  have h3 : 1 ≤ plW c ∧ plW c ≤ 16 := by unfold plW; omega
  have h4 : inR (plL d) := by unfold plL inR; omega
  have hm : plS b * plN a ≤ 32 * 8 := Nat.mul_le_mul h2.2 h1.2
  have hd : ((plS b * plN a : Nat) : Int) / ((plN a : Nat) : Int) = ((plS b : Nat) : Int) := by
    rw [← Int.natCast_ediv, Nat.mul_div_cancel _ (by omega)]
  have hkw : k * plW c ≤ 3 * 16 := Nat.mul_le_mul hk.2 h3.2
  have hall : (plN a + 1) * (8 * (k * plW c)) ≤ 9 * (8 * (3 * 16)) := Nat.mul_le_mul (by omega) (by omega)
  exact rnew_any (plL d) _ 0 0 0 0 (plN a) (plS b) k (plW c) sm h4 ⟨Int.natCast_nonneg _, by omega⟩ ⟨h1.1, by omega⟩ ⟨hd, h2.1⟩ ⟨hk.1, by omega⟩ ⟨h3.1, Nat.le_trans hall (by decide)⟩ b0 X A B w hr hl
set_option maxRecDepth 100000 in
set_option maxHeartbeats 4000000 in
theorem rgcosts_law (w : World) (a b c d : Int) (sm : Bool) (A2 : Option Addr) (n2 c2 : Nat) (L : List (Int × Int × ByteArray)) (l0 l1 : Int) (hr2 : RdL w A2 n2 c2 3 encIIS L) (hok : ∀ a ∈ L, okIIS a) (_h1 : inR l0) (_h2 : inR l1) :
    Calls Try.prog 9 #[.agg #[.int .i64 a, .int .i64 b, .int .i64 c, .int .i64 d, .bool sm], .slice A2 n2 c2, .agg #[.int .i64 l0, .int .i64 l1]] w fun e w' => e = .returned (.bool true) ∧ Below w.heap.size w w' := by
  have hmx2 := hr2.max
  unfold maxLen at hmx2
  have hcp2 := hr2.cap
  have HR2 := Lib.hid hr2
  have HO := Lib.hid hok
  clear hr2 hok _h1 _h2
  obtain ⟨w1, hw1, k1, l1', s1⟩ := box_new w #[.int .i64 a, .int .i64 b, .int .i64 c, .int .i64 d, .bool sm] 23
  obtain ⟨w2, hw2, k2, l2', s2⟩ := box_new w1 #[.int .i64 l0, .int .i64 l1] 51
  obtain ⟨pl, hpl⟩ : ∃ x, x = w.heap.size := ⟨_, rfl⟩
  obtain ⟨lb, hlb⟩ : ∃ x, x = w1.heap.size := ⟨_, rfl⟩
  have k1' := k1.keep l2'
  rw [← hpl] at k1'
  rw [← hlb] at k2
  have K2 := Lib.hid (And.intro k1' (And.intro k2 (l1'.trans (l2'.mono l1'.size))))
  have HB := Lib.hid (And.intro hpl hlb)
  clear k1 k1' k2 l1' l2' s1 s2
  go_enter Try.func9, Try.ntmps9
  go_upto_region 1 with (fail)
  rw [← HB.out.1, ← HB.out.2]
  clear hw1 hw2 hpl hlb
  go_upto_region 3 with (go_at_call 10; ((refine (rgfit_any _).mono ?_); rintro e w3 ⟨rfl, b3⟩; have K3 := Lib.hid (And.intro (K2.out.1.keep b3) (And.intro (K2.out.2.1.keep b3) (K2.out.2.2.trans (b3.mono K2.out.2.2.size)))); clear b3))
  have CLi := Lib.hid (rglight_any A2 n2 c2 L w3 (HR2.out.below K3.out.2.2) HO.out)
  cases hlb : lightR L with
  | false =>
    rw [hlb] at CLi
    go_wp2_with (go_at_call 11; ((with_reducible refine CLi.out.mono ?_); rintro e w4 ⟨rfl, b4⟩; have T4 := Lib.hid (K3.out.2.2.trans (b4.mono K3.out.2.2.size)); clear b4))
    go_ret
    exact ⟨rfl, T4.out⟩
  | true =>
  rw [hlb] at CLi
  have hlen : L.length ≤ 100 := by unfold lightR at hlb; simp at hlb; exact hlb.1
  have hln := HR2.out.len
  have hb2 : (n2 : Int) ≤ 100 := by omega
  clear hlb hlen hln
  go_upto_region 5 with (go_at_call 11; ((with_reducible refine CLi.out.mono ?_); rintro e w4 ⟨rfl, b4⟩; have K4 := Lib.hid (And.intro (K3.out.1.keep b4) (And.intro (K3.out.2.1.keep b4) (K3.out.2.2.trans (b4.mono K3.out.2.2.size)))); clear b4))
  clear CLi
  have kp := K4.out.1.rd
  have CRu := Lib.hid (rgrule_any a b c d sm w4)
  obtain ⟨Lm, hLm⟩ : ∃ x, x = plL d := ⟨_, rfl⟩
  obtain ⟨Wd, hWd⟩ : ∃ x, x = ((plS b * plN a : Nat) : Int) := ⟨_, rfl⟩
  obtain ⟨Sl, hSl⟩ : ∃ x, x = ((plN a : Nat) : Int) := ⟨_, rfl⟩
  obtain ⟨Wi, hWi⟩ : ∃ x, x = ((plW c : Nat) : Int) := ⟨_, rfl⟩
  have CNw := Lib.hid (fun b0 wx (hr : RowsAt wx b0 1 (rX []) (rA []) (rB [])) => plan_new a b c d sm 1 (by omega) b0 _ _ _ wx hr (rows_lt [] 1))
  rw [← hLm, ← hWd, ← hSl, ← hWi] at CRu CNw
  have hLb : 1 ≤ Lm ∧ Lm ≤ 64 := by rw [hLm]; unfold plL; omega
  have HP := Lib.hid (And.intro hLm (And.intro hLb hSl))
  obtain ⟨z0, hz0⟩ : ∃ z, z = l0 % 64 := ⟨_, rfl⟩
  obtain ⟨z1, hz1⟩ : ∃ z, z = l1 % 64 := ⟨_, rfl⟩
  have e0 : bits .and .i64 l0 63 = z0 := by rw [hz0]; exact i64_mask6 l0
  have e1 : bits .and .i64 l1 63 = z1 := by rw [hz1]; exact i64_mask6 l1
  have hzb : (0 ≤ z0 ∧ z0 < 64) ∧ 0 ≤ z1 ∧ z1 < 64 := by omega
  obtain ⟨x0, hx0⟩ : ∃ x, x = z0 % Lm := ⟨_, rfl⟩
  obtain ⟨x1', hx1⟩ : ∃ x, x = z1 % Lm := ⟨_, rfl⟩
  have m0 : z0.tmod Lm = x0 := by rw [hx0]; exact Int.tmod_eq_emod_of_nonneg hzb.1.1
  have m1 : z1.tmod Lm = x1' := by rw [hx1]; exact Int.tmod_eq_emod_of_nonneg hzb.2.1
  have hxb : (0 ≤ x0 ∧ x0 < 64) ∧ 0 ≤ x1' ∧ x1' < 64 := by
    have q0 := Int.emod_nonneg z0 (by omega : Lm ≠ 0)
    have q1 := Int.emod_lt_of_pos z0 (by omega : 0 < Lm)
    have q2 := Int.emod_nonneg z1 (by omega : Lm ≠ 0)
    have q3 := Int.emod_lt_of_pos z1 (by omega : 0 < Lm)
    rw [← hx0] at q0 q1
    rw [← hx1] at q2 q3
    clear hx0 hx1 m0 m1 hz0 hz1
    omega
  clear hx0 hx1 hz0 hz1
  have f0 : IntKind.i64.wrap (x0 + 1) = x0 + 1 := by rw [IntKind.wrap_i64]; clear m0 m1; omega
  have f1 : IntKind.i64.wrap (x1' + 1) = x1' + 1 := by rw [IntKind.wrap_i64]; clear m0 m1; omega
  have hL0 : ¬ Lm = 0 := by clear m0 m1; omega
  have HXB := Lib.hid hxb
  clear hLm hWd hSl hWi hLb hzb hxb
  go_upto_region 6 with (go_at_call 12; ((with_reducible refine CRu.out.mono ?_); rintro e w5 ⟨rfl, b5⟩; obtain ⟨y1, y2, ey1, kr9, kw9, ey2, bl9, kc9⟩ := box9R w5 (.int .i64 Lm) (.int .i64 Wd) (.int .i64 0) (.int .i64 Sl) (.int .i64 0) (.int .i64 0) (.int .i64 Wi) (.int .i64 0) (.bool sm); have K6 := Lib.hid (And.intro ((K4.out.2.1.keep b5).keep bl9) (And.intro kc9 ((K4.out.2.2.trans (b5.mono K4.out.2.2.size)).trans (bl9.mono (Nat.le_trans K4.out.2.2.size b5.size))))); clear b5 bl9 kc9))
  clear ey1 kr9 kw9 ey2 kp CRu
  obtain ⟨rb, hrb⟩ : ∃ rb, rb = w5.heap.size := ⟨_, rfl⟩
  rw [← hrb] at K6 ⊢
  clear hrb
  have kl := K6.out.1.rd
  have kru := K6.out.2.1.rd
  go_quiet (fail)
  have BD := Lib.hid (show Below y2.heap.size y2 (y2.drewN nq) from below_draws (Below.refl _ _) nq)
  have K7 := Lib.hid (And.intro (K6.out.2.1.keep BD.out) (K6.out.2.2.trans (BD.out.mono K6.out.2.2.size)))
  generalize y2.drewN nq = w7 at BD K7 ⊢
  clear kl kru e0 e1 m0 m1 f0 f1 hL0
  have CR := Lib.hid (fun wx (hb : Below w7.heap.size w7 wx) => show Calls Try.prog 14 #[.slice none 0 0, .int .i64 1] wx (fun e w' => e = .returned (.slice (some ⟨wx.heap.size, 0, none⟩) 1 1) ∧ RowsAt w' wx.heap.size 1 (rX []) (rA []) (rB []) ∧ Below wx.heap.size wx w') from rows_any wx none 0 0 [] (rdI_none wx _) 1 (by omega))
  have SB := Lib.hid (fun wx (hb : Below w7.heap.size w7 wx) => show ∀ i, wx.cell? ⟨rb, i, none⟩ = (#[.int .i64 Lm, .int .i64 Wd, .int .i64 0, .int .i64 Sl, .int .i64 0, .int .i64 0, .int .i64 Wi, .int .i64 0, .bool sm] : Array Value)[i]? from (K7.out.1.keep hb).rd)
  have D7 := Lib.hid (show Below w7.heap.size w7 w7.drew from below_draws (Below.refl _ _) 1)
  have k7 := SB.out _ D7.out
  go_upto_region 7 with (fail)
  go_region_held3 (fun wx => ∀ i, wx.cell? ⟨rb, i, none⟩ = (#[.int .i64 Lm, .int .i64 Wd, .int .i64 0, .int .i64 Sl, .int .i64 0, .int .i64 0, .int .i64 Wi, .int .i64 0, .bool sm] : Array Value)[i]?) (first | assumption | exact SB.out _ D8.out | exact SB.out _ D9.out)
    (first
      | (go_at_call 14; ((with_reducible refine (CR.out _ D7.out).mono ?_); rintro e w8 ⟨rfl, r8, b8⟩; have R8 := Lib.hid (show RowsAt w8 w7.heap.size 1 (rX []) (rA []) (rB []) from r8); have D8 := Lib.hid (D7.out.trans (b8.mono D7.out.size)); clear r8 b8))
      | (go_at_call 13; ((with_reducible refine (CNw.out _ _ R8.out).mono ?_); rintro e w9 ⟨R, rfl, s9, n1, n2, b9⟩; have D9 := Lib.hid (D8.out.trans (b9.mono D8.out.size)); have NR := Lib.hid n1; have G9 := Lib.hid (show GA w w9 R ⟨0, fun _ => 0, fun _ _ _ => 0⟩ from ⟨s9, fun b hb => Nat.le_trans (Nat.le_trans K7.out.2.size D8.out.size) (n2 b hb), K7.out.2.trans (D9.out.mono K7.out.2.size)⟩); clear s9 n1 n2 b9)))
  clear k7 SB CR CNw
  have hk107 : (⟨#[107]⟩ : ByteArray).size ≤ maxLen := by show 1 ≤ maxLen; unfold maxLen; omega
  have HK107 := Lib.hid hk107
  clear hk107
  go_wp2
  go_loopg [40, 11] n2 (fun kk si sn wr => ∃ (i : Nat) (t : Int) (σ : RgS), i ≤ n2 ∧ Hid (kk = n2 - i) ∧ si = .int .i64 (i : Int) ∧ sn = .int .i64 t ∧ Hid (0 ≤ t ∧ t ≤ 4095 * (i : Int)) ∧ Hid (σ.t = t) ∧ Hid (GA w wr R σ))
  case atStart => exact ⟨0, 0, _, by omega, Lib.hid rfl, rfl, rfl, Lib.hid (by omega), Lib.hid rfl, G9⟩
  case round =>
    obtain ⟨i, t, σ, hi, HKK, rfl, rfl, HT, HTt, HG⟩ := hrel
    by_cases hin : i < n2
    · have hl2 := HR2.out.len
      obtain ⟨b', off, rfl, hbl, hc⟩ := (HR2.out.below HG.out.bl).at_ (by omega)
      obtain ⟨⟨gp, cs, ky⟩, ha⟩ : ∃ a, L[i]? = some a := ⟨_, List.getElem?_eq_getElem (by omega)⟩
      have kr0 : wr.cell? ⟨b', off + i * 3, none⟩ = some (.int .i64 gp) := hc i _ ha 0 (by omega)
      have kr1 : wr.cell? ⟨b', off + i * 3 + 1, none⟩ = some (.int .i64 cs) := hc i _ ha 1 (by omega)
      have kr2 : wr.cell? ⟨b', off + i * 3 + 2, none⟩ = some (.string ky) := hc i _ ha 2 (by omega)
      obtain ⟨y1, y2, ey1, kr, kw, ey2, bl2, kc2⟩ := box3R wr 37 (.int .i64 0) (.int .i64 0) (.string ⟨#[]⟩) (.int .i64 gp) (.int .i64 cs) (.string ky)
      have G6 := Lib.hid (HG.out.keep bl2)
      obtain ⟨bx, hbx⟩ : ∃ bx, bx = wr.heap.size := ⟨_, rfl⟩
      have HBX := Lib.hid (show ¬ R.F bx from fun hh => by have := HG.out.at_.lt bx (Or.inl hh); omega)
      rw [← hbx] at kc2
      have kc3 := kc2.rd
      have KC := Lib.hid kc2
      have hgb := gapR_bd gp
      obtain ⟨g, hg⟩ : ∃ g, g = gapR gp := ⟨_, rfl⟩
      have CG := Lib.hid (fun wx => rggap_any gp wx)
      rw [← hg] at CG hgb
      obtain ⟨t', ht'⟩ : ∃ t', t' = t + g := ⟨_, rfl⟩
      have hT := HT.out
      have et : IntKind.i64.wrap (t + g) = t' := by rw [IntKind.wrap_i64]; omega
      have HT' := Lib.hid (show (0 ≤ t' ∧ t' ≤ 4095 * ((i : Int) + 1)) ∧ t ≤ t' ∧ t' ≤ 9223372036854775807 by omega)
      obtain ⟨q, hq⟩ : ∃ q, q = cs % 32 := ⟨_, rfl⟩
      have eq : bits .and .i64 cs 31 = q := by rw [hq]; exact i64_mask5 cs
      have HQ := Lib.hid (show -9223372036854775808 ≤ q ∧ q ≤ 9223372036854775807 by omega)
      have t2 : (i : Int) < (n2 : Int) := by omega
      have HIN := Lib.hid hin
      have CT := Lib.hid (fun wx (hx : RgAt wx R σ) => show Calls Try.prog 16 #[.pointer (some ⟨R.x, 0, none⟩), .int .i64 t'] wx (fun e w' => e = .returned (.tuple #[]) ∧ RgAt w' R ⟨t', σ.num, σ.F⟩ ∧ Fr (fun b => b = R.x) wx w') from by
        have := rto_any t' (by have := HT'.out; omega) wx hx
        rw [show max σ.t t' = t' by rw [HTt.out]; have := HT'.out; omega] at this
        exact this)
      have CA := Lib.hid (fun wx (hx : RgAt wx R ⟨t', σ.num, σ.F⟩) => radd_any ⟨#[107]⟩ HK107.out q HQ.out wx hx)
      clear hl2 hc hbl ha bl2 kc2 hgb hg ht' hT hq hin
      go_upto_region 12 with (fail)
      rw [← hbx]
      clear kr kw ey1 kr0 kr1 kr2 ey2 hbx
      go_upto_region 14 with (first
        | (go_at_call 15; ((with_reducible refine (CG.out _).mono ?_); rintro e y3 ⟨rfl, rfl⟩))
        | (go_at_call 16; ((with_reducible refine (CT.out _ G6.out.at_).mono ?_); rintro e y4 ⟨rfl, s4, f4⟩; have G4 := Lib.hid (G6.out.op s4 (f4.mono (fun b hb => Or.inl hb))); have K4' := Lib.hid (KC.out.fr f4 (fun e => HBX.out (Or.inl e))); clear s4 f4)))
      clear kc3
      have kc3 := K4'.out.rd
      go_wp2_with (go_at_call 17; ((with_reducible refine (CA.out _ G4.out.at_).mono ?_); rintro e y5 ⟨rfl, s5, f5⟩; have G5 := Lib.hid (G4.out.op s5 f5); clear s5 f5))
      go_roundg (n2 - (i + 1))
      case measure => have := HKK.out; have := HIN.out; omega
      case rel => exact ⟨i + 1, t', _, HIN.out, Lib.hid rfl, by go_num, rfl, Lib.hid (by have := HT'.out; omega), Lib.hid rfl, G5⟩
    · have hie : i = n2 := by omega
      subst hie
      have hxb := HXB.out
      obtain ⟨mn, hmn⟩ : ∃ mn, mn = min (x0 + 1) (x1' + 1) := ⟨_, rfl⟩
      obtain ⟨mx, hmx⟩ : ∃ mx, mx = max (x0 + 1) (x1' + 1) := ⟨_, rfl⟩
      have e2 : min (x0 + 1) (x1' + 1) = mn := hmn.symm
      have e3 : max (x0 + 1) (x1' + 1) = mx := hmx.symm
      have hbig : σ.now R ≤ 9223372036854775000 := by
        unfold RgS.now
        have h1 := Int.ediv_le_self (R.s : Int) HG.out.at_.ht.1
        have h2 := HTt.out
        have h3 := HT.out
        omega
      have CW := Lib.hid (fun cst (hc : 1 ≤ cst ∧ cst ≤ 64) wx (hb : Below wr.heap.size wr wx) => rwait_any ⟨#[107]⟩ HK107.out cst (by omega) wx (HG.out.at_.keep hb) hbig)
      have CW1 := Lib.hid (CW.out mn (by omega))
      have CW2 := Lib.hid (CW.out mx (by omega))
      have hwm := wait_mono HG.out.at_ ⟨#[107]⟩ (a := mn) (b := mx) (by omega)
      obtain ⟨v1, hv1⟩ : ∃ v, v = waitR R σ ⟨#[107]⟩ mn := ⟨_, rfl⟩
      obtain ⟨v2, hv2⟩ : ∃ v, v = waitR R σ ⟨#[107]⟩ mx := ⟨_, rfl⟩
      rw [← hv1, ← hv2] at hwm
      rw [← hv1] at CW1
      rw [← hv2] at CW2
      have t9 : decide (v1 ≤ v2) = true := by rw [decide_eq_true_iff]; exact hwm
      clear hxb hmn hmx hbig hv1 hv2 CW
      go_wp2_with (go_at_call 21; first
        | ((with_reducible refine (CW1.out _ (Below.refl _ _)).mono ?_); rintro e y6 ⟨rfl, b6⟩; have B6 := Lib.hid b6; clear b6)
        | ((with_reducible refine (CW2.out _ B6.out).mono ?_); rintro e y7 ⟨rfl, b7⟩; have B7 := Lib.hid (B6.out.trans (b7.mono B6.out.size)); clear b7))
      go_ret
      exact ⟨rfl, HG.out.bl.trans (B7.out.mono HG.out.bl.size)⟩
end Go.Proofs.Ythfaeapodfgldaa
