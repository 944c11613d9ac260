/- The laws of layer 9 (cell), walked: room. -/
import Derived.Test.YtfegoehiopkcnaaCellG
import Derived.Test.YtfegoehiopkcnaaRowF
import Derived.Test.YtfegoehiopkcnaaBlk
namespace Go.Proofs.Ytfegoehiopkcnaa
set_option linter.unusedSimpArgs false
set_option linter.unusedVariables false
set_option maxRecDepth 100000
open Go.ChangeShapes Go.WideShapes Go.ChangeAt Go.RowKit
open Ar (inR)
theorem plan_unit {L W B : Int} (f1 : 1 ≤ L ∧ L ≤ 32) (f3 : 1 ≤ W ∧ W ≤ 256) (f5 : 1 ≤ B ∧ B ≤ L) : 1 ≤ unitZ W (L + 1 - B) ∧ unitZ W (L + 1 - B) ≤ 256 ∧ W ≤ unitZ W (L + 1 - B) * (L + 1 - B) := by
  obtain ⟨h1, h2, h3, _⟩ := unit_facts f3.1 (show 1 ≤ L + 1 - B by omega)
  exact ⟨h1, by omega, h3⟩
set_option maxHeartbeats 2000000 in
set_option maxRecDepth 100000 in
theorem more_law (w : World) (a b c : Int) (A : Option Addr) (n cap : Nat) (x y : Nat → Int) (ha : inR a) (hb : inR b) (hc : inR c) (hr : RdP w A n cap x y) :
    Calls Try.prog 7 #[.agg #[.int .i64 a, .int .i64 b, .int .i64 c], .slice A n cap] w fun e w' => e = .returned (.bool true) ∧ Below w.heap.size w w' := by
  by_cases hn : (100 : Int) < (n : Int)
  · have hmx := hr.max
    unfold maxLen at hmx
    clear hr
    go_enter Try.func7, Try.ntmps7
    go_wp2_with (go_at_call 11; refine (fit_any _).mono ?_; rintro e w1 ⟨rfl, b1⟩; have B1 := Lib.hid (Below.trans ((Below.refl w.heap.size w).alloc (Nat.le_refl _) _) (b1.mono (by simp))); clear b1)
    go_ret
    exact ⟨rfl, B1.out⟩
  have c0 := fun w => rule_any a b c ha hb hc w
  obtain ⟨f1, f2, f3, f4, f5, f6⟩ := plan_facts a b c
  obtain ⟨L, hL⟩ : ∃ z, z = planL a := ⟨_, rfl⟩
  obtain ⟨W, hW⟩ : ∃ z, z = planW b := ⟨_, rfl⟩
  obtain ⟨B, hB⟩ : ∃ z, z = planB a c := ⟨_, rfl⟩
  rw [← hL, ← hW, ← hB] at c0
  rw [← hL] at f1 f2 f6
  rw [← hW] at f3 f4
  rw [← hB] at f5 f6
  have c1 := fun w => of_any L W B 0 0 0 0 0 false (by unfold inR; omega) (by unfold inR; omega) (by unfold inR; omega) w
  obtain ⟨u1, u2, _⟩ := plan_unit ⟨f1, f2⟩ ⟨f3, f4⟩ ⟨f5, f6⟩
  obtain ⟨U, hU⟩ : ∃ z, z = unitZ W (L + 1 - B) := ⟨_, rfl⟩
  rw [← hU] at c1 u1 u2
  have hn2 : (n : Int) ≤ 100 := by omega
  have c2 := fun w => new_any 0 0 w
  have C0 := Lib.hid c0
  have C1 := Lib.hid c1
  have C2 := Lib.hid c2
  have HR := Lib.hid hr
  clear c0 c1 c2 hL hW hB hU ha hb hc hr hn
  go_enter Try.func7, Try.ntmps7
  have h0 : Blk (w.alloc (.cells #[.int .i64 a, .int .i64 b, .int .i64 c] 23)) w.heap.size 23 #[.int .i64 a, .int .i64 b, .int .i64 c] := heap_alloc_new w _
  have B0 := Lib.hid ((Below.refl w.heap.size w).alloc (Nat.le_refl _) (.cells #[.int .i64 a, .int .i64 b, .int .i64 c] 23))
  have H0 := Lib.hid h0
  clear h0
  go_upto_region 5 with (first
    | (go_at_call 11; refine (fit_any _).mono ?_; rintro e w1 ⟨rfl, b1⟩; have h1 := (H0.out.keep b1).rd; have B1 := Lib.hid (B0.out.trans (b1.mono (by simp))); clear b1))
  go_upto_region 6 with (first
    | (go_at_call 12; ((with_reducible refine (C0.out _).mono ?_); rintro e w2 ⟨rfl, b2⟩; have B2 := Lib.hid (below_from B1.out b2); clear b2)))
  obtain ⟨w2', e2, r2, b2, s2⟩ := box_new w2 #[.int .i64 L, .int .i64 W, .int .i64 B, .int .i64 0, .int .i64 0, .int .i64 0, .int .i64 0, .int .i64 0, .bool false] 28
  rw [e2]
  have B2' := Lib.hid (below_from B2.out b2)
  generalize hrb : w2.heap.size = rb at r2 ⊢
  have RB := Lib.hid (show w.heap.size ≤ rb by have := B2.out.size; omega)
  have R2 := Lib.hid r2
  have r2c := r2.rd
  clear e2 b2 s2 hrb h1 B1 B2 B0 H0 r2
  go_upto_region 7 with (first
    | (go_at_call 13; ((with_reducible refine (C1.out _).mono ?_); rintro e w3 ⟨rfl, b3⟩; have R3 := Lib.hid (R2.out.keep b3); have B3 := Lib.hid (below_from B2'.out b3); clear b3)))
  obtain ⟨w3', e3, p3, b3, s3⟩ := box_new w3 #[.int .i64 U, .int .i64 W, .int .i64 B, .int .i64 L] 31
  rw [e3]
  have R3' := Lib.hid (R3.out.keep b3)
  have B3' := Lib.hid (below_from B3.out b3)
  have P3 := Lib.hid p3
  generalize hpb : w3.heap.size = pb at p3 P3 ⊢
  clear e3 b3 s3 hpb R2 r2c B2' B3 R3 p3
  go_upto_region 8 with (first
    | (go_at_call 15; ((with_reducible refine (C2.out _).mono ?_); rintro e w4 ⟨rfl, b4⟩; have R4 := Lib.hid (R3'.out.keep b4); have P4 := Lib.hid (P3.out.keep b4); have B4 := Lib.hid (below_from B3'.out b4); clear b4)))
  obtain ⟨wy, e4, hc, b4, s4⟩ := box_new w4 #[.int .i64 0, .int .i64 0, .int .i64 0, .int .i64 0] 36
  rw [e4]
  have HRU := Lib.hid (R4.out.keep b4)
  have HP := Lib.hid (P4.out.keep b4)
  have BY := Lib.hid (below_from B4.out b4)
  have NE := Lib.hid (show pb ≠ w4.heap.size from Nat.ne_of_lt (lt_of_block P4.out))
  have NR := Lib.hid (show rb ≠ w4.heap.size from Nat.ne_of_lt (lt_of_block R4.out))
  have HL := Lib.hid (show w.heap.size ≤ w4.heap.size from B4.out.size)
  have HC := Lib.hid hc
  generalize hbc : w4.heap.size = bc at hc HC NE NR HL ⊢
  clear e4 b4 s4 R3' P3 R4 P4 B4 B3' hc hbc
  go_wp2
  go_loopg [8, 25] n (fun k now si wr => ∃ (i : Nat) (t F D : Int), i ≤ n ∧ k = n - i ∧ si = .int .i64 (i : Int) ∧ now = .int .i64 t ∧ (0 ≤ t ∧ t ≤ 4095 * i) ∧ (0 ≤ F ∧ F ≤ t + B * U) ∧ (0 ≤ D ∧ D ≤ 32 * i) ∧ CellAt wr bc F 0 0 D ∧ Fr (fun k => k = bc) wy wr)
  case atStart => exact ⟨0, 0, 0, 0, by omega, by omega, rfl, rfl, by omega, ⟨by omega, by have : 0 ≤ B * U := Int.mul_nonneg (by omega) (by omega); omega⟩, by omega, HC.out, Fr.refl _ _⟩
  case round =>
    obtain ⟨i, t, F, D, hi, hkk, rfl, rfl, ht, hF, hD, hcr, hfr⟩ := hrel
    have HK := Lib.hid hkk
    have HCR := Lib.hid hcr
    have HFW := Lib.hid hfr
    have HQ := Lib.hid (show Blk wr rb _ _ ∧ Blk wr pb _ _ ∧ Blk wr bc _ _ from ⟨HRU.out.fr hfr NR.out, HP.out.fr hfr NE.out, hcr⟩)
    have HB := Lib.hid (BY.out.trans (hfr.below BY.out.size (fun k hk => by subst hk; exact HL.out)))
    clear hkk hcr hfr
    by_cases hin : i < n
    · obtain ⟨bs, off, rfl, hlt, hcs⟩ := HR.out.at_ (by omega)
      obtain ⟨g0, g1⟩ := hcs i hin
      have q0 : wr.cell? ⟨bs, off + i * 2, none⟩ = some (.int .i64 (x i)) := (HB.out.cell (p := ⟨bs, off + i * 2, none⟩) hlt).trans g0
      have q1 : wr.cell? ⟨bs, off + i * 2 + 1, none⟩ = some (.int .i64 (y i)) := (HB.out.cell (p := ⟨bs, off + i * 2 + 1, none⟩) hlt).trans g1
      clear g0 g1 hcs
      go_upto_region 12 with (fail)
      obtain ⟨w5, e5, k5, b5, s5⟩ := box_new wr #[.int .i64 (x i), .int .i64 (y i)] 40
      rw [e5]
      generalize wr.heap.size = kb at k5 ⊢
      have Q5 := Lib.hid (And.intro k5 (keep3 HQ.out b5))
      obtain ⟨k5, r5, p5, c5⟩ := Q5.out
      have k5 := k5.rd
      have r5 := r5.rd
      have p5 := p5.rd
      have c5 := c5.rd
      have F5 := Lib.hid (HFW.out.trans (Fr.of_below b5))
      clear e5 b5 s5 q0 q1
      have hg := gap_bd (x i)
      have cg := fun w => gap_any (x i) w
      obtain ⟨g, hge⟩ : ∃ g, g = gapZ (x i) := ⟨_, rfl⟩
      rw [← hge] at cg hg
      obtain ⟨t', ht'⟩ : ∃ z, z = t + g := ⟨_, rfl⟩
      have hbu : 0 ≤ B * U ∧ B * U ≤ 8192 := ⟨Int.mul_nonneg (by omega) (by omega), Int.mul_le_mul (by omega : B ≤ 32) u2 (by omega) (by omega)⟩
      have rng : Rng F 0 0 D U W B L t' := ⟨by omega, by omega, by omega, by omega, by omega, by omega, by omega, by omega, by omega⟩
      obtain ⟨t3, ht3⟩ : ∃ z, z = t' + 3 := ⟨_, rfl⟩
      have rng3 : Rng F 0 0 D U W B L t3 := ⟨by omega, by omega, by omega, by omega, by omega, by omega, by omega, by omega, by omega⟩
      have ca := fun w => room_rng rng w
      have cb := fun w => room_rng rng3 w
      have v0 := room_lo F 0 0 D U W B L t'
      have v1 := room_hi (F := F) (S := 0) (C := 0) (D := D) (U := U) (W := W) (L := L) (t := t') (show 0 ≤ B by omega)
      have v2 : roomP F 0 0 D U W B L t' ≤ roomP F 0 0 D U W B L t3 := by rw [ht3]; exact room_later u1 (by omega) (by omega)
      obtain ⟨m, hm⟩ : ∃ z, z = y i % 32 := ⟨_, rfl⟩
      have e1 : bits .and .i64 (y i) 31 = m := by rw [hm]; exact i64_mask5 _
      have hmb : 0 ≤ m ∧ m ≤ 31 := by omega
      obtain ⟨r, hrm⟩ : ∃ z, z = m % B := ⟨_, rfl⟩
      have hrb : 0 ≤ r ∧ r < B := by rw [hrm]; exact ⟨Int.emod_nonneg _ (by omega), Int.emod_lt_of_pos _ (by omega)⟩
      obtain ⟨co, hco⟩ : ∃ z, z = r + 1 := ⟨_, rfl⟩
      have hcob : 1 ≤ co ∧ co ≤ B := by omega
      by_cases hle : co ≤ roomP F 0 0 D U W B L t'
      · have l1 := take_leaves rng ⟨hcob.1, hle⟩
        have hcu : 0 ≤ co * U := Int.mul_nonneg (by omega) (by omega)
        have rng' : Rng (max F t' + co * U) 0 0 (D + co) U W B L t' := ⟨by omega, by omega, by omega, by omega, by omega, by omega, by omega, by omega, by omega⟩
        have ct := fun w bc h => take_rng_yes rng ⟨hcob.1, hle⟩ w bc h
        have cc := fun w => room_rng rng' w
        have v3 := room_lo (max F t' + co * U) 0 0 (D + co) U W B L t'
        obtain ⟨F', hF'⟩ : ∃ z, z = max F t' + co * U := ⟨_, rfl⟩
        rw [← hF'] at l1 rng' ct cc v3
        obtain ⟨D', hD'⟩ : ∃ z, z = D + co := ⟨_, rfl⟩
        rw [← hD'] at l1 rng' ct cc v3
        obtain ⟨was, hwas⟩ : ∃ z, z = roomP F 0 0 D U W B L t' := ⟨_, rfl⟩
        rw [← hwas] at ca v0 v1 v2 hle l1
        obtain ⟨was', hwas'⟩ : ∃ z, z = roomP F' 0 0 D' U W B L t' := ⟨_, rfl⟩
        rw [← hwas'] at cc l1 v3
        obtain ⟨was3, hwas3⟩ : ∃ z, z = roomP F 0 0 D U W B L t3 := ⟨_, rfl⟩
        rw [← hwas3] at cb v2
        have NX := Lib.hid (show (0 ≤ t' ∧ t' ≤ 4095 * ((i : Int) + 1)) ∧ (0 ≤ F' ∧ F' ≤ t' + B * U) ∧ (0 ≤ D' ∧ D' ≤ 32 * ((i : Int) + 1)) by refine ⟨by omega, ⟨by omega, by omega⟩, by omega⟩)
        have d1 : decide (was < 0) = false := by rw [decide_eq_false_iff_not]; omega
        have d2 : decide (B < was) = false := by rw [decide_eq_false_iff_not]; omega
        have d3 : decide (was3 < was) = false := by rw [decide_eq_false_iff_not]; omega
        have d4 : decide (co ≤ was) = true := by rw [decide_eq_true_eq]; omega
        obtain ⟨df, hdf⟩ : ∃ z, z = was - co := ⟨_, rfl⟩
        have d5 : decide (df < was') = false := by rw [decide_eq_false_iff_not]; omega
        have hti : t' ≤ 1000000 := by omega
        have htj : 0 ≤ t' := by omega
        have hwb : was ≤ 32 := by omega
        have et : t + g = t' := ht'.symm
        have et3 : t' + 3 = t3 := ht3.symm
        have er : m % B = r := hrm.symm
        have eco : r + 1 = co := hco.symm
        have edf : was - co = df := hdf.symm
        have CG := Lib.hid cg
        have CA := Lib.hid ca
        have CB := Lib.hid cb
        have CC := Lib.hid cc
        have CT := Lib.hid ct
        clear cg ca cb cc ct hge ht' ht3 hm hrm hco hF' hD' hwas hwas' hwas3 hdf l1 rng rng3 rng' hbu hcu v2 v3 hF hD ht
        go_wp2_with (first
          | (go_at_call 16; ((with_reducible refine (CG.out _).mono ?_); rintro e w' ⟨rfl, rfl⟩))
          | (go_at_call 17; first
              | ((with_reducible refine (CA.out _).mono ?_); rintro e w6 ⟨rfl, b6⟩; have Q6 := Lib.hid (keep4 Q5.out b6); obtain ⟨k6, r6, p6, c6⟩ := Q6.out; have k6 := k6.rd; have r6 := r6.rd; have p6 := p6.rd; have c6 := c6.rd; have F6 := Lib.hid (F5.out.trans (Fr.of_below b6)); clear b6)
              | ((with_reducible refine (CB.out _).mono ?_); rintro e w7 ⟨rfl, b7⟩; have Q7 := Lib.hid (keep4 Q6.out b7); obtain ⟨k7, r7, p7, c7⟩ := Q7.out; have k7 := k7.rd; have r7 := r7.rd; have p7 := p7.rd; have c7 := c7.rd; have F7 := Lib.hid (F6.out.trans (Fr.of_below b7)); have C7 := Lib.hid (show CellAt w7 bc F 0 0 D from Q7.out.2.2.2); clear b7)
              | ((with_reducible refine (CC.out _).mono ?_); rintro e w9 ⟨rfl, b9⟩; have C9 := Lib.hid (C8.out.below b9); have F9 := Lib.hid (F8.out.trans (Fr.of_below b9)); clear b9))
          | (go_at_call 21; ((with_reducible refine (CT.out _ _ C7.out).mono ?_); rintro e w8 ⟨rfl, c8, f8⟩; have C8 := Lib.hid c8; have F8 := Lib.hid (F7.out.trans f8); have p8 := (Q7.out.2.2.1.fr f8 NE.out).rd; have c8 := Blk.rd c8; clear f8)))
        go_roundg (n - (i + 1))
        case measure => have := HK.out; omega
        case rel => exact ⟨i + 1, t', F', D', by omega, by omega, by go_num, rfl, by have := NX.out.1; omega, NX.out.2.1, by have := NX.out.2.2; omega, C9.out, F9.out⟩
      · have ct := fun w bc h => take_rng_no rng (cost := co) (Or.inr (by omega)) w bc h
        obtain ⟨was, hwas⟩ : ∃ z, z = roomP F 0 0 D U W B L t' := ⟨_, rfl⟩
        rw [← hwas] at ca v0 v1 v2 hle
        obtain ⟨was3, hwas3⟩ : ∃ z, z = roomP F 0 0 D U W B L t3 := ⟨_, rfl⟩
        rw [← hwas3] at cb v2
        have NX := Lib.hid (show (0 ≤ t' ∧ t' ≤ 4095 * ((i : Int) + 1)) ∧ (0 ≤ F ∧ F ≤ t' + B * U) ∧ (0 ≤ D ∧ D ≤ 32 * ((i : Int) + 1)) by refine ⟨by omega, ⟨by omega, by omega⟩, by omega⟩)
        have d1 : decide (was < 0) = false := by rw [decide_eq_false_iff_not]; omega
        have d2 : decide (B < was) = false := by rw [decide_eq_false_iff_not]; omega
        have d3 : decide (was3 < was) = false := by rw [decide_eq_false_iff_not]; omega
        have d4 : decide (co ≤ was) = false := by rw [decide_eq_false_iff_not]; omega
        have hti : t' ≤ 1000000 := by omega
        have htj : 0 ≤ t' := by omega
        have hwb : was ≤ 32 := by omega
        have et : t + g = t' := ht'.symm
        have et3 : t' + 3 = t3 := ht3.symm
        have er : m % B = r := hrm.symm
        have eco : r + 1 = co := hco.symm
        have CG := Lib.hid cg
        have CA := Lib.hid ca
        have CB := Lib.hid cb
        have CT := Lib.hid ct
        clear cg ca cb ct hge ht' ht3 hm hrm hco hwas hwas3 rng rng3 hbu v2 hF hD ht
        go_wp2_with (first
          | (go_at_call 16; ((with_reducible refine (CG.out _).mono ?_); rintro e w' ⟨rfl, rfl⟩))
          | (go_at_call 17; first
              | ((with_reducible refine (CA.out _).mono ?_); rintro e w6 ⟨rfl, b6⟩; have Q6 := Lib.hid (keep4 Q5.out b6); obtain ⟨k6, r6, p6, c6⟩ := Q6.out; have k6 := k6.rd; have r6 := r6.rd; have p6 := p6.rd; have c6 := c6.rd; have F6 := Lib.hid (F5.out.trans (Fr.of_below b6)); clear b6)
              | ((with_reducible refine (CB.out _).mono ?_); rintro e w7 ⟨rfl, b7⟩; have Q7 := Lib.hid (keep4 Q6.out b7); obtain ⟨k7, r7, p7, c7⟩ := Q7.out; have k7 := k7.rd; have r7 := r7.rd; have p7 := p7.rd; have c7 := c7.rd; have F7 := Lib.hid (F6.out.trans (Fr.of_below b7)); have C7 := Lib.hid (show CellAt w7 bc F 0 0 D from Q7.out.2.2.2); clear b7))
          | (go_at_call 21; ((with_reducible refine (CT.out _ _ C7.out).mono ?_); rintro e w8 ⟨rfl, b8⟩; have C8 := Lib.hid (C7.out.below b8); have F8 := Lib.hid (F7.out.trans (Fr.of_below b8)); clear b8)))
        go_roundg (n - (i + 1))
        case measure => have := HK.out; omega
        case rel => exact ⟨i + 1, t', F, D, by omega, by omega, by go_num, rfl, by have := NX.out.1; omega, NX.out.2.1, by have := NX.out.2.2; omega, C8.out, F8.out⟩
    · go_upto_region 20 with (fail)
      obtain ⟨T, hT⟩ : ∃ z, z = t + 2 * W + B * U := ⟨_, rfl⟩
      have hbu : 0 ≤ B * U ∧ B * U ≤ 8192 := ⟨Int.mul_nonneg (by omega) (by omega), Int.mul_le_mul (by omega : B ≤ 32) u2 (by omega) (by omega)⟩
      have rng : Rng F 0 0 D U W B L T := ⟨by omega, by omega, by omega, by omega, by omega, by omega, by omega, by omega, by omega⟩
      have cz := fun w => room_rng rng w
      rw [room_full u1 f5 (by omega) (by omega)] at cz
      have ez : IntKind.i64.wrap (IntKind.i64.wrap (t + IntKind.i64.wrap (2 * W)) + IntKind.i64.wrap (B * U)) = T := by simp only [IntKind.wrap_i64]; omega
      rw [← ez] at cz
      obtain ⟨q1, q2, q3⟩ := HQ.out
      have y1 : ∀ i, wr.drew.cell? ⟨rb, i, none⟩ = _ := (Blk.drew q1).rd
      have y2 : ∀ i, wr.drew.cell? ⟨pb, i, none⟩ = _ := (Blk.drew q2).rd
      have y3 : ∀ i, wr.drew.cell? ⟨bc, i, none⟩ = _ := (Blk.drew q3).rd
      have y4 : Below wr.heap.size wr wr.drew := below_draws (Below.refl _ _) 1
      have CZ := Lib.hid (fun w' hb => (Calls.heldC (W2 := wr) cz w' hb).mono (fun e w'' (h : _ ∧ Below wr.heap.size wr w'') => And.intro h.1 (And.intro (q1.keep h.2).rd (And.intro (q2.keep h.2).rd (And.intro (q3.keep h.2).rd h.2)))))
      clear cz ez hT hbu rng hF hD ht q1 q2 q3 hin hi
      go_region_held3 (fun w' => (∀ i, w'.cell? ⟨rb, i, none⟩ = (#[.int .i64 L, .int .i64 W, .int .i64 B, .int .i64 0, .int .i64 0, .int .i64 0, .int .i64 0, .int .i64 0, .bool false] : Array Value)[i]?) ∧ (∀ i, w'.cell? ⟨pb, i, none⟩ = (#[.int .i64 U, .int .i64 W, .int .i64 B, .int .i64 L] : Array Value)[i]?) ∧ (∀ i, w'.cell? ⟨bc, i, none⟩ = (#[.int .i64 F, .int .i64 0, .int .i64 0, .int .i64 D] : Array Value)[i]?) ∧ Below wr.heap.size wr w') (first | (refine ⟨?_, ?_, ?_, ?_⟩ <;> assumption) | go_keep)
        (first | (go_at_call 17; ((with_reducible refine (CZ.out _ (by assumption)).mono ?_); rintro e w' ⟨rfl, z0, z1, z2, z3⟩)))
      go_wp2
      go_ret
      exact ⟨rfl, HB.out.trans (z3.mono HB.out.size)⟩
end Go.Proofs.Ytfegoehiopkcnaa
