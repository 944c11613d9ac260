/- The laws of layer 9 (cell), walked: waiting. -/
import Derived.Test.YtfegoehiopkcnaaCellM
import Derived.Test.YtfegoehiopkcnaaCellI
namespace Go.Proofs.Ytfegoehiopkcnaa
set_option linter.unusedSimpArgs false
set_option linter.unusedVariables false
set_option maxRecDepth 100000
open Go.ChangeShapes Go.WideShapes Go.ChangeAt Go.RowKit
open Ar (inR)
section
variable {F S C D U W B L t cost : Int}
theorem wait_facts (hU : 1 ≤ U) (hW : 1 ≤ W) (hc : 1 ≤ cost ∧ cost ≤ B) {wt : Int} (hw : wt = waitP F S C D U W B L t cost) :
    0 ≤ wt ∧ (wt = 0 ↔ cost ≤ roomP F S C D U W B L t) ∧ (0 < wt → roomP F S C D U W B L (t + wt - 1) < cost) ∧ cost ≤ roomP F S C D U W B L (t + wt) ∧ t + wt ≤ max t (max F (S + W)) := by
  have hk : (B - cost) * U = B * U - cost * U := Int.sub_mul _ _ _
  have hk0 : 0 ≤ (B - cost) * U := Int.mul_nonneg (by omega) (by omega)
  have bi : ∀ T, cost ≤ baseP F U B T ↔ cost * U + max F T ≤ T + B * U := fun T => by
    have := base_iff (F := F) (B := B) (t := T) hU hc.1
    constructor
    · intro h; exact (this.1 h).2
    · intro h; exact this.2 ⟨hc.2, h⟩
  have b0 := bi t
  have b1 := bi (t + wt - 1)
  have b2 := bi (t + wt)
  clear bi
  unfold waitP at hw
  rw [hk] at hw hk0
  unfold roomP
  generalize restP C D L = rs at *
  generalize baseP F U B t = p0 at *
  generalize baseP F U B (t + wt - 1) = p1 at *
  generalize baseP F U B (t + wt) = p2 at *
  generalize cost * U = cu at *
  generalize B * U = bu at *
  by_cases g : max t (F - (bu - cu)) < S + W ∧ rs < cost
  · rw [if_pos g] at hw
    refine ⟨by omega, ?_, ?_, ?_, by omega⟩
    · rw [if_pos (by omega)]; omega
    · intro _; rw [if_pos (by omega)]; omega
    · rw [if_neg (by omega)]; omega
  · rw [if_neg g] at hw
    refine ⟨by omega, ?_, ?_, ?_, by omega⟩
    · split <;> omega
    · intro _; split <;> omega
    · split <;> omega
theorem take_some (h : Rng F S C D U W B L t) (hc : 1 ≤ cost ∧ cost ≤ B) (w : World) (bc : Nat) (hca : CellAt w bc F S C D) :
    Calls Try.prog 21 #[.pointer (some ⟨bc, 0, none⟩), pv U W B L, .int .i64 t, .int .i64 cost] w fun e w' => ∃ b F' D', e = .returned (.bool b) ∧ CellAt w' bc F' S C D' ∧ Fr (fun k => k = bc) w w' ∧
      ((F' = F ∧ D' = D) ∨ (t ≤ F' ∧ F' ≤ t + B * U ∧ D' = D + cost)) := by
  by_cases hle : cost ≤ roomP F S C D U W B L t
  · refine (take_rng_yes h ⟨hc.1, hle⟩ w bc hca).mono ?_
    rintro e w' ⟨rfl, h1, h2⟩
    have h3 := (take_leaves h ⟨hc.1, hle⟩).1
    have h4 : 0 ≤ cost * U := Int.mul_nonneg (by omega) (by have := h.U; omega)
    exact ⟨true, _, _, rfl, h1, h2, Or.inr ⟨by omega, h3, rfl⟩⟩
  · refine (take_rng_no h (Or.inr (by omega)) w bc hca).mono ?_
    rintro e w' ⟨rfl, h1⟩
    exact ⟨false, _, _, rfl, hca.below h1, Fr.of_below h1, Or.inl ⟨rfl, rfl⟩⟩
end
set_option maxHeartbeats 2000000 in
set_option maxRecDepth 100000 in
theorem waits_law (w : World) (a b c h0 h1 : Int) (A : Option Addr) (n cap : Nat) (x y : Nat → Int) (ha : inR a) (hb : inR b) (hc : inR c) (hh0 : -9223372036854775808 ≤ h0 ∧ h0 ≤ 9223372036854775807) (hh1 : -9223372036854775808 ≤ h1 ∧ h1 ≤ 9223372036854775807) (hr : RdP w A n cap x y) :
    Calls Try.prog 6 #[.agg #[.int .i64 a, .int .i64 b, .int .i64 c], .agg #[.int .i64 h0, .int .i64 h1], .slice A n cap] w fun e w' => e = .returned (.bool true) ∧ Below w.heap.size w w' := by
  have hmx := hr.max
  unfold maxLen at hmx
  by_cases hn : (100 : Int) < (n : Int)
  · clear hr
    go_enter Try.func6, Try.ntmps6
    go_upto_region 1 with (fail)
    obtain ⟨w0, e0, n1, n2, b0⟩ := two_blk w #[.int .i64 a, .int .i64 b, .int .i64 c] #[.int .i64 h0, .int .i64 h1] 23 24
    rw [e0]
    go_wp2_with (go_at_call 11; refine (fit_any _).mono ?_; rintro e w1 ⟨rfl, b1⟩; have B1 := Lib.hid (below_from b0 b1); clear b1)
    go_ret
    exact ⟨rfl, B1.out⟩
  have c0 := fun w => rule_any a b c ha hb hc w
  obtain ⟨f1, f2, f3, f4, f5, f6⟩ := plan_facts a b c
  obtain ⟨L, hL⟩ : ∃ z, z = planL a := ⟨_, rfl⟩
  obtain ⟨W, hW⟩ : ∃ z, z = planW b := ⟨_, rfl⟩
  obtain ⟨B, hB⟩ : ∃ z, z = planB a c := ⟨_, rfl⟩
  rw [← hL, ← hW, ← hB] at c0
  rw [← hL] at f1 f2 f6
  rw [← hW] at f3 f4
  rw [← hB] at f5 f6
  have c1 := fun w => of_any L W B 0 0 0 0 0 false (by unfold inR; omega) (by unfold inR; omega) (by unfold inR; omega) w
  obtain ⟨u1, u2, _⟩ := plan_unit ⟨f1, f2⟩ ⟨f3, f4⟩ ⟨f5, f6⟩
  obtain ⟨U, hU⟩ : ∃ z, z = unitZ W (L + 1 - B) := ⟨_, rfl⟩
  rw [← hU] at c1 u1 u2
  have hn2 : (n : Int) ≤ 100 := by omega
  obtain ⟨k6, hk6⟩ : ∃ k, k = h0 % 64 := ⟨_, rfl⟩
  have ek : bits .and .i64 h0 63 = k6 := by rw [i64_mask6, hk6]
  have hk6b : 0 ≤ k6 ∧ k6 ≤ 63 := by omega
  obtain ⟨ca, hca⟩ : ∃ k, k = k6 % (L + 1) := ⟨_, rfl⟩
  have eca : k6 % (L + 1) = ca := hca.symm
  have hcab : 0 ≤ ca ∧ ca ≤ 63 := by
    have g1 := Int.emod_nonneg k6 (show L + 1 ≠ 0 by omega)
    have g2 := Int.emod_lt_of_pos k6 (show 0 < L + 1 by omega)
    omega
  have c2 := fun w => new_any 3 ca w
  obtain ⟨m5, hm5⟩ : ∃ z, z = h1 % 32 := ⟨_, rfl⟩
  have em : bits .and .i64 h1 31 = m5 := by rw [hm5]; exact i64_mask5 _
  have hm5b : 0 ≤ m5 ∧ m5 ≤ 31 := by omega
  obtain ⟨r5, hr5⟩ : ∃ z, z = m5 % B := ⟨_, rfl⟩
  have er5 : m5 % B = r5 := hr5.symm
  have hr5b : 0 ≤ r5 ∧ r5 < B := by rw [hr5]; exact ⟨Int.emod_nonneg _ (by omega), Int.emod_lt_of_pos _ (by omega)⟩
  obtain ⟨cf, hcf⟩ : ∃ z, z = r5 + 1 := ⟨_, rfl⟩
  have ecf : r5 + 1 = cf := hcf.symm
  have hcfb : 1 ≤ cf ∧ cf ≤ B := by omega
  have C0 := Lib.hid c0
  have C1 := Lib.hid c1
  have C2 := Lib.hid c2
  have HR := Lib.hid hr
  have HF := Lib.hid (And.intro ecf (And.intro er5 em))
  clear c0 c1 c2 hL hW hB hU ha hb hc hr hn hk6 hca hm5 hr5 hcf ecf er5 em
  go_enter Try.func6, Try.ntmps6
  go_upto_region 1 with (fail)
  obtain ⟨w0, e0, n1, n2, b0⟩ := two_blk w #[.int .i64 a, .int .i64 b, .int .i64 c] #[.int .i64 h0, .int .i64 h1] 23 24
  rw [e0]
  have Q0 := Lib.hid (And.intro n1 n2)
  have B0 := Lib.hid b0
  have HB0 := Lib.hid (show w.heap.size ≤ w.heap.size + 1 by omega)
  generalize hp0 : w.heap.size = plb at n1 n2 Q0 ⊢
  generalize hp1 : plb + 1 = hb at n1 n2 Q0 ⊢
  have HPB := Lib.hid (And.intro hp0 hp1)
  clear e0 n1 n2 b0 hp0 hp1
  go_upto_region 5 with (first
    | (go_at_call 11; refine (fit_any _).mono ?_; rintro e w1 ⟨rfl, b1⟩; have Q1 := Lib.hid (keep2 Q0.out b1); have q1 := Q1.out.1.rd; have q2 := Q1.out.2.rd; have B1 := Lib.hid (below_from B0.out b1); clear b1))
  go_upto_region 6 with (first
    | (go_at_call 12; ((with_reducible refine (C0.out _).mono ?_); rintro e w2 ⟨rfl, b2⟩; have Q2 := Lib.hid (keep2 Q1.out b2); have B2 := Lib.hid (below_from B1.out b2); clear b2)))
  obtain ⟨w2', e2, r2, b2, s2⟩ := box_new w2 #[.int .i64 L, .int .i64 W, .int .i64 B, .int .i64 0, .int .i64 0, .int .i64 0, .int .i64 0, .int .i64 0, .bool false] 28
  rw [e2]
  have B2' := Lib.hid (below_from B2.out b2)
  have Q2' := Lib.hid (And.intro r2 (Q2.out.2.keep b2))
  generalize hrb : w2.heap.size = rb at r2 Q2' ⊢
  have RB := Lib.hid (show w.heap.size ≤ rb by have := B2.out.size; omega)
  have r2c := r2.rd
  clear e2 b2 s2 hrb q1 q2 B1 B2 B0 Q0 Q1 Q2 r2
  go_upto_region 7 with (first
    | (go_at_call 13; ((with_reducible refine (C1.out _).mono ?_); rintro e w3 ⟨rfl, b3⟩; have Q3 := Lib.hid (keep2 Q2'.out b3); have B3 := Lib.hid (below_from B2'.out b3); clear b3)))
  obtain ⟨w3', e3, p3, b3, s3⟩ := box_new w3 #[.int .i64 U, .int .i64 W, .int .i64 B, .int .i64 L] 31
  rw [e3]
  have B3' := Lib.hid (below_from B3.out b3)
  have Q3' := Lib.hid (And.intro p3 (keep2 Q3.out b3))
  generalize hpb : w3.heap.size = pb at p3 Q3' ⊢
  have r3 := Q3'.out.2.1.rd
  have h3 := Q3'.out.2.2.rd
  clear e3 b3 s3 hpb Q2' r2c B2' B3 Q3 p3
  go_upto_region 10 with (first
    | (go_at_call 15; ((with_reducible refine (C2.out _).mono ?_); rintro e w4 ⟨rfl, b4⟩; have Q4 := Lib.hid (keep3 Q3'.out b4); have B4 := Lib.hid (below_from B3'.out b4); clear b4)))
  obtain ⟨wy, e4, hc4, b4, s4⟩ := box_new w4 #[.int .i64 3, .int .i64 3, .int .i64 ca, .int .i64 0] 36
  rw [e4]
  have QY := Lib.hid (keep3 Q4.out b4)
  have BY := Lib.hid (below_from B4.out b4)
  have NE := Lib.hid (show pb ≠ w4.heap.size ∧ rb ≠ w4.heap.size ∧ hb ≠ w4.heap.size from ⟨Nat.ne_of_lt (lt_of_block Q4.out.1), Nat.ne_of_lt (lt_of_block Q4.out.2.1), Nat.ne_of_lt (lt_of_block Q4.out.2.2)⟩)
  have HLB := Lib.hid (show w.heap.size ≤ w4.heap.size from B4.out.size)
  have HC := Lib.hid hc4
  generalize hbc : w4.heap.size = bc at hc4 HC NE HLB ⊢
  clear e4 b4 s4 Q3' Q4 r3 h3 B4 B3' hc4 hbc
  go_wp2
  go_loopg [9, 37] n (fun k now si wr => ∃ (i : Nat) (t F D : Int), i ≤ n ∧ k = n - i ∧ si = .int .i64 (i : Int) ∧ now = .int .i64 t ∧ (3 ≤ t ∧ t ≤ 3 + 4095 * i) ∧ (0 ≤ F ∧ F ≤ t + B * U) ∧ (0 ≤ D ∧ D ≤ 32 * i) ∧ CellAt wr bc F 3 ca D ∧ Fr (fun k => k = bc) wy wr)
  case atStart => exact ⟨0, 3, 3, 0, by omega, by omega, rfl, rfl, by omega, ⟨by omega, by have : 0 ≤ B * U := Int.mul_nonneg (by omega) (by omega); omega⟩, by omega, HC.out, Fr.refl _ _⟩
  case round =>
    obtain ⟨i, t, F, D, hi, hkk, rfl, rfl, ht, hF, hD, hcr, hfr⟩ := hrel
    have HK := Lib.hid hkk
    have HFW := Lib.hid hfr
    have HQ := Lib.hid (show Blk wr pb _ _ ∧ Blk wr rb _ _ ∧ Blk wr hb _ _ from ⟨QY.out.1.fr hfr NE.out.1, QY.out.2.1.fr hfr NE.out.2.1, QY.out.2.2.fr hfr NE.out.2.2⟩)
    have HB := Lib.hid (BY.out.trans (hfr.below BY.out.size (fun k hk => by subst hk; exact HLB.out)))
    have HCR := Lib.hid hcr
    have hbu : 0 ≤ B * U ∧ B * U ≤ 8192 := ⟨Int.mul_nonneg (by omega) (by omega), Int.mul_le_mul (by omega : B ≤ 32) u2 (by omega) (by omega)⟩
    clear hkk hcr hfr
    by_cases hin : i < n
    · obtain ⟨bs, off, rfl, hlt, hcs⟩ := HR.out.at_ (by omega)
      obtain ⟨g0, g1⟩ := hcs i hin
      have q0 : wr.cell? ⟨bs, off + i * 2, none⟩ = some (.int .i64 (x i)) := (HB.out.cell (p := ⟨bs, off + i * 2, none⟩) hlt).trans g0
      have q1 : wr.cell? ⟨bs, off + i * 2 + 1, none⟩ = some (.int .i64 (y i)) := (HB.out.cell (p := ⟨bs, off + i * 2 + 1, none⟩) hlt).trans g1
      clear g0 g1 hcs
      go_upto_region 13 with (fail)
      obtain ⟨w5, e5, k5, b5, s5⟩ := box_new wr #[.int .i64 (x i), .int .i64 (y i)] 40
      rw [e5]
      have NK := Lib.hid (show wr.heap.size ≠ bc from fun e => by have := lt_of_block HCR.out; omega)
      generalize wr.heap.size = kb at k5 NK ⊢
      have Q5 := Lib.hid (And.intro k5 (keep3 HQ.out b5))
      have C5 := Lib.hid (HCR.out.below b5)
      have k5r := Q5.out.1.rd
      have p5r := Q5.out.2.1.rd
      have r5r := Q5.out.2.2.1.rd
      have F5 := Lib.hid (HFW.out.trans (Fr.of_below b5))
      clear e5 b5 s5 q0 q1 k5
      have hg := gap_bd (x i)
      have cg := fun w => gap_any (x i) w
      obtain ⟨g, hge⟩ : ∃ g, g = gapZ (x i) := ⟨_, rfl⟩
      rw [← hge] at cg hg
      obtain ⟨t', ht'⟩ : ∃ z, z = t + g := ⟨_, rfl⟩
      have rng : Rng F 3 ca D U W B L t' := ⟨by omega, by omega, by omega, by omega, by omega, by omega, by omega, by omega, by omega⟩
      obtain ⟨m, hm⟩ : ∃ z, z = y i % 32 := ⟨_, rfl⟩
      have e1 : bits .and .i64 (y i) 31 = m := by rw [hm]; exact i64_mask5 _
      have hmb : 0 ≤ m ∧ m ≤ 31 := by omega
      obtain ⟨r, hrm⟩ : ∃ z, z = m % B := ⟨_, rfl⟩
      have hrb : 0 ≤ r ∧ r < B := by rw [hrm]; exact ⟨Int.emod_nonneg _ (by omega), Int.emod_lt_of_pos _ (by omega)⟩
      have er0 : m.tmod B = r := by rw [Int.tmod_eq_emod_of_nonneg hmb.1, hrm]
      obtain ⟨co, hco⟩ : ∃ z, z = r + 1 := ⟨_, rfl⟩
      have hcob : 1 ≤ co ∧ co ≤ B := by omega
      have ct := fun w bc h => take_some rng hcob w bc h
      have hti : t' ≤ 1000000 := by omega
      have htj : 0 ≤ t' := by omega
      have et : t + g = t' := ht'.symm
      have er : m % B = r := hrm.symm
      have eco : r + 1 = co := hco.symm
      have ewr : IntKind.i64.wrap r = r := by rw [IntKind.wrap_i64]; omega
      have ewc : IntKind.i64.wrap co = co := by rw [IntKind.wrap_i64]; omega
      have hB0 : ¬ B = 0 := by omega
      have NX := Lib.hid (show ∀ F' D', ((F' = F ∧ D' = D) ∨ (t' ≤ F' ∧ F' ≤ t' + B * U ∧ D' = D + co)) → (3 ≤ t' ∧ t' ≤ 3 + 4095 * ((i : Int) + 1)) ∧ (0 ≤ F' ∧ F' ≤ t' + B * U) ∧ (0 ≤ D' ∧ D' ≤ 32 * ((i : Int) + 1)) from fun F' D' h => by
        rcases h with ⟨rfl, rfl⟩ | ⟨h1, h2, rfl⟩
        · exact ⟨by omega, ⟨by omega, by omega⟩, by omega⟩
        · exact ⟨by omega, ⟨by omega, by omega⟩, by omega⟩)
      have CG := Lib.hid cg
      have CT := Lib.hid ct
      clear cg ct hge ht' hm hrm hco rng hbu hF hD ht
      go_upto_region 14 with (go_at_call 16; ((with_reducible refine (CG.out _).mono ?_); rintro e w' ⟨rfl, rfl⟩))
      have k5d : ∀ i, w5.drew.cell? ⟨kb, i, none⟩ = _ := (Blk.drew Q5.out.1).rd
      have p5d : ∀ i, w5.drew.cell? ⟨pb, i, none⟩ = _ := (Blk.drew Q5.out.2.1).rd
      have r5d : ∀ i, w5.drew.cell? ⟨rb, i, none⟩ = _ := (Blk.drew Q5.out.2.2.1).rd
      have C5d := Lib.hid (show CellAt w5.drew bc F 3 ca D from C5.out)
      refine wp_region_held_drew (S := fun w' => (∀ i, w'.cell? ⟨kb, i, none⟩ = (#[.int .i64 _, .int .i64 _] : Array Value)[i]?) ∧ (∀ i, w'.cell? ⟨pb, i, none⟩ = (#[.int .i64 U, .int .i64 W, .int .i64 B, .int .i64 L] : Array Value)[i]?) ∧ (∀ i, w'.cell? ⟨rb, i, none⟩ = (#[.int .i64 L, .int .i64 W, .int .i64 B, .int .i64 0, .int .i64 0, .int .i64 0, .int .i64 0, .int .i64 0, .bool false] : Array Value)[i]?)) (by kernel_rfl) ⟨k5d, p5d, r5d⟩ (fun hHeld => ?_)
      refine wpAnyH_take (i := 0) (oi := ?_) (v := ?_) ?_ ?_ ?_ ?_ ?_ ?_ ?_ ?_
      rotate_left 2
      · simp only [List.getElem?_toArray, List.getElem?_cons_succ, List.getElem?_cons_zero]; rfl
      · kernel_rfl
      · kernel_rfl
      · kernel_rfl
      · exact fun _ _ _ h => h
      · refine Or.inl ⟨by rfl, ?_⟩
        intro w' hSw
        (try dsimp only at hSw)
        go_simp
        all_goals (with_reducible rfl)
      · assumption
      try simp only [Act.put, List.setIfInBounds_toArray, List.set_cons_zero, List.set_cons_succ]
      refine wpAnyH_take (i := 1) (oi := ?_) (v := ?_) ?_ ?_ ?_ ?_ ?_ ?_ ?_ ?_
      rotate_left 2
      · simp only [List.getElem?_toArray, List.getElem?_cons_succ, List.getElem?_cons_zero]; rfl
      · kernel_rfl
      · kernel_rfl
      · kernel_rfl
      · exact fun _ _ _ h => h
      · refine Or.inl ⟨by rfl, ?_⟩
        intro w' hSw
        (try dsimp only at hSw)
        go_simp
        all_goals (with_reducible rfl)
      · assumption
      try simp only [Act.put, List.setIfInBounds_toArray, List.set_cons_zero, List.set_cons_succ]
      refine wpAnyH_take (i := 2) (oi := ?_) (v := ?_) ?_ ?_ ?_ ?_ ?_ ?_ ?_ ?_
      rotate_left 2
      · simp only [List.getElem?_toArray, List.getElem?_cons_succ, List.getElem?_cons_zero]; rfl
      · kernel_rfl
      · kernel_rfl
      · kernel_rfl
      · exact fun _ _ _ h => h
      · refine Or.inl ⟨by rfl, ?_⟩
        intro w' hSw
        (try dsimp only at hSw)
        go_simp
        all_goals (with_reducible rfl)
      · assumption
      try simp only [Act.put, List.setIfInBounds_toArray, List.set_cons_zero, List.set_cons_succ]
      refine wpAnyH_take (i := 3) (oi := ?_) (v := ?_) ?_ ?_ ?_ ?_ ?_ ?_ ?_ ?_
      rotate_left 2
      · simp only [List.getElem?_toArray, List.getElem?_cons_succ, List.getElem?_cons_zero]; rfl
      · kernel_rfl
      · kernel_rfl
      · kernel_rfl
      · exact fun _ _ _ h => h
      · refine Or.inl ⟨by rfl, ?_⟩
        intro w' hSw
        (try dsimp only at hSw)
        go_simp
        all_goals (with_reducible rfl)
      · assumption
      try simp only [Act.put, List.setIfInBounds_toArray, List.set_cons_zero, List.set_cons_succ]
      refine wpAnyH_take (i := 4) (oi := ?_) (v := ?_) ?_ ?_ ?_ ?_ ?_ ?_ ?_ ?_
      rotate_left 2
      · simp only [List.getElem?_toArray, List.getElem?_cons_succ, List.getElem?_cons_zero]; rfl
      · kernel_rfl
      · kernel_rfl
      · kernel_rfl
      · exact fun _ _ _ h => h
      · refine Or.inl ⟨by rfl, ?_⟩
        intro w' hSw
        (try dsimp only at hSw)
        go_simp
        all_goals (with_reducible rfl)
      · assumption
      try simp only [Act.put, List.setIfInBounds_toArray, List.set_cons_zero, List.set_cons_succ]
      refine wpAnyH_take (i := 5) (oi := ?_) (v := ?_) ?_ ?_ ?_ ?_ ?_ ?_ ?_ ?_
      rotate_left 2
      · simp only [List.getElem?_toArray, List.getElem?_cons_succ, List.getElem?_cons_zero]; rfl
      · kernel_rfl
      · kernel_rfl
      · kernel_rfl
      · exact fun _ _ _ h => h
      · refine Or.inl ⟨by rfl, ?_⟩
        intro w' hSw
        (try dsimp only at hSw)
        go_simp
        all_goals (with_reducible rfl)
      · assumption
      try simp only [Act.put, List.setIfInBounds_toArray, List.set_cons_zero, List.set_cons_succ]
      refine wpAnyH_take (i := 6) (oi := ?_) (v := ?_) ?_ ?_ ?_ ?_ ?_ ?_ ?_ ?_
      rotate_left 2
      · simp only [List.getElem?_toArray, List.getElem?_cons_succ, List.getElem?_cons_zero]; rfl
      · kernel_rfl
      · kernel_rfl
      · kernel_rfl
      · exact fun _ _ _ h => h
      · refine Or.inl ⟨by rfl, ?_⟩
        intro w' hSw
        (try dsimp only at hSw)
        go_simp
        all_goals (with_reducible rfl)
      · assumption
      try simp only [Act.put, List.setIfInBounds_toArray, List.set_cons_zero, List.set_cons_succ]
      refine wpAnyH_take (i := 7) (oi := ?_) (v := ?_) ?_ ?_ ?_ ?_ ?_ ?_ ?_ ?_
      rotate_left 2
      · simp only [List.getElem?_toArray, List.getElem?_cons_succ, List.getElem?_cons_zero]; rfl
      · kernel_rfl
      · kernel_rfl
      · kernel_rfl
      · exact fun _ _ _ h => h
      · refine Or.inl ⟨by rfl, ?_⟩
        intro w' hSw
        (try dsimp only at hSw)
        go_simp
        all_goals (with_reducible rfl)
      · assumption
      try simp only [Act.put, List.setIfInBounds_toArray, List.set_cons_zero, List.set_cons_succ]
      refine wpAnyH_take (i := 8) (oi := ?_) (v := ?_) ?_ ?_ ?_ ?_ ?_ ?_ ?_ ?_
      rotate_left 2
      · simp only [List.getElem?_toArray, List.getElem?_cons_succ, List.getElem?_cons_zero]; rfl
      · kernel_rfl
      · kernel_rfl
      · kernel_rfl
      · exact fun _ _ _ h => h
      · refine Or.inl ⟨by rfl, ?_⟩
        intro w' hSw
        (try dsimp only at hSw)
        go_simp
        all_goals (with_reducible rfl)
      · assumption
      try simp only [Act.put, List.setIfInBounds_toArray, List.set_cons_zero, List.set_cons_succ]
      refine wpAnyH_ready (rs := [9]) (by kernel_rfl) (by simp) ?_
      refine AllReadyH.cons (o := ?_) ?_ ?_ ?_
      rotate_left 1
      · simp only [List.getElem?_toArray, List.getElem?_cons_succ, List.getElem?_cons_zero]; rfl
      rotate_left 1
      · exact AllReadyH.nil
      intro K hK
      go_simp
      (with_reducible refine (CT.out _ _ C5d.out).mono ?_); rintro e w8 ⟨b8, F', D', rfl, c8, f8, hFD⟩
      refine hK.out _ _ ⟨(Q5.out.1.drew.fr f8 NK.out).rd, (Q5.out.2.1.drew.fr f8 NE.out.1).rd, (Q5.out.2.2.1.drew.fr f8 NE.out.2.1).rd⟩ (fun hHeld => ?_)
      clear hK K
      try simp only [Act.put, List.setIfInBounds_toArray, List.set_cons_zero, List.set_cons_succ]
      refine wpAnyH_done (by kernel_rfl) ?_ _
      go_wp2
      go_roundg (n - (i + 1))
      case measure => have := HK.out; omega
      case rel => exact ⟨i + 1, t', F', D', by omega, by omega, by go_num, rfl, by have := (NX.out F' D' hFD).1; omega, (NX.out F' D' hFD).2.1, by have := (NX.out F' D' hFD).2.2; omega, c8, F5.out.trans ((Fr.of_below (below_draws (Below.refl _ _) 1)).trans f8)⟩
    · obtain ⟨wt, hwt⟩ : ∃ z, z = waitP F 3 ca D U W B L t cf := ⟨_, rfl⟩
      obtain ⟨v1, v2, v3, v4, v5⟩ := wait_facts (t := t) u1 f3 hcfb hwt
      have rng : Rng F 3 ca D U W B L t := ⟨by omega, by omega, by omega, by omega, by omega, by omega, by omega, by omega, by omega⟩
      have cw := fun w => wait_rng rng hcfb w
      rw [← hwt] at cw
      have cr := fun w => room_rng rng w
      obtain ⟨rt, hrt⟩ : ∃ z, z = roomP F 3 ca D U W B L t := ⟨_, rfl⟩
      rw [← hrt] at cr v2
      obtain ⟨tw, htw⟩ : ∃ z, z = t + wt := ⟨_, rfl⟩
      obtain ⟨tx, htx⟩ : ∃ z, z = tw - 1 := ⟨_, rfl⟩
      rw [← htw] at v3 v4 v5
      rw [← htx] at v3
      have rng2 : Rng F 3 ca D U W B L tw := ⟨by omega, by omega, by omega, by omega, by omega, by omega, by omega, by omega, by omega⟩
      have ct := fun w bc h => take_rng_yes rng2 ⟨hcfb.1, v4⟩ w bc h
      have etw : t + wt = tw := htw.symm
      have etx : tw - 1 = tx := htx.symm
      have CW := Lib.hid cw
      have CR := Lib.hid cr
      have CT := Lib.hid ct
      have q1 := HQ.out.1.rd
      have q2 := HQ.out.2.1.rd
      have q3 := HQ.out.2.2.rd
      have q4 := Blk.rd HCR.out
      have hti : t ≤ 1000000 := by omega
      have htj : 3 ≤ t := by omega
      have hwb : wt ≤ 2000000 := by omega
      have d3 : decide (wt < 0) = false := by rw [decide_eq_false_iff_not]; omega
      have ecf := HF.out.1
      have er5 := HF.out.2.1
      have em := HF.out.2.2
      have HCF := Lib.hid hcfb
      by_cases hw0 : wt = 0
      · have d1 : (wt == 0) = true := by simpa using hw0
        have d2 : decide (cf ≤ rt) = true := by rw [decide_eq_true_eq]; exact v2.1 hw0
        have d4 : decide (0 < wt) = false := by rw [decide_eq_false_iff_not]; omega
        clear cw cr ct hwt hrt htw htx rng rng2 v2 v3 v4 v5 hw0 hF hD ht hbu
        go_wp2_with (first
          | (go_at_call 19; ((with_reducible refine (CW.out _).mono ?_); rintro e w6 ⟨rfl, b6⟩; have Q6 := Lib.hid (keep3 HQ.out b6); have C6 := Lib.hid (HCR.out.below b6); have p6 := Q6.out.1.rd; have c6 := Blk.rd C6.out; have B6 := Lib.hid (below_from HB.out b6); clear b6))
          | (go_at_call 17; ((with_reducible refine (CR.out _).mono ?_); rintro e w7 ⟨rfl, b7⟩; have Q7 := Lib.hid (keep3 Q6.out b7); have C7 := Lib.hid (C6.out.below b7); have p7 := Q7.out.1.rd; have c7 := Blk.rd C7.out; have B7 := Lib.hid (below_from B6.out b7); clear b7))
          | (go_at_call 21; ((with_reducible refine (CT.out _ _ C7.out).mono ?_); rintro e w8 ⟨rfl, c8, f8⟩; have B8 := Lib.hid (B7.out.trans (f8.below B7.out.size (fun k hk => by subst hk; exact HLB.out))); clear c8 f8)))
        go_ret
        exact ⟨rfl, B8.out⟩
      · have hw1 : 0 < wt := by omega
        have v3' := v3 hw1
        have rng3 : Rng F 3 ca D U W B L tx := ⟨by omega, by omega, by omega, by omega, by omega, by omega, by omega, by omega, by omega⟩
        have cr2 := fun w => room_rng rng3 w
        obtain ⟨rx, hrx⟩ : ∃ z, z = roomP F 3 ca D U W B L tx := ⟨_, rfl⟩
        rw [← hrx] at cr2 v3'
        have CR2 := Lib.hid cr2
        have d1 : (wt == 0) = false := by simpa using hw0
        have d2 : decide (cf ≤ rt) = false := by rw [decide_eq_false_iff_not]; intro h; exact hw0 (v2.2 h)
        have d4 : decide (0 < wt) = true := by rw [decide_eq_true_eq]; omega
        have d5 : decide (cf ≤ rx) = false := by rw [decide_eq_false_iff_not]; omega
        clear cw cr ct hwt hrt htw htx rng rng2 v2 v3 v4 v5 hw0 hF hD ht hbu cr2 rng3 hrx v3'
        go_wp2_with (first
          | (go_at_call 19; ((with_reducible refine (CW.out _).mono ?_); rintro e w6 ⟨rfl, b6⟩; have Q6 := Lib.hid (keep3 HQ.out b6); have C6 := Lib.hid (HCR.out.below b6); have p6 := Q6.out.1.rd; have c6 := Blk.rd C6.out; have B6 := Lib.hid (below_from HB.out b6); clear b6))
          | (go_at_call 17; first
            | ((with_reducible refine (CR.out _).mono ?_); rintro e w7 ⟨rfl, b7⟩; have Q7 := Lib.hid (keep3 Q6.out b7); have C7 := Lib.hid (C6.out.below b7); have p7 := Q7.out.1.rd; have c7 := Blk.rd C7.out; have B7 := Lib.hid (below_from B6.out b7); clear b7)
            | ((with_reducible refine (CR2.out _).mono ?_); rintro e w9 ⟨rfl, b9⟩; have Q9 := Lib.hid (keep3 Q7.out b9); have C9 := Lib.hid (C7.out.below b9); have p9 := Q9.out.1.rd; have c9 := Blk.rd C9.out; have B9 := Lib.hid (below_from B7.out b9); clear b9))
          | (go_at_call 21; ((with_reducible refine (CT.out _ _ C9.out).mono ?_); rintro e w8 ⟨rfl, c8, f8⟩; have B8 := Lib.hid (B9.out.trans (f8.below B9.out.size (fun k hk => by subst hk; exact HLB.out))); clear c8 f8)))
        go_ret
        exact ⟨rfl, B8.out⟩
end Go.Proofs.Ytfegoehiopkcnaa
