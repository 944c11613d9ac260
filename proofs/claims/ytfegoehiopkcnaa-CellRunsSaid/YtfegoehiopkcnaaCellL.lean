/- The laws of layer 9 (cell), walked: units. -/
import Derived.Test.YtfegoehiopkcnaaCellF
namespace Go.Proofs.Ytfegoehiopkcnaa
set_option linter.unusedSimpArgs false
set_option linter.unusedVariables false
set_option maxRecDepth 100000
open Go.ChangeShapes Go.WideShapes Go.ChangeAt Go.RowKit
open Ar (inR)
theorem unit_facts {W n : Int} (hW : 1 ≤ W) (hn : 1 ≤ n) : 1 ≤ unitZ W n ∧ unitZ W n ≤ W ∧ W ≤ unitZ W n * n ∧ (unitZ W n - 1) * n < W := by
  have h1 := Int.mul_ediv_add_emod W n
  have h2 := Int.emod_nonneg W (by omega : n ≠ 0)
  have h3 := Int.emod_lt_of_pos W (by omega : 0 < n)
  have h4 := Int.ediv_le_self n (by omega : 0 ≤ W)
  have h5 := Int.ediv_nonneg (by omega : 0 ≤ W) (by omega : 0 ≤ n)
  have e : unitZ W n = if W % n = 0 then W / n else W / n + 1 := by unfold unitZ; rw [if_neg (by omega)]
  rw [e]
  generalize W / n = q at *
  generalize W % n = r at *
  have hq : q ≤ n * q := by
    have := Int.mul_le_mul_of_nonneg_right hn h5
    omega
  split
  · have k1 : q * n = n * q := Int.mul_comm _ _
    have k2 : (q - 1) * n = n * q - n := by rw [Int.sub_mul, Int.one_mul, k1]
    have k3 : q ≠ 0 := by intro h; subst h; omega
    refine ⟨by omega, by omega, by omega, by omega⟩
  · have k1 : (q + 1) * n = n * q + n := by rw [Int.add_mul, Int.one_mul, Int.mul_comm]
    have k2 : (q + 1 - 1) * n = n * q := by rw [Int.add_sub_cancel, Int.mul_comm]
    refine ⟨by omega, by omega, by omega, by omega⟩
theorem plan_facts (a b c : Int) : 1 ≤ planL a ∧ planL a ≤ 32 ∧ 1 ≤ planW b ∧ planW b ≤ 256 ∧ 1 ≤ planB a c ∧ planB a c ≤ planL a := by
  have h1 : 1 ≤ planL a ∧ planL a ≤ 32 := by unfold planL; omega
  have h2 := Int.emod_nonneg (c % 32) (by omega : planL a ≠ 0)
  have h3 := Int.emod_lt_of_pos (c % 32) (by omega : 0 < planL a)
  refine ⟨h1.1, h1.2, by unfold planW; omega, by unfold planW; omega, by unfold planB; omega, by unfold planB; omega⟩
/-- a rule in its block. -/
def RuleAt (w : World) (b : Nat) (L W B : Int) : Prop := w.heap[b]? = some (.cells #[.int .i64 L, .int .i64 W, .int .i64 B, .int .i64 0, .int .i64 0, .int .i64 0, .int .i64 0, .int .i64 0, .bool false] 28 (0, 0))
theorem RuleAt.lt {w : World} {b : Nat} {L W B : Int} (h : RuleAt w b L W B) : b < w.heap.size := lt_of_block h
theorem RuleAt.below {W0 w : World} {b : Nat} {L W B : Int} (h : RuleAt W0 b L W B) (hb : Below W0.heap.size W0 w) : RuleAt w b L W B := by
  unfold RuleAt; rw [hb.block b h.lt]; exact h
theorem clamp_mul {k U : Int} (h : inR (k * U)) : clamp (k * U) = k * U := clamp_in h
theorem room_unit (i U W B L fr : Int) (hi : 0 ≤ i ∧ i ≤ 127) (hU : 1 ≤ U ∧ U ≤ 256) (hW : 1 ≤ W ∧ W ≤ 256) (hB : 1 ≤ B ∧ B ≤ 32) (hL : L ≤ 32) (hfr : fr = L + 1 - B) (h : W ≤ U * fr) :
    1 ≤ roomZ (i * U) 0 0 i U W B L (i * U) ∧ inR (clamp (i * U + clamp (B * U)) - max (i * U) (i * U)) ∧ clamp (max (i * U) (i * U) + clamp (1 * U)) = (i + 1) * U ∧ 0 ≤ i * U ∧ i * U ≤ 32512 := by
  have k1 : 0 ≤ i * U := Int.mul_nonneg hi.1 (by omega)
  have k2 : i * U ≤ 127 * 256 := Int.mul_le_mul hi.2 hU.2 (by omega) (by omega)
  have k3 : 0 ≤ B * U := Int.mul_nonneg (by omega) (by omega)
  have k4 : B * U ≤ 32 * 256 := Int.mul_le_mul hB.2 hU.2 (by omega) (by omega)
  have k5 : (i + 1) * U = i * U + U := by rw [Int.add_mul, Int.one_mul]
  have k6 : (B * U).tdiv U = B := Int.mul_tdiv_cancel B (by omega)
  have k7 : i * U < W → i < fr := by
    intro g
    have : i * U < fr * U := by rw [Int.mul_comm fr U]; omega
    exact Int.lt_of_mul_lt_mul_right this (by omega)
  generalize hf : i * U = f at *
  generalize hb : B * U = bu at *
  have e1 : clamp bu = bu := clamp_in (by unfold inR; omega)
  have e2 : clamp (f + bu) = f + bu := clamp_in (by unfold inR; omega)
  have e3 : max f f = f := Int.max_self f
  have e4 : f + bu - f = bu := by omega
  have e5 : clamp (0 + W) = W := by rw [Int.zero_add]; exact clamp_in (by unfold inR; omega)
  have e6 : clamp (0 + i) = i := by rw [Int.zero_add]; exact clamp_in (by unfold inR; omega)
  have e7 : clamp (1 * U) = U := by rw [Int.one_mul]; exact clamp_in (by unfold inR; omega)
  have e8 : clamp (f + U) = f + U := clamp_in (by unfold inR; omega)
  refine ⟨?_, ?_, ?_, by omega, by omega⟩
  · unfold roomZ restZ
    rw [hb, e1, e2, e3, e4, e5, e6, k6]
    split
    · have := k7 (by assumption)
      have e9 : clamp (L + -i) = L + -i := clamp_in (by unfold inR; omega)
      rw [e9]
      omega
    · omega
  · rw [e1, e2, e3, e4]; unfold inR; omega
  · rw [e7, e3, e8, k5]
set_option maxHeartbeats 2000000 in
set_option maxRecDepth 100000 in
theorem units_law (w : World) (a b c n : Int) (ha : inR a) (hb : inR b) (hc : inR c) (hn : -9223372036854775808 ≤ n ∧ n ≤ 9223372036854775807) :
    Calls Try.prog 9 #[.agg #[.int .i64 a, .int .i64 b, .int .i64 c], .int .i64 n] w fun e w' => e = .returned (.bool true) ∧ Below w.heap.size w w' := by
  have c0 := fun w => rule_any a b c ha hb hc w
  obtain ⟨f1, f2, f3, f4, f5, f6⟩ := plan_facts a b c
  obtain ⟨L, hL⟩ : ∃ z, z = planL a := ⟨_, rfl⟩
  obtain ⟨W, hW⟩ : ∃ z, z = planW b := ⟨_, rfl⟩
  obtain ⟨B, hB⟩ : ∃ z, z = planB a c := ⟨_, rfl⟩
  rw [← hL, ← hW, ← hB] at c0
  rw [← hL] at f1 f2 f6
  rw [← hW] at f3 f4
  rw [← hB] at f5 f6
  have c1 := fun w => of_any L W B 0 0 0 0 0 false (by unfold inR; omega) (by unfold inR; omega) (by unfold inR; omega) w
  obtain ⟨fr, hfr⟩ : ∃ z, z = L + 1 - B := ⟨_, rfl⟩
  rw [← hfr] at c1
  obtain ⟨u1, u2, u3, u4⟩ := unit_facts f3 (show 1 ≤ fr by omega)
  obtain ⟨U, hU⟩ : ∃ z, z = unitZ W fr := ⟨_, rfl⟩
  rw [← hU] at c1 u1 u2 u3 u4
  obtain ⟨uf, huf⟩ : ∃ z, z = U * fr := ⟨_, rfl⟩
  obtain ⟨vf, hvf⟩ : ∃ z, z = (U - 1) * fr := ⟨_, rfl⟩
  rw [← huf] at u3
  rw [← hvf] at u4
  have hv1 : uf = vf + fr := by rw [huf, hvf, Int.sub_mul, Int.one_mul]; omega
  have e1 : IntKind.i64.wrap (U * fr) = uf := by rw [← huf, IntKind.wrap_i64]; omega
  have e2 : IntKind.i64.wrap ((U - 1) * fr) = vf := by rw [← hvf, IntKind.wrap_i64]; omega
  have e3 : L + 1 - B = fr := hfr.symm
  have t1 : decide (uf < W) = false := by rw [decide_eq_false_iff_not]; omega
  have t2 : decide (W ≤ vf) = false := by rw [decide_eq_false_iff_not]; omega
  have c2 := fun w => new_any 0 0 w
  obtain ⟨m, hm⟩ : ∃ z : Nat, (z : Int) = n % 128 := ⟨(n % 128).toNat, by omega⟩
  have e4 : bits .and .i64 n 127 = (m : Int) := by rw [hm]; exact i64_mask7 n
  have hml : m < 128 := by omega
  have C0 := Lib.hid c0
  have C1 := Lib.hid c1
  have C2 := Lib.hid c2
  have HU := Lib.hid (show W ≤ U * fr by omega)
  have HFR := Lib.hid hfr
  have V1 := Lib.hid f1
  have V2 := Lib.hid f2
  have V5 := Lib.hid f5
  have V6 := Lib.hid f6
  clear hfr
  clear c0 c1 c2 hL hW hB hU hm hn huf hvf hv1 u3 u4 ha hb hc
  go_enter Try.func9, Try.ntmps9
  go_upto_region 5 with (first
    | (go_at_call 11; refine (fit_any _).mono ?_; rintro e w1 ⟨rfl, b1⟩; have g0 : w1.cell? ⟨w.heap.size, 0, none⟩ = some (.int .i64 a) := cell_kept b1 (cell_at (heap_alloc_new w _)); have g1 : w1.cell? ⟨w.heap.size, 1, none⟩ = some (.int .i64 b) := cell_kept b1 (cell_at (heap_alloc_new w _)); have g2 : w1.cell? ⟨w.heap.size, 2, none⟩ = some (.int .i64 c) := cell_kept b1 (cell_at (heap_alloc_new w _)); have B1 := Lib.hid (Below.trans ((Below.refl w.heap.size w).alloc (Nat.le_refl _) _) (b1.mono (by simp))); clear b1)
    | (go_at_call 12; ((with_reducible refine (C0.out _).mono ?_); rintro e w2 ⟨rfl, b2⟩; have B2 := Lib.hid b2; clear b2))
    | (go_at_call 13; ((with_reducible refine (C1.out _).mono ?_); rintro e w3 ⟨rfl, b3⟩; have B3 := Lib.hid b3; clear b3)))
  have hr0 : RuleAt (w2.alloc (.cells #[.int .i64 L, .int .i64 W, .int .i64 B, .int .i64 0, .int .i64 0, .int .i64 0, .int .i64 0, .int .i64 0, .bool false] 28)) w2.heap.size L W B := heap_alloc_new w2 _
  have b2 := (below_from B1.out B2.out).alloc (below_from B1.out B2.out).size (.cells #[.int .i64 L, .int .i64 W, .int .i64 B, .int .i64 0, .int .i64 0, .int .i64 0, .int .i64 0, .int .i64 0, .bool false] 28)
  have hr1 := hr0.below B3.out
  have b3 := below_from b2 B3.out
  have hb4 : Below w3.heap.size w3 (w3.alloc (.cells #[.int .i64 U, .int .i64 W, .int .i64 B, .int .i64 L] 31)) := (Below.refl _ _).alloc (Nat.le_refl _) _
  have hr := hr1.below hb4
  have hp : PaceAt (w3.alloc (.cells #[.int .i64 U, .int .i64 W, .int .i64 B, .int .i64 L] 31)) w3.heap.size U W B L := heap_alloc_new w3 _
  have b4 := below_from b3 hb4
  generalize w3.alloc (.cells #[.int .i64 U, .int .i64 W, .int .i64 B, .int .i64 L] 31) = wx at hr hp b4 ⊢
  clear hr0 b2 hr1 b3 hb4 B1 B2 B3 g0 g1 g2
  generalize w2.heap.size = rb at hr ⊢
  generalize w3.heap.size = pb at hp ⊢
  have r0 : wx.cell? ⟨rb, 0, none⟩ = some (.int .i64 L) := cell_at hr
  have r1 : wx.cell? ⟨rb, 1, none⟩ = some (.int .i64 W) := cell_at hr
  have r2 : wx.cell? ⟨rb, 2, none⟩ = some (.int .i64 B) := cell_at hr
  have p0 : wx.cell? ⟨pb, 0, none⟩ = some (.int .i64 U) := cell_at hp
  have p1 : wx.cell? ⟨pb, 1, none⟩ = some (.int .i64 W) := cell_at hp
  have p2 : wx.cell? ⟨pb, 2, none⟩ = some (.int .i64 B) := cell_at hp
  have p3 : wx.cell? ⟨pb, 3, none⟩ = some (.int .i64 L) := cell_at hp
  have HP := Lib.hid hp
  have BX := Lib.hid b4
  clear hr hp b4
  go_wp2_with (first
    | (go_at_call 15; ((with_reducible refine (C2.out _).mono ?_); rintro e w4 ⟨rfl, b4⟩; have B4 := Lib.hid b4; clear b4)))
  have hp4 := HP.out.below B4.out
  have b4 := below_from BX.out B4.out
  have hb5 : Below w4.heap.size w4 (w4.alloc (.cells #[.int .i64 0, .int .i64 0, .int .i64 0, .int .i64 0] 36)) := (Below.refl _ _).alloc (Nat.le_refl _) _
  have hp := hp4.below hb5
  have hc : CellAt (w4.alloc (.cells #[.int .i64 0, .int .i64 0, .int .i64 0, .int .i64 0] 36)) w4.heap.size 0 0 0 0 := heap_alloc_new w4 _
  have b5 := below_from b4 hb5
  have hne : pb ≠ w4.heap.size := Nat.ne_of_lt hp4.lt
  have hlt : w.heap.size ≤ w4.heap.size := b4.size
  generalize w4.alloc (.cells #[.int .i64 0, .int .i64 0, .int .i64 0, .int .i64 0] 36) = wy at hp hc b5 ⊢
  clear hp4 b4 hb5 B4 HP BX r0 r1 r2 p0 p1 p2 p3
  generalize w4.heap.size = bc at hc hne hlt ⊢
  have HP := Lib.hid hp
  have HC := Lib.hid hc
  have BY := Lib.hid b5
  have NE := Lib.hid hne
  have HL := Lib.hid hlt
  clear hp hc b5 hne hlt e1 e2 e3 t1 t2
  go_loopg [64] m (fun k si wr => ∃ i : Nat, i ≤ m ∧ k = m - i ∧ si = .int .i64 (i : Int) ∧ CellAt wr bc ((i : Int) * U) 0 0 (i : Int) ∧ Fr (fun k => k = bc) wy wr)
  case atStart => exact ⟨0, by omega, by omega, rfl, by have := HC.out; rw [show ((0 : Nat) : Int) = 0 from rfl, Int.zero_mul]; exact this, Fr.refl _ _⟩
  case round =>
    obtain ⟨i, hi, hkk, rfl, hcr, hfr⟩ := hrel
    have HK := Lib.hid hkk
    have HCR := Lib.hid hcr
    have HFW := Lib.hid hfr
    clear hkk hcr hfr
    by_cases hin : i < m
    · have hpr := HP.out.fr HFW.out NE.out
      have p0 : wr.cell? ⟨pb, 0, none⟩ = some (.int .i64 U) := cell_at hpr
      have p1 : wr.cell? ⟨pb, 1, none⟩ = some (.int .i64 W) := cell_at hpr
      have p2 : wr.cell? ⟨pb, 2, none⟩ = some (.int .i64 B) := cell_at hpr
      have p3 : wr.cell? ⟨pb, 3, none⟩ = some (.int .i64 L) := cell_at hpr
      obtain ⟨q1, q2, q3, q4, q5⟩ := room_unit (i : Int) U W B L fr (by omega) (by omega) (by omega) ⟨V5.out, by have := V6.out; have := V2.out; omega⟩ V2.out HFR.out HU.out
      have c3 := take_yes ((i : Int) * U) 0 0 (i : Int) U W B L ((i : Int) * U) 1 (by decide) (by decide) (by unfold inR; omega) (by omega) (by unfold inR; omega) (by have := V5.out; have := V6.out; have := V2.out; unfold inR; omega) (by have := V1.out; have := V2.out; unfold inR; omega) (by unfold inR; omega) (by rw [Int.zero_add, clamp_in (by unfold inR; omega)]; unfold inR; omega) q2 (by unfold inR; omega) (by decide) (by unfold inR; omega) ⟨by decide, q1⟩ wr bc HCR.out
      rw [q3] at c3
      obtain ⟨f, hf⟩ : ∃ z, z = (i : Int) * U := ⟨_, rfl⟩
      rw [← hf] at c3 q4 q5
      have e1 : IntKind.i64.wrap ((i : Int) * U) = f := by rw [← hf, IntKind.wrap_i64]; omega
      have C3 := Lib.hid c3
      clear q1 q2 q3 c3 hf hpr
      go_wp2_with (first
        | (go_at_call 21; ((with_reducible refine C3.out.mono ?_); rintro e w5 ⟨rfl, hc5, f5⟩; have HC5 := Lib.hid hc5; have F5 := Lib.hid f5; clear hc5 f5)))
      go_roundg (m - (i + 1))
      case measure => have := HK.out; omega
      case rel => exact ⟨i + 1, by omega, by omega, by go_num, HC5.out, HFW.out.trans F5.out⟩
    · go_wp2
      go_ret
      exact ⟨rfl, BY.out.trans (HFW.out.below BY.out.size (fun k hk => by subst hk; exact HL.out))⟩
end Go.Proofs.Ytfegoehiopkcnaa
