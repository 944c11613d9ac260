/- The laws of layer 9 (cell), walked: what is carried in. -/
import Derived.Test.YtfegoehiopkcnaaCellL
namespace Go.Proofs.Ytfegoehiopkcnaa
open Go.ChangeShapes Go.WideShapes Go.ChangeAt Go.RowKit
open Ar (inR)
theorem carry_facts (k U W B L t : Int) (hk : 0 ≤ k ∧ k ≤ 63) (hU : 1 ≤ U ∧ U ≤ 256) (hW : 1 ≤ W ∧ W ≤ 256) (hB : 1 ≤ B ∧ B ≤ 32) (hL : 1 ≤ L ∧ L ≤ 32) (ht : 0 ≤ t ∧ t ≤ 1023) :
    roomZ 5 5 k 0 U W B L (5 + t) = (if t < W then min B (max 0 (L - k)) else B) ∧ waitZ 5 5 k 0 U W B L (5 + t) 1 = (if t < W ∧ L - k < 1 then W - t else 0) ∧
    inR (clamp (5 + t + clamp (B * U)) - max 5 (5 + t)) ∧ inR (-clamp (k + 0)) ∧ inR ((B - 1) * U) ∧ inR (5 - (B - 1) * U) := by
  have k3 : 0 ≤ (B - 1) * U := Int.mul_nonneg (by omega) (by omega)
  have k4 : B * U ≤ 32 * 256 := Int.mul_le_mul hB.2 hU.2 (by omega) (by omega)
  have k5 : (B - 1) * U = B * U - U := by rw [Int.sub_mul, Int.one_mul]
  have k6 : (B * U).tdiv U = B := Int.mul_tdiv_cancel B (by omega)
  rw [k5] at k3
  have hb : 0 ≤ B * U := by omega
  unfold roomZ waitZ restZ
  rw [k5]
  generalize B * U = bu at *
  have e1 : clamp bu = bu := clamp_in (by unfold inR; omega)
  have e2 : clamp (5 + t + bu) = 5 + t + bu := clamp_in (by unfold inR; omega)
  have e3 : max 5 (5 + t) = 5 + t := by omega
  have e4 : 5 + t + bu - (5 + t) = bu := by omega
  have e5 : clamp (5 + W) = 5 + W := clamp_in (by unfold inR; omega)
  have e6 : clamp (k + 0) = k := by rw [Int.add_zero]; exact clamp_in (by unfold inR; omega)
  have e7 : clamp (L + -k) = L - k := by rw [← Int.sub_eq_add_neg]; exact clamp_in (by unfold inR; omega)
  have e8 : max (5 + t) (5 - (bu - U)) = 5 + t := by omega
  rw [e1, e2, e3, e4, e5, e6, e7, e8, k6]
  refine ⟨?_, ?_, by unfold inR; omega, by unfold inR; omega, by unfold inR; omega, by unfold inR; omega⟩
  · by_cases h : t < W
    · rw [if_pos (by omega), if_pos h]; omega
    · rw [if_neg (by omega), if_neg h]; omega
  · by_cases h : t < W ∧ L - k < 1
    · rw [if_pos (by omega), if_pos h]; omega
    · rw [if_neg (by omega), if_neg h]; omega
set_option maxHeartbeats 2000000 in
set_option maxRecDepth 100000 in
theorem carry_law (w : World) (a b c n at0 : Int) (ha : inR a) (hb : inR b) (hc : inR c) (hn : -9223372036854775808 ≤ n ∧ n ≤ 9223372036854775807) (hat : -9223372036854775808 ≤ at0 ∧ at0 ≤ 9223372036854775807) :
    Calls Try.prog 8 #[.agg #[.int .i64 a, .int .i64 b, .int .i64 c], .int .i64 n, .int .i64 at0] w fun e w' => e = .returned (.bool true) ∧ Below w.heap.size w w' := by
  have c0 := fun w => rule_any a b c ha hb hc w
  obtain ⟨f1, f2, f3, f4, f5, f6⟩ := plan_facts a b c
  obtain ⟨L, hL⟩ : ∃ z, z = planL a := ⟨_, rfl⟩
  obtain ⟨W, hW⟩ : ∃ z, z = planW b := ⟨_, rfl⟩
  obtain ⟨B, hB⟩ : ∃ z, z = planB a c := ⟨_, rfl⟩
  rw [← hL, ← hW, ← hB] at c0
  rw [← hL] at f1 f2 f6
  rw [← hW] at f3 f4
  rw [← hB] at f5 f6
  have c1 := fun w => of_any L W B 0 0 0 0 0 false (by unfold inR; omega) (by unfold inR; omega) (by unfold inR; omega) w
  obtain ⟨fr, hfr⟩ : ∃ z, z = L + 1 - B := ⟨_, rfl⟩
  rw [← hfr] at c1
  obtain ⟨u1, u2, u3, u4⟩ := unit_facts f3 (show 1 ≤ fr by omega)
  obtain ⟨U, hU⟩ : ∃ z, z = unitZ W fr := ⟨_, rfl⟩
  rw [← hU] at c1 u1 u2 u3 u4
  obtain ⟨k, hk⟩ : ∃ z, z = n % 64 := ⟨_, rfl⟩
  have e1 : bits .and .i64 n 63 = k := by rw [hk]; exact i64_mask6 n
  have hkb : 0 ≤ k ∧ k ≤ 63 := by omega
  obtain ⟨t, ht⟩ : ∃ z, z = at0 % 1024 := ⟨_, rfl⟩
  have e2 : bits .and .i64 at0 1023 = t := by rw [ht]; exact i64_mask10 at0
  have htb : 0 ≤ t ∧ t ≤ 1023 := by omega
  have c2 := fun w => new_any 5 k w
  have c3 := fun w => new_any 5 0 w
  have C0 := Lib.hid c0
  have C1 := Lib.hid c1
  have C2 := Lib.hid c2
  have C3 := Lib.hid c3
  clear c0 c1 c2 c3 hL hW hB hU hn hat hk ht ha hb hc u3 u4 hfr
  go_enter Try.func8, Try.ntmps8
  go_upto_region 5 with (first
    | (go_at_call 11; refine (fit_any _).mono ?_; rintro e w1 ⟨rfl, b1⟩; have g0 : w1.cell? ⟨w.heap.size, 0, none⟩ = some (.int .i64 a) := cell_kept b1 (cell_at (heap_alloc_new w _)); have g1 : w1.cell? ⟨w.heap.size, 1, none⟩ = some (.int .i64 b) := cell_kept b1 (cell_at (heap_alloc_new w _)); have g2 : w1.cell? ⟨w.heap.size, 2, none⟩ = some (.int .i64 c) := cell_kept b1 (cell_at (heap_alloc_new w _)); have B1 := Lib.hid (Below.trans ((Below.refl w.heap.size w).alloc (Nat.le_refl _) _) (b1.mono (by simp))); clear b1)
    | (go_at_call 12; ((with_reducible refine (C0.out _).mono ?_); rintro e w2 ⟨rfl, b2⟩; have B2 := Lib.hid b2; clear b2))
    | (go_at_call 13; ((with_reducible refine (C1.out _).mono ?_); rintro e w3 ⟨rfl, b3⟩; have B3 := Lib.hid b3; clear b3)))
  have hr0 : RuleAt (w2.alloc (.cells #[.int .i64 L, .int .i64 W, .int .i64 B, .int .i64 0, .int .i64 0, .int .i64 0, .int .i64 0, .int .i64 0, .bool false] 28)) w2.heap.size L W B := heap_alloc_new w2 _
  have b2 := (below_from B1.out B2.out).alloc (below_from B1.out B2.out).size (.cells #[.int .i64 L, .int .i64 W, .int .i64 B, .int .i64 0, .int .i64 0, .int .i64 0, .int .i64 0, .int .i64 0, .bool false] 28)
  have hr1 := hr0.below B3.out
  have b3 := below_from b2 B3.out
  have hb4 : Below w3.heap.size w3 (w3.alloc (.cells #[.int .i64 U, .int .i64 W, .int .i64 B, .int .i64 L] 31)) := (Below.refl _ _).alloc (Nat.le_refl _) _
  have hr := hr1.below hb4
  have hp : PaceAt (w3.alloc (.cells #[.int .i64 U, .int .i64 W, .int .i64 B, .int .i64 L] 31)) w3.heap.size U W B L := heap_alloc_new w3 _
  have b4 := below_from b3 hb4
  generalize w3.alloc (.cells #[.int .i64 U, .int .i64 W, .int .i64 B, .int .i64 L] 31) = wx at hr hp b4 ⊢
  clear hr0 b2 hr1 b3 hb4 B1 B2 B3 g0 g1 g2
  generalize w2.heap.size = rb at hr ⊢
  generalize w3.heap.size = pb at hp ⊢
  have r0 : wx.cell? ⟨rb, 0, none⟩ = some (.int .i64 L) := cell_at hr
  have r1 : wx.cell? ⟨rb, 1, none⟩ = some (.int .i64 W) := cell_at hr
  have r2 : wx.cell? ⟨rb, 2, none⟩ = some (.int .i64 B) := cell_at hr
  have p0 : wx.cell? ⟨pb, 0, none⟩ = some (.int .i64 U) := cell_at hp
  have p1 : wx.cell? ⟨pb, 1, none⟩ = some (.int .i64 W) := cell_at hp
  have p2 : wx.cell? ⟨pb, 2, none⟩ = some (.int .i64 B) := cell_at hp
  have p3 : wx.cell? ⟨pb, 3, none⟩ = some (.int .i64 L) := cell_at hp
  have HP := Lib.hid hp
  have BX := Lib.hid b4
  have HR := Lib.hid hr
  clear hr hp b4
  go_upto_region 8 with (first
    | (go_at_call 15; first | ((with_reducible refine (C2.out _).mono ?_); rintro e w4 ⟨rfl, b4⟩; have B4 := Lib.hid b4; clear b4) | ((with_reducible refine (C3.out _).mono ?_); rintro e w5 ⟨rfl, b5⟩; have B5 := Lib.hid b5; clear b5)))
  obtain ⟨wz, hwz, hc, hd, hbz⟩ := two_allocs w5 #[.int .i64 5, .int .i64 5, .int .i64 k, .int .i64 0] #[.int .i64 5, .int .i64 5, .int .i64 0, .int .i64 0] 36 36
  rw [hwz]
  have bxz := below_from (below_from B4.out B5.out) hbz
  have hp := HP.out.below bxz
  have hr := HR.out.below bxz
  have hwb := below_from BX.out bxz
  clear hwz hbz bxz B4 B5 HP HR BX r0 r1 r2 p0 p1 p2 p3
  generalize w5.heap.size = cb at hc hd ⊢
  have q0 : wz.cell? ⟨cb, 0, none⟩ = some (.int .i64 5) := cell_at hc
  have q1 : wz.cell? ⟨cb, 1, none⟩ = some (.int .i64 5) := cell_at hc
  have q2 : wz.cell? ⟨cb, 2, none⟩ = some (.int .i64 k) := cell_at hc
  have q3 : wz.cell? ⟨cb, 3, none⟩ = some (.int .i64 0) := cell_at hc
  have q4 : wz.cell? ⟨cb + 1, 0, none⟩ = some (.int .i64 5) := cell_at hd
  have q5 : wz.cell? ⟨cb + 1, 1, none⟩ = some (.int .i64 5) := cell_at hd
  have q6 : wz.cell? ⟨cb + 1, 2, none⟩ = some (.int .i64 0) := cell_at hd
  have q7 : wz.cell? ⟨cb + 1, 3, none⟩ = some (.int .i64 0) := cell_at hd
  have q8 : wz.cell? ⟨pb, 0, none⟩ = some (.int .i64 U) := cell_at hp
  have q9 : wz.cell? ⟨pb, 1, none⟩ = some (.int .i64 W) := cell_at hp
  have q10 : wz.cell? ⟨pb, 2, none⟩ = some (.int .i64 B) := cell_at hp
  have q11 : wz.cell? ⟨pb, 3, none⟩ = some (.int .i64 L) := cell_at hp
  have q12 : wz.cell? ⟨rb, 0, none⟩ = some (.int .i64 L) := cell_at hr
  have q13 : wz.cell? ⟨rb, 1, none⟩ = some (.int .i64 W) := cell_at hr
  have q14 : wz.cell? ⟨rb, 2, none⟩ = some (.int .i64 B) := cell_at hr
  have BZ := Lib.hid hwb
  clear hc hd hp hr hwb
  have lift : ∀ {f : Nat} {args : Array Value} {v : Value} (h : ∀ w, Calls Try.prog f args w fun e w' => e = .returned v ∧ Below w.heap.size w w') (w : World), Below wz.heap.size wz w →
      Calls Try.prog f args w fun e w' => e = .returned v ∧ w'.cell? ⟨cb, 0, none⟩ = some (.int .i64 5) ∧ w'.cell? ⟨cb, 1, none⟩ = some (.int .i64 5) ∧ w'.cell? ⟨cb, 2, none⟩ = some (.int .i64 k) ∧ w'.cell? ⟨cb, 3, none⟩ = some (.int .i64 0) ∧ w'.cell? ⟨cb + 1, 0, none⟩ = some (.int .i64 5) ∧ w'.cell? ⟨cb + 1, 1, none⟩ = some (.int .i64 5) ∧ w'.cell? ⟨cb + 1, 2, none⟩ = some (.int .i64 0) ∧ w'.cell? ⟨cb + 1, 3, none⟩ = some (.int .i64 0) ∧ w'.cell? ⟨pb, 0, none⟩ = some (.int .i64 U) ∧ w'.cell? ⟨pb, 1, none⟩ = some (.int .i64 W) ∧ w'.cell? ⟨pb, 2, none⟩ = some (.int .i64 B) ∧ w'.cell? ⟨pb, 3, none⟩ = some (.int .i64 L) ∧ w'.cell? ⟨rb, 0, none⟩ = some (.int .i64 L) ∧ w'.cell? ⟨rb, 1, none⟩ = some (.int .i64 W) ∧ w'.cell? ⟨rb, 2, none⟩ = some (.int .i64 B) ∧ Below wz.heap.size wz w' := by
    intro f args v h w hb
    refine (h w).mono ?_
    rintro e w' ⟨rfl, b⟩
    have hb' := hb.trans (b.mono hb.size)
    exact ⟨rfl, cell_kept hb' q0, cell_kept hb' q1, cell_kept hb' q2, cell_kept hb' q3, cell_kept hb' q4, cell_kept hb' q5, cell_kept hb' q6, cell_kept hb' q7, cell_kept hb' q8, cell_kept hb' q9, cell_kept hb' q10, cell_kept hb' q11, cell_kept hb' q12, cell_kept hb' q13, cell_kept hb' q14, hb'⟩
  obtain ⟨v1, v2, v3, v4, v5, v6⟩ := carry_facts k U W B L t hkb ⟨u1, by omega⟩ ⟨f3, f4⟩ ⟨f5, by omega⟩ ⟨f1, f2⟩ htb
  obtain ⟨x1, _, x3, x4, _, _⟩ := carry_facts 0 U W B L t (by omega) ⟨u1, by omega⟩ ⟨f3, f4⟩ ⟨f5, by omega⟩ ⟨f1, f2⟩ htb
  have e3 : IntKind.i64.wrap (5 + t) = 5 + t := by rw [IntKind.wrap_i64]; omega
  have rc := fun w => room_any 5 5 k 0 U W B L (5 + t) (by decide) (by unfold inR; omega) (by decide) (by omega) (by unfold inR; omega) (by unfold inR; omega) (by unfold inR; omega) (by unfold inR; omega) v4 v3 w
  have rd := fun w => room_any 5 5 0 0 U W B L (5 + t) (by decide) (by decide) (by decide) (by omega) (by unfold inR; omega) (by unfold inR; omega) (by unfold inR; omega) (by unfold inR; omega) x4 x3 w
  have wc := fun w => wait_any 5 5 k 0 U W B L (5 + t) 1 (by decide) (by unfold inR; omega) (by decide) (by unfold inR; omega) (by unfold inR; omega) (by unfold inR; omega) v4 (by unfold inR; omega) v5 v6 (by rw [v2]; unfold inR; split <;> omega) w
  rw [v1] at rc
  rw [x1] at rd
  rw [v2] at wc
  rw [← e3] at rc rd wc
  clear v1 v2 v3 v4 v5 v6 x1 x3 x4
  by_cases htW : t < W
  · rw [if_pos htW] at rc rd
    have t3 : (W ≤ t) = False := eq_false (by omega)
    clear rd
    by_cases hl : 1 ≤ L - k
    · rw [if_neg (by omega)] at wc
      obtain ⟨l, hll⟩ : ∃ z, z = L - k := ⟨_, rfl⟩
      have e5 : L - k = l := hll.symm
      rw [show max 0 (L - k) = l by omega] at rc
      have hl1 : 1 ≤ l := by omega
      obtain ⟨r, hr, hrr⟩ : ∃ r, r = min B l ∧ (((B < l) = True ∧ r = B) ∨ ((B < l) = False ∧ r = l)) := ⟨_, rfl, by by_cases g : B < l; exact Or.inl ⟨eq_true g, by omega⟩; exact Or.inr ⟨eq_false g, by omega⟩⟩
      rw [← hr] at rc
      have J1 := Lib.hid (lift rc)
      have J3 := Lib.hid (lift wc)
      clear rc wc lift e3 hl hll hr
      have LB := Lib.hid (show L - k ≤ 64 ∧ 0 ≤ L - k by omega)
      have hl2 : l ≤ 64 := by omega
      rcases hrr with ⟨eB, hr⟩ | ⟨eB, hr⟩
      all_goals
        rw [hr] at J1
        clear hr
        go_upto_region 11 with (fail)
        have y0 : wz.drew.cell? ⟨cb, 0, none⟩ = some (.int .i64 5) := q0
        have y1 : wz.drew.cell? ⟨cb, 1, none⟩ = some (.int .i64 5) := q1
        have y2 : wz.drew.cell? ⟨cb, 2, none⟩ = some (.int .i64 k) := q2
        have y3 : wz.drew.cell? ⟨cb, 3, none⟩ = some (.int .i64 0) := q3
        have y4 : wz.drew.cell? ⟨cb + 1, 0, none⟩ = some (.int .i64 5) := q4
        have y5 : wz.drew.cell? ⟨cb + 1, 1, none⟩ = some (.int .i64 5) := q5
        have y6 : wz.drew.cell? ⟨cb + 1, 2, none⟩ = some (.int .i64 0) := q6
        have y7 : wz.drew.cell? ⟨cb + 1, 3, none⟩ = some (.int .i64 0) := q7
        have y8 : wz.drew.cell? ⟨pb, 0, none⟩ = some (.int .i64 U) := q8
        have y9 : wz.drew.cell? ⟨pb, 1, none⟩ = some (.int .i64 W) := q9
        have y10 : wz.drew.cell? ⟨pb, 2, none⟩ = some (.int .i64 B) := q10
        have y11 : wz.drew.cell? ⟨pb, 3, none⟩ = some (.int .i64 L) := q11
        have y12 : wz.drew.cell? ⟨rb, 0, none⟩ = some (.int .i64 L) := q12
        have y13 : wz.drew.cell? ⟨rb, 1, none⟩ = some (.int .i64 W) := q13
        have y14 : wz.drew.cell? ⟨rb, 2, none⟩ = some (.int .i64 B) := q14
        have yb : Below wz.heap.size wz wz.drew := below_draws (Below.refl _ _) 1
        clear q0 q1 q2 q3 q4 q5 q6 q7 q8 q9 q10 q11 q12 q13 q14
        go_region_held3 (fun w' => w'.cell? ⟨cb, 0, none⟩ = some (.int .i64 5) ∧ w'.cell? ⟨cb, 1, none⟩ = some (.int .i64 5) ∧ w'.cell? ⟨cb, 2, none⟩ = some (.int .i64 k) ∧ w'.cell? ⟨cb, 3, none⟩ = some (.int .i64 0) ∧ w'.cell? ⟨cb + 1, 0, none⟩ = some (.int .i64 5) ∧ w'.cell? ⟨cb + 1, 1, none⟩ = some (.int .i64 5) ∧ w'.cell? ⟨cb + 1, 2, none⟩ = some (.int .i64 0) ∧ w'.cell? ⟨cb + 1, 3, none⟩ = some (.int .i64 0) ∧ w'.cell? ⟨pb, 0, none⟩ = some (.int .i64 U) ∧ w'.cell? ⟨pb, 1, none⟩ = some (.int .i64 W) ∧ w'.cell? ⟨pb, 2, none⟩ = some (.int .i64 B) ∧ w'.cell? ⟨pb, 3, none⟩ = some (.int .i64 L) ∧ w'.cell? ⟨rb, 0, none⟩ = some (.int .i64 L) ∧ w'.cell? ⟨rb, 1, none⟩ = some (.int .i64 W) ∧ w'.cell? ⟨rb, 2, none⟩ = some (.int .i64 B) ∧ Below wz.heap.size wz w') (first | (refine ⟨?_, ?_, ?_, ?_, ?_, ?_, ?_, ?_, ?_, ?_, ?_, ?_, ?_, ?_, ?_, ?_⟩ <;> assumption) | go_keep)
          (first
            | (go_at_call 17; ((with_reducible refine (J1.out _ (by assumption)).mono ?_); rintro e w' ⟨rfl, z0, z1, z2, z3, z4, z5, z6, z7, z8, z9, z10, z11, z12, z13, z14, z⟩)))
        all_goals
          go_upto_region 13 with (fail)
          have hs13 : (fun w' => w'.cell? ⟨cb, 0, none⟩ = some (.int .i64 5) ∧ w'.cell? ⟨cb, 1, none⟩ = some (.int .i64 5) ∧ w'.cell? ⟨cb, 2, none⟩ = some (.int .i64 k) ∧ w'.cell? ⟨cb, 3, none⟩ = some (.int .i64 0) ∧ w'.cell? ⟨cb + 1, 0, none⟩ = some (.int .i64 5) ∧ w'.cell? ⟨cb + 1, 1, none⟩ = some (.int .i64 5) ∧ w'.cell? ⟨cb + 1, 2, none⟩ = some (.int .i64 0) ∧ w'.cell? ⟨cb + 1, 3, none⟩ = some (.int .i64 0) ∧ w'.cell? ⟨pb, 0, none⟩ = some (.int .i64 U) ∧ w'.cell? ⟨pb, 1, none⟩ = some (.int .i64 W) ∧ w'.cell? ⟨pb, 2, none⟩ = some (.int .i64 B) ∧ w'.cell? ⟨pb, 3, none⟩ = some (.int .i64 L) ∧ w'.cell? ⟨rb, 0, none⟩ = some (.int .i64 L) ∧ w'.cell? ⟨rb, 1, none⟩ = some (.int .i64 W) ∧ w'.cell? ⟨rb, 2, none⟩ = some (.int .i64 B) ∧ Below wz.heap.size wz w') w'.drew := ⟨z0, z1, z2, z3, z4, z5, z6, z7, z8, z9, z10, z11, z12, z13, z14, below_draws z 1⟩
          clear y0 y1 y2 y3 y4 y5 y6 y7 y8 y9 y10 y11 y12 y13 y14 yb z0 z1 z2 z3 z4 z5 z6 z7 z8 z9 z10 z11 z12 z13 z14 z
          refine wp_region_held_drew (S := (fun w' => w'.cell? ⟨cb, 0, none⟩ = some (.int .i64 5) ∧ w'.cell? ⟨cb, 1, none⟩ = some (.int .i64 5) ∧ w'.cell? ⟨cb, 2, none⟩ = some (.int .i64 k) ∧ w'.cell? ⟨cb, 3, none⟩ = some (.int .i64 0) ∧ w'.cell? ⟨cb + 1, 0, none⟩ = some (.int .i64 5) ∧ w'.cell? ⟨cb + 1, 1, none⟩ = some (.int .i64 5) ∧ w'.cell? ⟨cb + 1, 2, none⟩ = some (.int .i64 0) ∧ w'.cell? ⟨cb + 1, 3, none⟩ = some (.int .i64 0) ∧ w'.cell? ⟨pb, 0, none⟩ = some (.int .i64 U) ∧ w'.cell? ⟨pb, 1, none⟩ = some (.int .i64 W) ∧ w'.cell? ⟨pb, 2, none⟩ = some (.int .i64 B) ∧ w'.cell? ⟨pb, 3, none⟩ = some (.int .i64 L) ∧ w'.cell? ⟨rb, 0, none⟩ = some (.int .i64 L) ∧ w'.cell? ⟨rb, 1, none⟩ = some (.int .i64 W) ∧ w'.cell? ⟨rb, 2, none⟩ = some (.int .i64 B) ∧ Below wz.heap.size wz w')) (by kernel_rfl) hs13 (fun hHeld => ?_)
          clear hs13
          refine wpAnyH_take (i := 0) (oi := ?_) (v := ?_) ?_ ?_ ?_ ?_ ?_ ?_ ?_ ?_
          rotate_left 2
          · simp only [List.getElem?_toArray, List.getElem?_cons_succ, List.getElem?_cons_zero]; rfl
          · kernel_rfl
          · kernel_rfl
          · kernel_rfl
          · exact fun _ _ _ h => h
          · refine Or.inl ⟨by rfl, ?_⟩
            intro w' hSw
            (try dsimp only at hSw)
            go_simp
            all_goals (with_reducible rfl)
          · assumption
          try simp only [Act.put, List.setIfInBounds_toArray, List.set_cons_zero, List.set_cons_succ]
          refine wpAnyH_take (i := 1) (oi := ?_) (v := ?_) ?_ ?_ ?_ ?_ ?_ ?_ ?_ ?_
          rotate_left 2
          · simp only [List.getElem?_toArray, List.getElem?_cons_succ, List.getElem?_cons_zero]; rfl
          · kernel_rfl
          · kernel_rfl
          · kernel_rfl
          · exact fun _ _ _ h => h
          · refine Or.inl ⟨by rfl, ?_⟩
            intro w' hSw
            (try dsimp only at hSw)
            go_simp
            all_goals (with_reducible rfl)
          · assumption
          try simp only [Act.put, List.setIfInBounds_toArray, List.set_cons_zero, List.set_cons_succ]
          refine wpAnyH_take (i := 2) (oi := ?_) (v := ?_) ?_ ?_ ?_ ?_ ?_ ?_ ?_ ?_
          rotate_left 2
          · simp only [List.getElem?_toArray, List.getElem?_cons_succ, List.getElem?_cons_zero]; rfl
          · kernel_rfl
          · kernel_rfl
          · kernel_rfl
          · exact fun _ _ _ h => h
          · refine Or.inl ⟨by rfl, ?_⟩
            intro w' hSw
            (try dsimp only at hSw)
            go_simp
            all_goals (with_reducible rfl)
          · assumption
          try simp only [Act.put, List.setIfInBounds_toArray, List.set_cons_zero, List.set_cons_succ]
          refine wpAnyH_take (i := 3) (oi := ?_) (v := ?_) ?_ ?_ ?_ ?_ ?_ ?_ ?_ ?_
          rotate_left 2
          · simp only [List.getElem?_toArray, List.getElem?_cons_succ, List.getElem?_cons_zero]; rfl
          · kernel_rfl
          · kernel_rfl
          · kernel_rfl
          · exact fun _ _ _ h => h
          · refine Or.inl ⟨by rfl, ?_⟩
            intro w' hSw
            (try dsimp only at hSw)
            go_simp
            all_goals (with_reducible rfl)
          · assumption
          try simp only [Act.put, List.setIfInBounds_toArray, List.set_cons_zero, List.set_cons_succ]
          refine wpAnyH_take (i := 4) (oi := ?_) (v := ?_) ?_ ?_ ?_ ?_ ?_ ?_ ?_ ?_
          rotate_left 2
          · simp only [List.getElem?_toArray, List.getElem?_cons_succ, List.getElem?_cons_zero]; rfl
          · kernel_rfl
          · kernel_rfl
          · kernel_rfl
          · exact fun _ _ _ h => h
          · refine Or.inl ⟨by rfl, ?_⟩
            intro w' hSw
            (try dsimp only at hSw)
            go_simp
            all_goals (with_reducible rfl)
          · assumption
          try simp only [Act.put, List.setIfInBounds_toArray, List.set_cons_zero, List.set_cons_succ]
          refine wpAnyH_take (i := 5) (oi := ?_) (v := ?_) ?_ ?_ ?_ ?_ ?_ ?_ ?_ ?_
          rotate_left 2
          · simp only [List.getElem?_toArray, List.getElem?_cons_succ, List.getElem?_cons_zero]; rfl
          · kernel_rfl
          · kernel_rfl
          · kernel_rfl
          · exact fun _ _ _ h => h
          · refine Or.inl ⟨by rfl, ?_⟩
            intro w' hSw
            (try dsimp only at hSw)
            go_simp
            all_goals (with_reducible rfl)
          · assumption
          try simp only [Act.put, List.setIfInBounds_toArray, List.set_cons_zero, List.set_cons_succ]
          refine wpAnyH_take (i := 6) (oi := ?_) (v := ?_) ?_ ?_ ?_ ?_ ?_ ?_ ?_ ?_
          rotate_left 2
          · simp only [List.getElem?_toArray, List.getElem?_cons_succ, List.getElem?_cons_zero]; rfl
          · kernel_rfl
          · kernel_rfl
          · kernel_rfl
          · exact fun _ _ _ h => h
          · refine Or.inl ⟨by rfl, ?_⟩
            intro w' hSw
            (try dsimp only at hSw)
            go_simp
            all_goals (with_reducible rfl)
          · assumption
          try simp only [Act.put, List.setIfInBounds_toArray, List.set_cons_zero, List.set_cons_succ]
          refine wpAnyH_ready (rs := [7]) (by kernel_rfl) (by simp) ?_
          refine AllReadyH.cons (o := ?_) ?_ ?_ ?_
          rotate_left 1
          · simp only [List.getElem?_toArray, List.getElem?_cons_succ, List.getElem?_cons_zero]; rfl
          rotate_left 1
          · exact AllReadyH.nil
          intro K hK
          go_simp
          ((go_at_call 19; (with_reducible refine (J3.out _ hHeld.2.2.2.2.2.2.2.2.2.2.2.2.2.2.2).mono ?_); rintro e w9 ⟨rfl, z0, z1, z2, z3, z4, z5, z6, z7, z8, z9, z10, z11, z12, z13, z14, z⟩))
          refine hK.out _ _ ⟨z0, z1, z2, z3, z4, z5, z6, z7, z8, z9, z10, z11, z12, z13, z14, z⟩ (fun hHeld => ?_)
          clear hK K
          try simp only [Act.put, List.setIfInBounds_toArray, List.set_cons_zero, List.set_cons_succ]
          refine wpAnyH_take (i := 8) (oi := ?_) (v := ?_) ?_ ?_ ?_ ?_ ?_ ?_ ?_ ?_
          rotate_left 2
          · simp only [List.getElem?_toArray, List.getElem?_cons_succ, List.getElem?_cons_zero]; rfl
          · kernel_rfl
          · kernel_rfl
          · kernel_rfl
          · exact fun _ _ _ h => h
          · refine Or.inl ⟨by rfl, ?_⟩
            intro w' hSw
            (try dsimp only at hSw)
            go_simp
            all_goals (with_reducible rfl)
          · assumption
          try simp only [Act.put, List.setIfInBounds_toArray, List.set_cons_zero, List.set_cons_succ]
          refine wpAnyH_take (i := 9) (oi := ?_) (v := ?_) ?_ ?_ ?_ ?_ ?_ ?_ ?_ ?_
          rotate_left 2
          · simp only [List.getElem?_toArray, List.getElem?_cons_succ, List.getElem?_cons_zero]; rfl
          · kernel_rfl
          · kernel_rfl
          · kernel_rfl
          · exact fun _ _ _ h => h
          · refine Or.inl ⟨by rfl, ?_⟩
            intro w' hSw
            (try dsimp only at hSw)
            go_simp
            all_goals (with_reducible rfl)
          · assumption
          try simp only [Act.put, List.setIfInBounds_toArray, List.set_cons_zero, List.set_cons_succ]
          refine wpAnyH_take (i := 10) (oi := ?_) (v := ?_) ?_ ?_ ?_ ?_ ?_ ?_ ?_ ?_
          rotate_left 2
          · simp only [List.getElem?_toArray, List.getElem?_cons_succ, List.getElem?_cons_zero]; rfl
          · kernel_rfl
          · kernel_rfl
          · kernel_rfl
          · exact fun _ _ _ h => h
          · refine Or.inl ⟨by rfl, ?_⟩
            intro w' hSw
            (try dsimp only at hSw)
            go_simp
            all_goals (with_reducible rfl)
          · assumption
          try simp only [Act.put, List.setIfInBounds_toArray, List.set_cons_zero, List.set_cons_succ]
          refine wpAnyH_take (i := 11) (oi := ?_) (v := undef) ?_ ?_ ?_ ?_ ?_ ?_ ?_ ?_
          rotate_left 1
          · simp only [List.getElem?_toArray, List.getElem?_cons_succ, List.getElem?_cons_zero]; rfl
          · kernel_rfl
          · kernel_rfl
          · kernel_rfl
          · exact fun _ _ _ h => h
          · exact Or.inr ⟨by kernel_rfl, rfl⟩
          · assumption
          try simp only [Act.put, List.setIfInBounds_toArray, List.set_cons_zero, List.set_cons_succ]
          refine wpAnyH_take (i := 12) (oi := ?_) (v := undef) ?_ ?_ ?_ ?_ ?_ ?_ ?_ ?_
          rotate_left 1
          · simp only [List.getElem?_toArray, List.getElem?_cons_succ, List.getElem?_cons_zero]; rfl
          · kernel_rfl
          · kernel_rfl
          · kernel_rfl
          · exact fun _ _ _ h => h
          · exact Or.inr ⟨by kernel_rfl, rfl⟩
          · assumption
          try simp only [Act.put, List.setIfInBounds_toArray, List.set_cons_zero, List.set_cons_succ]
          refine wpAnyH_take (i := 13) (oi := ?_) (v := undef) ?_ ?_ ?_ ?_ ?_ ?_ ?_ ?_
          rotate_left 1
          · simp only [List.getElem?_toArray, List.getElem?_cons_succ, List.getElem?_cons_zero]; rfl
          · kernel_rfl
          · kernel_rfl
          · kernel_rfl
          · exact fun _ _ _ h => h
          · exact Or.inr ⟨by kernel_rfl, rfl⟩
          · assumption
          try simp only [Act.put, List.setIfInBounds_toArray, List.set_cons_zero, List.set_cons_succ]
          refine wpAnyH_take (i := 14) (oi := ?_) (v := undef) ?_ ?_ ?_ ?_ ?_ ?_ ?_ ?_
          rotate_left 1
          · simp only [List.getElem?_toArray, List.getElem?_cons_succ, List.getElem?_cons_zero]; rfl
          · kernel_rfl
          · kernel_rfl
          · kernel_rfl
          · exact fun _ _ _ h => h
          · exact Or.inr ⟨by kernel_rfl, rfl⟩
          · assumption
          try simp only [Act.put, List.setIfInBounds_toArray, List.set_cons_zero, List.set_cons_succ]
          refine wpAnyH_take (i := 15) (oi := ?_) (v := undef) ?_ ?_ ?_ ?_ ?_ ?_ ?_ ?_
          rotate_left 1
          · simp only [List.getElem?_toArray, List.getElem?_cons_succ, List.getElem?_cons_zero]; rfl
          · kernel_rfl
          · kernel_rfl
          · kernel_rfl
          · exact fun _ _ _ h => h
          · exact Or.inr ⟨by kernel_rfl, rfl⟩
          · assumption
          try simp only [Act.put, List.setIfInBounds_toArray, List.set_cons_zero, List.set_cons_succ]
          refine wpAnyH_take (i := 16) (oi := ?_) (v := undef) ?_ ?_ ?_ ?_ ?_ ?_ ?_ ?_
          rotate_left 1
          · simp only [List.getElem?_toArray, List.getElem?_cons_succ, List.getElem?_cons_zero]; rfl
          · kernel_rfl
          · kernel_rfl
          · kernel_rfl
          · exact fun _ _ _ h => h
          · exact Or.inr ⟨by kernel_rfl, rfl⟩
          · assumption
          try simp only [Act.put, List.setIfInBounds_toArray, List.set_cons_zero, List.set_cons_succ]
          refine wpAnyH_take (i := 17) (oi := ?_) (v := undef) ?_ ?_ ?_ ?_ ?_ ?_ ?_ ?_
          rotate_left 1
          · simp only [List.getElem?_toArray, List.getElem?_cons_succ, List.getElem?_cons_zero]; rfl
          · kernel_rfl
          · kernel_rfl
          · kernel_rfl
          · exact fun _ _ _ h => h
          · exact Or.inr ⟨by kernel_rfl, rfl⟩
          · assumption
          try simp only [Act.put, List.setIfInBounds_toArray, List.set_cons_zero, List.set_cons_succ]
          refine wpAnyH_take (i := 18) (oi := ?_) (v := undef) ?_ ?_ ?_ ?_ ?_ ?_ ?_ ?_
          rotate_left 1
          · simp only [List.getElem?_toArray, List.getElem?_cons_succ, List.getElem?_cons_zero]; rfl
          · kernel_rfl
          · kernel_rfl
          · kernel_rfl
          · exact fun _ _ _ h => h
          · exact Or.inr ⟨by kernel_rfl, rfl⟩
          · assumption
          try simp only [Act.put, List.setIfInBounds_toArray, List.set_cons_zero, List.set_cons_succ]
          refine wpAnyH_take (i := 19) (oi := ?_) (v := undef) ?_ ?_ ?_ ?_ ?_ ?_ ?_ ?_
          rotate_left 1
          · simp only [List.getElem?_toArray, List.getElem?_cons_succ, List.getElem?_cons_zero]; rfl
          · kernel_rfl
          · kernel_rfl
          · kernel_rfl
          · exact fun _ _ _ h => h
          · exact Or.inr ⟨by kernel_rfl, rfl⟩
          · assumption
          try simp only [Act.put, List.setIfInBounds_toArray, List.set_cons_zero, List.set_cons_succ]
          refine wpAnyH_take (i := 20) (oi := ?_) (v := undef) ?_ ?_ ?_ ?_ ?_ ?_ ?_ ?_
          rotate_left 1
          · simp only [List.getElem?_toArray, List.getElem?_cons_succ, List.getElem?_cons_zero]; rfl
          · kernel_rfl
          · kernel_rfl
          · kernel_rfl
          · exact fun _ _ _ h => h
          · exact Or.inr ⟨by kernel_rfl, rfl⟩
          · assumption
          try simp only [Act.put, List.setIfInBounds_toArray, List.set_cons_zero, List.set_cons_succ]
          refine wpAnyH_take (i := 21) (oi := ?_) (v := undef) ?_ ?_ ?_ ?_ ?_ ?_ ?_ ?_
          rotate_left 1
          · simp only [List.getElem?_toArray, List.getElem?_cons_succ, List.getElem?_cons_zero]; rfl
          · kernel_rfl
          · kernel_rfl
          · kernel_rfl
          · exact fun _ _ _ h => h
          · exact Or.inr ⟨by kernel_rfl, rfl⟩
          · assumption
          try simp only [Act.put, List.setIfInBounds_toArray, List.set_cons_zero, List.set_cons_succ]
          refine wpAnyH_take (i := 22) (oi := ?_) (v := undef) ?_ ?_ ?_ ?_ ?_ ?_ ?_ ?_
          rotate_left 1
          · simp only [List.getElem?_toArray, List.getElem?_cons_succ, List.getElem?_cons_zero]; rfl
          · kernel_rfl
          · kernel_rfl
          · kernel_rfl
          · exact fun _ _ _ h => h
          · exact Or.inr ⟨by kernel_rfl, rfl⟩
          · assumption
          try simp only [Act.put, List.setIfInBounds_toArray, List.set_cons_zero, List.set_cons_succ]
          refine wpAnyH_take (i := 23) (oi := ?_) (v := undef) ?_ ?_ ?_ ?_ ?_ ?_ ?_ ?_
          rotate_left 1
          · simp only [List.getElem?_toArray, List.getElem?_cons_succ, List.getElem?_cons_zero]; rfl
          · kernel_rfl
          · kernel_rfl
          · kernel_rfl
          · exact fun _ _ _ h => h
          · exact Or.inr ⟨by kernel_rfl, rfl⟩
          · assumption
          try simp only [Act.put, List.setIfInBounds_toArray, List.set_cons_zero, List.set_cons_succ]
          refine wpAnyH_take (i := 24) (oi := ?_) (v := undef) ?_ ?_ ?_ ?_ ?_ ?_ ?_ ?_
          rotate_left 1
          · simp only [List.getElem?_toArray, List.getElem?_cons_succ, List.getElem?_cons_zero]; rfl
          · kernel_rfl
          · kernel_rfl
          · kernel_rfl
          · exact fun _ _ _ h => h
          · exact Or.inr ⟨by kernel_rfl, rfl⟩
          · assumption
          try simp only [Act.put, List.setIfInBounds_toArray, List.set_cons_zero, List.set_cons_succ]
          refine wpAnyH_take (i := 25) (oi := ?_) (v := ?_) ?_ ?_ ?_ ?_ ?_ ?_ ?_ ?_
          rotate_left 2
          · simp only [List.getElem?_toArray, List.getElem?_cons_succ, List.getElem?_cons_zero]; rfl
          · kernel_rfl
          · kernel_rfl
          · kernel_rfl
          · exact fun _ _ _ h => h
          · refine Or.inl ⟨by rfl, ?_⟩
            intro w' hSw
            (try dsimp only at hSw)
            go_simp
            all_goals (with_reducible rfl)
          · assumption
          try simp only [Act.put, List.setIfInBounds_toArray, List.set_cons_zero, List.set_cons_succ]
          refine wpAnyH_take (i := 26) (oi := ?_) (v := ?_) ?_ ?_ ?_ ?_ ?_ ?_ ?_ ?_
          rotate_left 2
          · simp only [List.getElem?_toArray, List.getElem?_cons_succ, List.getElem?_cons_zero]; rfl
          · kernel_rfl
          · kernel_rfl
          · kernel_rfl
          · exact fun _ _ _ h => h
          · refine Or.inl ⟨by rfl, ?_⟩
            intro w' hSw
            (try dsimp only at hSw)
            go_simp
            all_goals (with_reducible rfl)
          · assumption
          try simp only [Act.put, List.setIfInBounds_toArray, List.set_cons_zero, List.set_cons_succ]
          refine wpAnyH_done (by kernel_rfl) ?_ _
          go_wp2
          go_ret
          exact ⟨rfl, below_from BZ.out (by assumption)⟩
    · rw [if_pos ⟨htW, by omega⟩] at wc
      rw [show min B (max 0 (L - k)) = 0 by omega] at rc
      have e6 : IntKind.i64.wrap (W - t) = W - t := by rw [IntKind.wrap_i64]; omega
      have eB : (B < 0) = False := eq_false (by omega)
      have J1 := Lib.hid (lift rc)
      have J3 := Lib.hid (lift wc)
      clear rc wc lift e3
      rcases Int.lt_or_eq_of_le (show L - k ≤ 0 by omega) with g | g
      all_goals
        clear hl
        go_upto_region 11 with (fail)
        have y0 : wz.drew.cell? ⟨cb, 0, none⟩ = some (.int .i64 5) := q0
        have y1 : wz.drew.cell? ⟨cb, 1, none⟩ = some (.int .i64 5) := q1
        have y2 : wz.drew.cell? ⟨cb, 2, none⟩ = some (.int .i64 k) := q2
        have y3 : wz.drew.cell? ⟨cb, 3, none⟩ = some (.int .i64 0) := q3
        have y4 : wz.drew.cell? ⟨cb + 1, 0, none⟩ = some (.int .i64 5) := q4
        have y5 : wz.drew.cell? ⟨cb + 1, 1, none⟩ = some (.int .i64 5) := q5
        have y6 : wz.drew.cell? ⟨cb + 1, 2, none⟩ = some (.int .i64 0) := q6
        have y7 : wz.drew.cell? ⟨cb + 1, 3, none⟩ = some (.int .i64 0) := q7
        have y8 : wz.drew.cell? ⟨pb, 0, none⟩ = some (.int .i64 U) := q8
        have y9 : wz.drew.cell? ⟨pb, 1, none⟩ = some (.int .i64 W) := q9
        have y10 : wz.drew.cell? ⟨pb, 2, none⟩ = some (.int .i64 B) := q10
        have y11 : wz.drew.cell? ⟨pb, 3, none⟩ = some (.int .i64 L) := q11
        have y12 : wz.drew.cell? ⟨rb, 0, none⟩ = some (.int .i64 L) := q12
        have y13 : wz.drew.cell? ⟨rb, 1, none⟩ = some (.int .i64 W) := q13
        have y14 : wz.drew.cell? ⟨rb, 2, none⟩ = some (.int .i64 B) := q14
        have yb : Below wz.heap.size wz wz.drew := below_draws (Below.refl _ _) 1
        clear q0 q1 q2 q3 q4 q5 q6 q7 q8 q9 q10 q11 q12 q13 q14
        go_region_held3 (fun w' => w'.cell? ⟨cb, 0, none⟩ = some (.int .i64 5) ∧ w'.cell? ⟨cb, 1, none⟩ = some (.int .i64 5) ∧ w'.cell? ⟨cb, 2, none⟩ = some (.int .i64 k) ∧ w'.cell? ⟨cb, 3, none⟩ = some (.int .i64 0) ∧ w'.cell? ⟨cb + 1, 0, none⟩ = some (.int .i64 5) ∧ w'.cell? ⟨cb + 1, 1, none⟩ = some (.int .i64 5) ∧ w'.cell? ⟨cb + 1, 2, none⟩ = some (.int .i64 0) ∧ w'.cell? ⟨cb + 1, 3, none⟩ = some (.int .i64 0) ∧ w'.cell? ⟨pb, 0, none⟩ = some (.int .i64 U) ∧ w'.cell? ⟨pb, 1, none⟩ = some (.int .i64 W) ∧ w'.cell? ⟨pb, 2, none⟩ = some (.int .i64 B) ∧ w'.cell? ⟨pb, 3, none⟩ = some (.int .i64 L) ∧ w'.cell? ⟨rb, 0, none⟩ = some (.int .i64 L) ∧ w'.cell? ⟨rb, 1, none⟩ = some (.int .i64 W) ∧ w'.cell? ⟨rb, 2, none⟩ = some (.int .i64 B) ∧ Below wz.heap.size wz w') (first | (refine ⟨?_, ?_, ?_, ?_, ?_, ?_, ?_, ?_, ?_, ?_, ?_, ?_, ?_, ?_, ?_, ?_⟩ <;> assumption) | go_keep)
          (first
            | (go_at_call 17; ((with_reducible refine (J1.out _ (by assumption)).mono ?_); rintro e w' ⟨rfl, z0, z1, z2, z3, z4, z5, z6, z7, z8, z9, z10, z11, z12, z13, z14, z⟩)))
        all_goals
          go_upto_region 13 with (fail)
          have hs13 : (fun w' => w'.cell? ⟨cb, 0, none⟩ = some (.int .i64 5) ∧ w'.cell? ⟨cb, 1, none⟩ = some (.int .i64 5) ∧ w'.cell? ⟨cb, 2, none⟩ = some (.int .i64 k) ∧ w'.cell? ⟨cb, 3, none⟩ = some (.int .i64 0) ∧ w'.cell? ⟨cb + 1, 0, none⟩ = some (.int .i64 5) ∧ w'.cell? ⟨cb + 1, 1, none⟩ = some (.int .i64 5) ∧ w'.cell? ⟨cb + 1, 2, none⟩ = some (.int .i64 0) ∧ w'.cell? ⟨cb + 1, 3, none⟩ = some (.int .i64 0) ∧ w'.cell? ⟨pb, 0, none⟩ = some (.int .i64 U) ∧ w'.cell? ⟨pb, 1, none⟩ = some (.int .i64 W) ∧ w'.cell? ⟨pb, 2, none⟩ = some (.int .i64 B) ∧ w'.cell? ⟨pb, 3, none⟩ = some (.int .i64 L) ∧ w'.cell? ⟨rb, 0, none⟩ = some (.int .i64 L) ∧ w'.cell? ⟨rb, 1, none⟩ = some (.int .i64 W) ∧ w'.cell? ⟨rb, 2, none⟩ = some (.int .i64 B) ∧ Below wz.heap.size wz w') w'.drew := ⟨z0, z1, z2, z3, z4, z5, z6, z7, z8, z9, z10, z11, z12, z13, z14, below_draws z 1⟩
          clear y0 y1 y2 y3 y4 y5 y6 y7 y8 y9 y10 y11 y12 y13 y14 yb z0 z1 z2 z3 z4 z5 z6 z7 z8 z9 z10 z11 z12 z13 z14 z
          refine wp_region_held_drew (S := (fun w' => w'.cell? ⟨cb, 0, none⟩ = some (.int .i64 5) ∧ w'.cell? ⟨cb, 1, none⟩ = some (.int .i64 5) ∧ w'.cell? ⟨cb, 2, none⟩ = some (.int .i64 k) ∧ w'.cell? ⟨cb, 3, none⟩ = some (.int .i64 0) ∧ w'.cell? ⟨cb + 1, 0, none⟩ = some (.int .i64 5) ∧ w'.cell? ⟨cb + 1, 1, none⟩ = some (.int .i64 5) ∧ w'.cell? ⟨cb + 1, 2, none⟩ = some (.int .i64 0) ∧ w'.cell? ⟨cb + 1, 3, none⟩ = some (.int .i64 0) ∧ w'.cell? ⟨pb, 0, none⟩ = some (.int .i64 U) ∧ w'.cell? ⟨pb, 1, none⟩ = some (.int .i64 W) ∧ w'.cell? ⟨pb, 2, none⟩ = some (.int .i64 B) ∧ w'.cell? ⟨pb, 3, none⟩ = some (.int .i64 L) ∧ w'.cell? ⟨rb, 0, none⟩ = some (.int .i64 L) ∧ w'.cell? ⟨rb, 1, none⟩ = some (.int .i64 W) ∧ w'.cell? ⟨rb, 2, none⟩ = some (.int .i64 B) ∧ Below wz.heap.size wz w')) (by kernel_rfl) hs13 (fun hHeld => ?_)
          clear hs13
          refine wpAnyH_take (i := 0) (oi := ?_) (v := ?_) ?_ ?_ ?_ ?_ ?_ ?_ ?_ ?_
          rotate_left 2
          · simp only [List.getElem?_toArray, List.getElem?_cons_succ, List.getElem?_cons_zero]; rfl
          · kernel_rfl
          · kernel_rfl
          · kernel_rfl
          · exact fun _ _ _ h => h
          · refine Or.inl ⟨by rfl, ?_⟩
            intro w' hSw
            (try dsimp only at hSw)
            go_simp
            all_goals (with_reducible rfl)
          · assumption
          try simp only [Act.put, List.setIfInBounds_toArray, List.set_cons_zero, List.set_cons_succ]
          refine wpAnyH_take (i := 1) (oi := ?_) (v := ?_) ?_ ?_ ?_ ?_ ?_ ?_ ?_ ?_
          rotate_left 2
          · simp only [List.getElem?_toArray, List.getElem?_cons_succ, List.getElem?_cons_zero]; rfl
          · kernel_rfl
          · kernel_rfl
          · kernel_rfl
          · exact fun _ _ _ h => h
          · refine Or.inl ⟨by rfl, ?_⟩
            intro w' hSw
            (try dsimp only at hSw)
            go_simp
            all_goals (with_reducible rfl)
          · assumption
          try simp only [Act.put, List.setIfInBounds_toArray, List.set_cons_zero, List.set_cons_succ]
          refine wpAnyH_take (i := 2) (oi := ?_) (v := ?_) ?_ ?_ ?_ ?_ ?_ ?_ ?_ ?_
          rotate_left 2
          · simp only [List.getElem?_toArray, List.getElem?_cons_succ, List.getElem?_cons_zero]; rfl
          · kernel_rfl
          · kernel_rfl
          · kernel_rfl
          · exact fun _ _ _ h => h
          · refine Or.inl ⟨by rfl, ?_⟩
            intro w' hSw
            (try dsimp only at hSw)
            go_simp
            all_goals (with_reducible rfl)
          · assumption
          try simp only [Act.put, List.setIfInBounds_toArray, List.set_cons_zero, List.set_cons_succ]
          refine wpAnyH_take (i := 3) (oi := ?_) (v := undef) ?_ ?_ ?_ ?_ ?_ ?_ ?_ ?_
          rotate_left 1
          · simp only [List.getElem?_toArray, List.getElem?_cons_succ, List.getElem?_cons_zero]; rfl
          · kernel_rfl
          · kernel_rfl
          · kernel_rfl
          · exact fun _ _ _ h => h
          · exact Or.inr ⟨by kernel_rfl, rfl⟩
          · assumption
          try simp only [Act.put, List.setIfInBounds_toArray, List.set_cons_zero, List.set_cons_succ]
          refine wpAnyH_take (i := 4) (oi := ?_) (v := undef) ?_ ?_ ?_ ?_ ?_ ?_ ?_ ?_
          rotate_left 1
          · simp only [List.getElem?_toArray, List.getElem?_cons_succ, List.getElem?_cons_zero]; rfl
          · kernel_rfl
          · kernel_rfl
          · kernel_rfl
          · exact fun _ _ _ h => h
          · exact Or.inr ⟨by kernel_rfl, rfl⟩
          · assumption
          try simp only [Act.put, List.setIfInBounds_toArray, List.set_cons_zero, List.set_cons_succ]
          refine wpAnyH_take (i := 5) (oi := ?_) (v := undef) ?_ ?_ ?_ ?_ ?_ ?_ ?_ ?_
          rotate_left 1
          · simp only [List.getElem?_toArray, List.getElem?_cons_succ, List.getElem?_cons_zero]; rfl
          · kernel_rfl
          · kernel_rfl
          · kernel_rfl
          · exact fun _ _ _ h => h
          · exact Or.inr ⟨by kernel_rfl, rfl⟩
          · assumption
          try simp only [Act.put, List.setIfInBounds_toArray, List.set_cons_zero, List.set_cons_succ]
          refine wpAnyH_take (i := 6) (oi := ?_) (v := undef) ?_ ?_ ?_ ?_ ?_ ?_ ?_ ?_
          rotate_left 1
          · simp only [List.getElem?_toArray, List.getElem?_cons_succ, List.getElem?_cons_zero]; rfl
          · kernel_rfl
          · kernel_rfl
          · kernel_rfl
          · exact fun _ _ _ h => h
          · exact Or.inr ⟨by kernel_rfl, rfl⟩
          · assumption
          try simp only [Act.put, List.setIfInBounds_toArray, List.set_cons_zero, List.set_cons_succ]
          refine wpAnyH_take (i := 7) (oi := ?_) (v := undef) ?_ ?_ ?_ ?_ ?_ ?_ ?_ ?_
          rotate_left 1
          · simp only [List.getElem?_toArray, List.getElem?_cons_succ, List.getElem?_cons_zero]; rfl
          · kernel_rfl
          · kernel_rfl
          · kernel_rfl
          · exact fun _ _ _ h => h
          · exact Or.inr ⟨by kernel_rfl, rfl⟩
          · assumption
          try simp only [Act.put, List.setIfInBounds_toArray, List.set_cons_zero, List.set_cons_succ]
          refine wpAnyH_take (i := 8) (oi := ?_) (v := undef) ?_ ?_ ?_ ?_ ?_ ?_ ?_ ?_
          rotate_left 1
          · simp only [List.getElem?_toArray, List.getElem?_cons_succ, List.getElem?_cons_zero]; rfl
          · kernel_rfl
          · kernel_rfl
          · kernel_rfl
          · exact fun _ _ _ h => h
          · exact Or.inr ⟨by kernel_rfl, rfl⟩
          · assumption
          try simp only [Act.put, List.setIfInBounds_toArray, List.set_cons_zero, List.set_cons_succ]
          refine wpAnyH_take (i := 9) (oi := ?_) (v := ?_) ?_ ?_ ?_ ?_ ?_ ?_ ?_ ?_
          rotate_left 2
          · simp only [List.getElem?_toArray, List.getElem?_cons_succ, List.getElem?_cons_zero]; rfl
          · kernel_rfl
          · kernel_rfl
          · kernel_rfl
          · exact fun _ _ _ h => h
          · refine Or.inl ⟨by rfl, ?_⟩
            intro w' hSw
            (try dsimp only at hSw)
            go_simp
            all_goals (with_reducible rfl)
          · assumption
          try simp only [Act.put, List.setIfInBounds_toArray, List.set_cons_zero, List.set_cons_succ]
          refine wpAnyH_take (i := 10) (oi := ?_) (v := ?_) ?_ ?_ ?_ ?_ ?_ ?_ ?_ ?_
          rotate_left 2
          · simp only [List.getElem?_toArray, List.getElem?_cons_succ, List.getElem?_cons_zero]; rfl
          · kernel_rfl
          · kernel_rfl
          · kernel_rfl
          · exact fun _ _ _ h => h
          · refine Or.inl ⟨by rfl, ?_⟩
            intro w' hSw
            (try dsimp only at hSw)
            go_simp
            all_goals (with_reducible rfl)
          · assumption
          try simp only [Act.put, List.setIfInBounds_toArray, List.set_cons_zero, List.set_cons_succ]
          refine wpAnyH_take (i := 11) (oi := ?_) (v := ?_) ?_ ?_ ?_ ?_ ?_ ?_ ?_ ?_
          rotate_left 2
          · simp only [List.getElem?_toArray, List.getElem?_cons_succ, List.getElem?_cons_zero]; rfl
          · kernel_rfl
          · kernel_rfl
          · kernel_rfl
          · exact fun _ _ _ h => h
          · refine Or.inl ⟨by rfl, ?_⟩
            intro w' hSw
            (try dsimp only at hSw)
            go_simp
            all_goals (with_reducible rfl)
          · assumption
          try simp only [Act.put, List.setIfInBounds_toArray, List.set_cons_zero, List.set_cons_succ]
          refine wpAnyH_take (i := 12) (oi := ?_) (v := ?_) ?_ ?_ ?_ ?_ ?_ ?_ ?_ ?_
          rotate_left 2
          · simp only [List.getElem?_toArray, List.getElem?_cons_succ, List.getElem?_cons_zero]; rfl
          · kernel_rfl
          · kernel_rfl
          · kernel_rfl
          · exact fun _ _ _ h => h
          · refine Or.inl ⟨by rfl, ?_⟩
            intro w' hSw
            (try dsimp only at hSw)
            go_simp
            all_goals (with_reducible rfl)
          · assumption
          try simp only [Act.put, List.setIfInBounds_toArray, List.set_cons_zero, List.set_cons_succ]
          refine wpAnyH_take (i := 13) (oi := ?_) (v := ?_) ?_ ?_ ?_ ?_ ?_ ?_ ?_ ?_
          rotate_left 2
          · simp only [List.getElem?_toArray, List.getElem?_cons_succ, List.getElem?_cons_zero]; rfl
          · kernel_rfl
          · kernel_rfl
          · kernel_rfl
          · exact fun _ _ _ h => h
          · refine Or.inl ⟨by rfl, ?_⟩
            intro w' hSw
            (try dsimp only at hSw)
            go_simp
            all_goals (with_reducible rfl)
          · assumption
          try simp only [Act.put, List.setIfInBounds_toArray, List.set_cons_zero, List.set_cons_succ]
          refine wpAnyH_take (i := 14) (oi := ?_) (v := ?_) ?_ ?_ ?_ ?_ ?_ ?_ ?_ ?_
          rotate_left 2
          · simp only [List.getElem?_toArray, List.getElem?_cons_succ, List.getElem?_cons_zero]; rfl
          · kernel_rfl
          · kernel_rfl
          · kernel_rfl
          · exact fun _ _ _ h => h
          · refine Or.inl ⟨by rfl, ?_⟩
            intro w' hSw
            (try dsimp only at hSw)
            go_simp
            all_goals (with_reducible rfl)
          · assumption
          try simp only [Act.put, List.setIfInBounds_toArray, List.set_cons_zero, List.set_cons_succ]
          refine wpAnyH_take (i := 15) (oi := ?_) (v := ?_) ?_ ?_ ?_ ?_ ?_ ?_ ?_ ?_
          rotate_left 2
          · simp only [List.getElem?_toArray, List.getElem?_cons_succ, List.getElem?_cons_zero]; rfl
          · kernel_rfl
          · kernel_rfl
          · kernel_rfl
          · exact fun _ _ _ h => h
          · refine Or.inl ⟨by rfl, ?_⟩
            intro w' hSw
            (try dsimp only at hSw)
            go_simp
            all_goals (with_reducible rfl)
          · assumption
          try simp only [Act.put, List.setIfInBounds_toArray, List.set_cons_zero, List.set_cons_succ]
          refine wpAnyH_take (i := 16) (oi := ?_) (v := ?_) ?_ ?_ ?_ ?_ ?_ ?_ ?_ ?_
          rotate_left 2
          · simp only [List.getElem?_toArray, List.getElem?_cons_succ, List.getElem?_cons_zero]; rfl
          · kernel_rfl
          · kernel_rfl
          · kernel_rfl
          · exact fun _ _ _ h => h
          · refine Or.inl ⟨by rfl, ?_⟩
            intro w' hSw
            (try dsimp only at hSw)
            go_simp
            all_goals (with_reducible rfl)
          · assumption
          try simp only [Act.put, List.setIfInBounds_toArray, List.set_cons_zero, List.set_cons_succ]
          refine wpAnyH_take (i := 17) (oi := ?_) (v := ?_) ?_ ?_ ?_ ?_ ?_ ?_ ?_ ?_
          rotate_left 2
          · simp only [List.getElem?_toArray, List.getElem?_cons_succ, List.getElem?_cons_zero]; rfl
          · kernel_rfl
          · kernel_rfl
          · kernel_rfl
          · exact fun _ _ _ h => h
          · refine Or.inl ⟨by rfl, ?_⟩
            intro w' hSw
            (try dsimp only at hSw)
            go_simp
            all_goals (with_reducible rfl)
          · assumption
          try simp only [Act.put, List.setIfInBounds_toArray, List.set_cons_zero, List.set_cons_succ]
          refine wpAnyH_take (i := 19) (oi := ?_) (v := ?_) ?_ ?_ ?_ ?_ ?_ ?_ ?_ ?_
          rotate_left 2
          · simp only [List.getElem?_toArray, List.getElem?_cons_succ, List.getElem?_cons_zero]; rfl
          · kernel_rfl
          · kernel_rfl
          · kernel_rfl
          · exact fun _ _ _ h => h
          · refine Or.inl ⟨by rfl, ?_⟩
            intro w' hSw
            (try dsimp only at hSw)
            go_simp
            all_goals (with_reducible rfl)
          · assumption
          try simp only [Act.put, List.setIfInBounds_toArray, List.set_cons_zero, List.set_cons_succ]
          refine wpAnyH_take (i := 20) (oi := ?_) (v := ?_) ?_ ?_ ?_ ?_ ?_ ?_ ?_ ?_
          rotate_left 2
          · simp only [List.getElem?_toArray, List.getElem?_cons_succ, List.getElem?_cons_zero]; rfl
          · kernel_rfl
          · kernel_rfl
          · kernel_rfl
          · exact fun _ _ _ h => h
          · refine Or.inl ⟨by rfl, ?_⟩
            intro w' hSw
            (try dsimp only at hSw)
            go_simp
            all_goals (with_reducible rfl)
          · assumption
          try simp only [Act.put, List.setIfInBounds_toArray, List.set_cons_zero, List.set_cons_succ]
          refine wpAnyH_take (i := 21) (oi := ?_) (v := ?_) ?_ ?_ ?_ ?_ ?_ ?_ ?_ ?_
          rotate_left 2
          · simp only [List.getElem?_toArray, List.getElem?_cons_succ, List.getElem?_cons_zero]; rfl
          · kernel_rfl
          · kernel_rfl
          · kernel_rfl
          · exact fun _ _ _ h => h
          · refine Or.inl ⟨by rfl, ?_⟩
            intro w' hSw
            (try dsimp only at hSw)
            go_simp
            all_goals (with_reducible rfl)
          · assumption
          try simp only [Act.put, List.setIfInBounds_toArray, List.set_cons_zero, List.set_cons_succ]
          refine wpAnyH_take (i := 22) (oi := ?_) (v := ?_) ?_ ?_ ?_ ?_ ?_ ?_ ?_ ?_
          rotate_left 2
          · simp only [List.getElem?_toArray, List.getElem?_cons_succ, List.getElem?_cons_zero]; rfl
          · kernel_rfl
          · kernel_rfl
          · kernel_rfl
          · exact fun _ _ _ h => h
          · refine Or.inl ⟨by rfl, ?_⟩
            intro w' hSw
            (try dsimp only at hSw)
            go_simp
            all_goals (with_reducible rfl)
          · assumption
          try simp only [Act.put, List.setIfInBounds_toArray, List.set_cons_zero, List.set_cons_succ]
          refine wpAnyH_ready (rs := [18]) (by kernel_rfl) (by simp) ?_
          refine AllReadyH.cons (o := ?_) ?_ ?_ ?_
          rotate_left 1
          · simp only [List.getElem?_toArray, List.getElem?_cons_succ, List.getElem?_cons_zero]; rfl
          rotate_left 1
          · exact AllReadyH.nil
          intro K hK
          go_simp
          ((go_at_call 19; (with_reducible refine (J3.out _ hHeld.2.2.2.2.2.2.2.2.2.2.2.2.2.2.2).mono ?_); rintro e w9 ⟨rfl, z0, z1, z2, z3, z4, z5, z6, z7, z8, z9, z10, z11, z12, z13, z14, z⟩))
          refine hK.out _ _ ⟨z0, z1, z2, z3, z4, z5, z6, z7, z8, z9, z10, z11, z12, z13, z14, z⟩ (fun hHeld => ?_)
          clear hK K
          try simp only [Act.put, List.setIfInBounds_toArray, List.set_cons_zero, List.set_cons_succ]
          refine wpAnyH_take (i := 23) (oi := ?_) (v := ?_) ?_ ?_ ?_ ?_ ?_ ?_ ?_ ?_
          rotate_left 2
          · simp only [List.getElem?_toArray, List.getElem?_cons_succ, List.getElem?_cons_zero]; rfl
          · kernel_rfl
          · kernel_rfl
          · kernel_rfl
          · exact fun _ _ _ h => h
          · refine Or.inl ⟨by rfl, ?_⟩
            intro w' hSw
            (try dsimp only at hSw)
            go_simp
            all_goals (with_reducible rfl)
          · assumption
          try simp only [Act.put, List.setIfInBounds_toArray, List.set_cons_zero, List.set_cons_succ]
          refine wpAnyH_take (i := 24) (oi := ?_) (v := ?_) ?_ ?_ ?_ ?_ ?_ ?_ ?_ ?_
          rotate_left 2
          · simp only [List.getElem?_toArray, List.getElem?_cons_succ, List.getElem?_cons_zero]; rfl
          · kernel_rfl
          · kernel_rfl
          · kernel_rfl
          · exact fun _ _ _ h => h
          · refine Or.inl ⟨by rfl, ?_⟩
            intro w' hSw
            (try dsimp only at hSw)
            go_simp
            all_goals (with_reducible rfl)
          · assumption
          try simp only [Act.put, List.setIfInBounds_toArray, List.set_cons_zero, List.set_cons_succ]
          refine wpAnyH_take (i := 25) (oi := ?_) (v := ?_) ?_ ?_ ?_ ?_ ?_ ?_ ?_ ?_
          rotate_left 2
          · simp only [List.getElem?_toArray, List.getElem?_cons_succ, List.getElem?_cons_zero]; rfl
          · kernel_rfl
          · kernel_rfl
          · kernel_rfl
          · exact fun _ _ _ h => h
          · refine Or.inl ⟨by rfl, ?_⟩
            intro w' hSw
            (try dsimp only at hSw)
            go_simp
            all_goals (with_reducible rfl)
          · assumption
          try simp only [Act.put, List.setIfInBounds_toArray, List.set_cons_zero, List.set_cons_succ]
          refine wpAnyH_take (i := 26) (oi := ?_) (v := ?_) ?_ ?_ ?_ ?_ ?_ ?_ ?_ ?_
          rotate_left 2
          · simp only [List.getElem?_toArray, List.getElem?_cons_succ, List.getElem?_cons_zero]; rfl
          · kernel_rfl
          · kernel_rfl
          · kernel_rfl
          · exact fun _ _ _ h => h
          · refine Or.inl ⟨by rfl, ?_⟩
            intro w' hSw
            (try dsimp only at hSw)
            go_simp
            all_goals (with_reducible rfl)
          · assumption
          try simp only [Act.put, List.setIfInBounds_toArray, List.set_cons_zero, List.set_cons_succ]
          refine wpAnyH_done (by kernel_rfl) ?_ _
          go_wp2
          go_ret
          exact ⟨rfl, below_from BZ.out (by assumption)⟩
  · rw [if_neg htW] at rc rd
    rw [if_neg (fun h => htW h.1)] at wc
    have t3 : (W ≤ t) = True := eq_true (by omega)
    have J1 := Lib.hid (lift rc)
    have J2 := Lib.hid (lift rd)
    have J3 := Lib.hid (lift wc)
    clear rc rd wc lift e3 htW
    go_upto_region 9 with (fail)
    have y0 : wz.drew.cell? ⟨cb, 0, none⟩ = some (.int .i64 5) := q0
    have y1 : wz.drew.cell? ⟨cb, 1, none⟩ = some (.int .i64 5) := q1
    have y2 : wz.drew.cell? ⟨cb, 2, none⟩ = some (.int .i64 k) := q2
    have y3 : wz.drew.cell? ⟨cb, 3, none⟩ = some (.int .i64 0) := q3
    have y4 : wz.drew.cell? ⟨cb + 1, 0, none⟩ = some (.int .i64 5) := q4
    have y5 : wz.drew.cell? ⟨cb + 1, 1, none⟩ = some (.int .i64 5) := q5
    have y6 : wz.drew.cell? ⟨cb + 1, 2, none⟩ = some (.int .i64 0) := q6
    have y7 : wz.drew.cell? ⟨cb + 1, 3, none⟩ = some (.int .i64 0) := q7
    have y8 : wz.drew.cell? ⟨pb, 0, none⟩ = some (.int .i64 U) := q8
    have y9 : wz.drew.cell? ⟨pb, 1, none⟩ = some (.int .i64 W) := q9
    have y10 : wz.drew.cell? ⟨pb, 2, none⟩ = some (.int .i64 B) := q10
    have y11 : wz.drew.cell? ⟨pb, 3, none⟩ = some (.int .i64 L) := q11
    have y12 : wz.drew.cell? ⟨rb, 0, none⟩ = some (.int .i64 L) := q12
    have y13 : wz.drew.cell? ⟨rb, 1, none⟩ = some (.int .i64 W) := q13
    have y14 : wz.drew.cell? ⟨rb, 2, none⟩ = some (.int .i64 B) := q14
    have yb : Below wz.heap.size wz wz.drew := below_draws (Below.refl _ _) 1
    clear q0 q1 q2 q3 q4 q5 q6 q7 q8 q9 q10 q11 q12 q13 q14
    go_region_held3 (fun w' => w'.cell? ⟨cb, 0, none⟩ = some (.int .i64 5) ∧ w'.cell? ⟨cb, 1, none⟩ = some (.int .i64 5) ∧ w'.cell? ⟨cb, 2, none⟩ = some (.int .i64 k) ∧ w'.cell? ⟨cb, 3, none⟩ = some (.int .i64 0) ∧ w'.cell? ⟨cb + 1, 0, none⟩ = some (.int .i64 5) ∧ w'.cell? ⟨cb + 1, 1, none⟩ = some (.int .i64 5) ∧ w'.cell? ⟨cb + 1, 2, none⟩ = some (.int .i64 0) ∧ w'.cell? ⟨cb + 1, 3, none⟩ = some (.int .i64 0) ∧ w'.cell? ⟨pb, 0, none⟩ = some (.int .i64 U) ∧ w'.cell? ⟨pb, 1, none⟩ = some (.int .i64 W) ∧ w'.cell? ⟨pb, 2, none⟩ = some (.int .i64 B) ∧ w'.cell? ⟨pb, 3, none⟩ = some (.int .i64 L) ∧ w'.cell? ⟨rb, 0, none⟩ = some (.int .i64 L) ∧ w'.cell? ⟨rb, 1, none⟩ = some (.int .i64 W) ∧ w'.cell? ⟨rb, 2, none⟩ = some (.int .i64 B) ∧ Below wz.heap.size wz w') (first | (refine ⟨?_, ?_, ?_, ?_, ?_, ?_, ?_, ?_, ?_, ?_, ?_, ?_, ?_, ?_, ?_, ?_⟩ <;> assumption) | go_keep)
      (first
        | (go_at_call 17; first | ((with_reducible refine (J1.out _ (by assumption)).mono ?_); rintro e w' ⟨rfl, z0, z1, z2, z3, z4, z5, z6, z7, z8, z9, z10, z11, z12, z13, z14, z⟩) | ((with_reducible refine (J2.out _ (by assumption)).mono ?_); rintro e w' ⟨rfl, z0, z1, z2, z3, z4, z5, z6, z7, z8, z9, z10, z11, z12, z13, z14, z⟩))
        | (go_at_call 19; ((with_reducible refine (J3.out _ (by assumption)).mono ?_); rintro e w' ⟨rfl, z0, z1, z2, z3, z4, z5, z6, z7, z8, z9, z10, z11, z12, z13, z14, z⟩)))
    all_goals
      go_wp2
      go_ret
      exact ⟨rfl, below_from BZ.out (by assumption)⟩
end Go.Proofs.Ytfegoehiopkcnaa
