/- The law CellRuns of layer 9 (cell), walked. -/
import Derived.Test.YtfegoehiopkcnaaRt
import Derived.Test.YtfegoehiopkcnaaCellS
import Derived.Test.YtfegoehiopkcnaaLiftS
import Derived.Test.YtfegoehiopkcnaaCellW
import Derived.Test.YtfegoehiopkcnaaCellI
import Derived.Test.YtfegoehiopkcnaaCellF
import Derived.Test.YtfegoehiopkcnaaCellG
import Derived.Test.YtfegoehiopkcnaaHw
import Derived.Test.YtfegoehiopkcnaaRowF
import Derived.Test.YtfegoehiopkcnaaBits
namespace Go.Proofs.Ytfegoehiopkcnaa
set_option linter.unusedSimpArgs false
set_option linter.unusedVariables false
set_option maxRecDepth 100000
open Go.ChangeShapes Go.WideShapes Go.ChangeAt Go.RowKit
open Ar (inR)
def StartP (w : World) (e : Ending) (w' : World) : Prop := ∃ s : Int, (0 ≤ s ∧ s ≤ 4611686018427387903) ∧ e = .returned (.int .i64 s) ∧ w' = w
set_option maxHeartbeats 2000000 in
theorem start_any (n : Int) (hn : inR n) (w : World) : Calls Try.prog 14 #[.int .i64 n] w fun e w' => StartP w e w' := by
  obtain ⟨m, hm⟩ : ∃ z, z = n % 4611686018427387904 := ⟨_, rfl⟩
  have e1 : bits .and .i64 n 4611686018427387903 = m := by rw [hm]; exact i64_mask62 _
  have hmb : 0 ≤ m ∧ m ≤ 4611686018427387903 := by omega
  obtain ⟨a6, ha6⟩ : ∃ z : Nat, (z : Int) = IntKind.u64.wrap n / 288230376151711744 := by
    have h := IntKind.wrap_u64 n
    have h2 : 0 ≤ IntKind.u64.wrap n / 288230376151711744 := by rw [h]; omega
    exact ⟨(IntKind.u64.wrap n / 288230376151711744).toNat, by omega⟩
  have ha64 : a6 < 64 := by
    have h := IntKind.wrap_u64 n
    rw [h] at ha6
    omega
  have e2 : IntKind.u64.wrap n / 288230376151711744 = (a6 : Int) := ha6.symm
  obtain ⟨s6, hs6⟩ : ∃ z : Int, z = (a6 : Int) := ⟨_, rfl⟩
  have e3 : bits .and .u64 (a6 : Int) 63 = s6 := by
    have h := bits_and_u64_nat a6 63 (by omega) (by omega)
    rw [Nat.and_two_pow_sub_one_eq_mod a6 6] at h
    rw [hs6]
    exact h.trans (by rw [Nat.mod_eq_of_lt (by omega)])
  have hsb : 0 ≤ s6 ∧ s6 ≤ 64 := by omega
  clear hm hn ha6 hs6
  go_enter Try.func14, Try.ntmps14
  go_wp2
  go_ret
  have hp : (1 : Int) ≤ 2 ^ s6.toNat := by
    have : (0 : Int) < 2 ^ s6.toNat := Int.pow_pos (by omega)
    omega
  refine ⟨m / 2 ^ s6.toNat, ⟨Int.ediv_nonneg hmb.1 (by omega), ?_⟩, rfl, rfl⟩
  exact Int.le_trans (Int.ediv_le_self _ hmb.1) hmb.2
theorem set4c {w : World} {b : Nat} {t : TypeId} {c0 c1 c2 c3 : Value} (h : Blk w b t #[c0, c1, c2, c3]) (v0 v1 v2 v3 : Value) :
    ∃ w', (((w.setCell ⟨b, 0, none⟩ v0).setCell ⟨b, 1, none⟩ v1).setCell ⟨b, 2, none⟩ v2).setCell ⟨b, 3, none⟩ v3 = w' ∧ Blk w' b t #[v0, v1, v2, v3] ∧ Fr (fun k => k = b) w w' := by
  have hb := lt_of_block h
  refine ⟨_, rfl, ?_, ?_⟩
  · rw [setCell_obj h, setCell_in hb, setCell_in hb, setCell_in hb]
    exact setObj_at hb _
  · rw [setCell_obj h, setCell_in hb, setCell_in hb, setCell_in hb]
    exact Fr.setObj (F := fun k => k = b) (Fr.refl _ _) rfl _
theorem unit_eq {W n : Int} (hW : 1 ≤ W) (hn : 1 ≤ n) : unitZ W n = R9.unit9 W n := by
  unfold unitZ R9.unit9
  rw [if_neg (by omega), Int.tdiv_eq_ediv_of_nonneg (by omega)]
  have h1 : W / n * n + W % n = W := by rw [Int.mul_comm]; exact Int.mul_ediv_add_emod W n
  have h2 := Int.emod_nonneg W (show n ≠ 0 by omega)
  by_cases q : W % n = 0
  · rw [if_pos q, if_neg (by omega)]
  · rw [if_neg q, if_pos (by omega)]
/-- both cells. -/
structure Two (w0 w : World) (cb mb : Nat) (F S C D : Int) : Prop where
  c : CellAt w cb F S C D
  m : R9.CAt w mb F S C D
  f : Fr (fun k => k = cb ∨ k = mb) w0 w
theorem Two.keep {w0 w w' : World} {cb mb : Nat} {F S C D : Int} (h : Two w0 w cb mb F S C D) (hb : Below w.heap.size w w') : Two w0 w' cb mb F S C D := ⟨h.c.below hb, h.m.keep hb, h.f.trans (Fr.of_below hb)⟩
theorem take_two {F S C D U W B L t co : Int} (h : Rng F S C D U W B L t) (hr : R9.Ru U W B L) (hc : R9.Ce F S C D t) :
    ∃ (b : Bool) (F' D' : Int), ((F' = F ∧ D' = D) ∨ (t ≤ F' ∧ F' ≤ t + B * U ∧ D' = D + co ∧ 1 ≤ co ∧ co ≤ B)) ∧
      (∀ w bc, CellAt w bc F S C D → Calls Try.prog 21 #[.pointer (some ⟨bc, 0, none⟩), pv U W B L, .int .i64 t, .int .i64 co] w fun e w' => e = .returned (.bool b) ∧ CellAt w' bc F' S C D' ∧ Fr (fun k => k = bc) w w') ∧
      (∀ w bc, R9.CAt w bc F S C D → Calls Try.prog 22 #[.pointer (some ⟨bc, 0, none⟩), R9.rvV L W B 0 0 0 0 0 false, .int .i64 t, .int .i64 co] w fun e w' => e = .returned (.bool b) ∧ R9.CAt w' bc F' S C D' ∧ Fr (fun k => k = bc) w w') := by
  by_cases hle : 1 ≤ co ∧ co ≤ roomP F S C D U W B L t
  · have l1 := (take_leaves h hle).1
    have h4 : 0 ≤ co * U := Int.mul_nonneg (by omega) (by have := h.U; omega)
    have h5 : roomP F S C D U W B L t ≤ B := room_hi (by have := h.B; omega)
    exact ⟨true, max F t + co * U, D + co, Or.inr ⟨by omega, l1, rfl, hle.1, by omega⟩, fun w bc hca => take_rng_yes h hle w bc hca, fun w bc hca => R9.take_yes 0 0 0 0 0 false hr hc hle.1 hle.2 bc w hca⟩
  · refine ⟨false, F, D, Or.inl ⟨rfl, rfl⟩, fun w bc hca => ?_, fun w bc hca => ?_⟩
    · refine (take_rng_no h (by omega) w bc hca).mono ?_
      rintro e w' ⟨rfl, h1⟩
      exact ⟨rfl, hca.below h1, Fr.of_below h1⟩
    · rcases Int.lt_or_le co 1 with hlo | hlo
      · refine (R9.take_low 0 0 0 0 0 false hlo bc w).mono ?_
        rintro e w' ⟨rfl, h1⟩
        exact ⟨rfl, Blk.keep hca h1, Fr.of_below h1⟩
      · refine (R9.take_no 0 0 0 0 0 false hr hc hlo (show roomP F S C D U W B L t < co by omega) bc w hca).mono ?_
        rintro e w' ⟨rfl, h1⟩
        exact ⟨rfl, Blk.keep hca h1, Fr.of_below h1⟩
set_option maxHeartbeats 16000000 in
theorem cellruns_law (w : World) (pa pb pc b0 b1 : Int) (A : Option Addr) (n cap : Nat) (x y : Nat → Int) (ha : inR pa) (hb : inR pb) (hc : inR pc) (h0 : inR b0) (h1 : inR b1) (hr : RdP w A n cap x y) :
    Calls Try.prog 3 #[.agg #[.int .i64 pa, .int .i64 pb, .int .i64 pc], .agg #[.int .i64 b0, .int .i64 b1], .slice A n cap] w fun e w' => e = .returned (.bool true) ∧ Below w.heap.size w w' := by
  have hmx := hr.max
  unfold maxLen at hmx
  have hcp := hr.cap
  have c0 := fun w => rule_any pa pb pc ha hb hc w
  obtain ⟨f1, f2, f3, f4, f5, f6⟩ := plan_facts pa pb pc
  obtain ⟨L, hL⟩ : ∃ z, z = planL pa := ⟨_, rfl⟩
  obtain ⟨W, hW⟩ : ∃ z, z = planW pb := ⟨_, rfl⟩
  obtain ⟨B, hB⟩ : ∃ z, z = planB pa pc := ⟨_, rfl⟩
  rw [← hL, ← hW, ← hB] at c0
  rw [← hL] at f1 f2 f6
  rw [← hW] at f3 f4
  rw [← hB] at f5 f6
  have c1 := fun w => of_any L W B 0 0 0 0 0 false (by unfold inR; omega) (by unfold inR; omega) (by unfold inR; omega) w
  obtain ⟨u1, u2, u3⟩ := plan_unit ⟨f1, f2⟩ ⟨f3, f4⟩ ⟨f5, f6⟩
  obtain ⟨U, hU⟩ : ∃ z, z = unitZ W (L + 1 - B) := ⟨_, rfl⟩
  rw [← hU] at c1 u1 u2 u3
  have RU := Lib.hid (show R9.Ru U W B L from ⟨by rw [hU]; exact unit_eq f3 (by omega), ⟨f3, by omega⟩, ⟨f5, f6⟩, by omega⟩)
  have C0 := Lib.hid c0
  have C1 := Lib.hid c1
  have CST := Lib.hid (fun wx => start_any b0 h0 wx)
  have HR := Lib.hid hr
  obtain ⟨ca, hca⟩ : ∃ z, z = b1 % 64 := ⟨_, rfl⟩
  have e63 : bits .and .i64 b1 63 = ca := by rw [hca]; exact i64_mask6 _
  have hcab : 0 ≤ ca ∧ ca ≤ 63 := by omega
  have E63 := Lib.hid e63
  clear c0 c1 hL hW hB hU ha hb hc h0 h1 hr u3 hca e63
  obtain ⟨w0, e0, n1, n2, bb0⟩ := two_blk w #[.int .i64 pa, .int .i64 pb, .int .i64 pc] #[.int .i64 b0, .int .i64 b1] 23 24
  have Q0 := Lib.hid (And.intro n1 n2)
  have B0 := Lib.hid bb0
  obtain ⟨ab, hab⟩ : ∃ z, z = w.heap.size + 1 := ⟨_, rfl⟩
  obtain ⟨plb, hplb⟩ : ∃ z, z = w.heap.size := ⟨_, rfl⟩
  have HPB := Lib.hid (And.intro hab hplb)
  rw [← hab, ← hplb] at Q0
  clear n1 n2 bb0 hab hplb
  go_enter Try.func3, Try.ntmps3
  go_upto_region 3 with (go_at_call 11; refine (fit_any _).mono ?_; rintro e w1 ⟨rfl, b1'⟩; have Q1 := Lib.hid (keep2 Q0.out b1'); have B1 := Lib.hid (below_from B0.out b1'); clear b1')
  rw [← HPB.out.1, ← HPB.out.2]
  clear e0
  by_cases hn : 100 < n
  · have t1 : decide ((100 : Int) < (n : Int)) = true := by rw [decide_eq_true_iff]; omega
    clear hn
    go_wp2
    go_ret
    exact ⟨rfl, B1.out⟩
  have t1 : decide ((100 : Int) < (n : Int)) = false := by rw [decide_eq_false_iff_not]; omega
  have hnb : (n : Int) ≤ 100 := by omega
  have q1 := Q1.out.1.rd
  clear hn
  go_upto_region 6 with (go_at_call 12; ((with_reducible refine (C0.out _).mono ?_); rintro e w2 ⟨rfl, b2⟩; have Q2 := Lib.hid (Q1.out.2.keep b2); have B2 := Lib.hid (below_from B1.out b2); clear b2))
  obtain ⟨w2', e2, r2, b2, s2⟩ := box_new w2 #[.int .i64 L, .int .i64 W, .int .i64 B, .int .i64 0, .int .i64 0, .int .i64 0, .int .i64 0, .int .i64 0, .bool false] 28
  rw [e2]
  obtain ⟨rb, hrb⟩ : ∃ z, z = w2.heap.size := ⟨_, rfl⟩
  rw [← hrb] at r2 ⊢
  have R2 := Lib.hid r2
  have Q2' := Lib.hid (Q2.out.keep b2)
  have B2' := Lib.hid (below_from B2.out b2)
  have r2c := r2.rd
  clear e2 r2 b2 s2 hrb q1 t1 C0
  go_upto_region 7 with (go_at_call 13; ((with_reducible refine (C1.out _).mono ?_); rintro e w3 ⟨rfl, b3⟩; have R3 := Lib.hid (R2.out.keep b3); have Q3 := Lib.hid (Q2'.out.keep b3); have B3 := Lib.hid (below_from B2'.out b3); clear b3))
  obtain ⟨w4, e3, p3, b3, s3⟩ := box_new w3 #[.int .i64 U, .int .i64 W, .int .i64 B, .int .i64 L] 31
  rw [e3]
  obtain ⟨pbx, hpb⟩ : ∃ z, z = w3.heap.size := ⟨_, rfl⟩
  rw [← hpb] at p3 ⊢
  have P4 := Lib.hid p3
  have R4 := Lib.hid (R3.out.keep b3)
  have Q4 := Lib.hid (Q3.out.keep b3)
  have B4 := Lib.hid (below_from B3.out b3)
  clear e3 p3 b3 s3 hpb r2c C1
  -- when it begins, and what it carries
  have QD := Lib.hid (show Blk w4.drew ab 24 #[.int .i64 b0, .int .i64 b1] from Q4.out)
  have e63 := E63.out
  have st := QD.out.rd
  refine wp_region_held_drew (S := fun wx => ∀ j, wx.cell? ⟨ab, j, none⟩ = (#[.int .i64 b0, .int .i64 b1] : Array Value)[j]?) (by kernel_rfl) st (fun hHeld => ?_)
  refine wpAnyH_take (i := 0) (oi := ?_) (v := ?_) ?_ ?_ ?_ ?_ ?_ ?_ ?_ ?_
  rotate_left 2
  · simp only [List.getElem?_toArray, List.getElem?_cons_succ, List.getElem?_cons_zero]; rfl
  · kernel_rfl
  · kernel_rfl
  · kernel_rfl
  · exact fun _ _ _ h => h
  · refine Or.inl ⟨by rfl, ?_⟩
    intro w' hSw
    (try dsimp only at hSw)
    go_simp
    all_goals (with_reducible rfl)
  · assumption
  try simp only [Act.put, List.setIfInBounds_toArray, List.set_cons_zero, List.set_cons_succ]
  refine wpAnyH_take (i := 1) (oi := ?_) (v := ?_) ?_ ?_ ?_ ?_ ?_ ?_ ?_ ?_
  rotate_left 2
  · simp only [List.getElem?_toArray, List.getElem?_cons_succ, List.getElem?_cons_zero]; rfl
  · kernel_rfl
  · kernel_rfl
  · kernel_rfl
  · exact fun _ _ _ h => h
  · refine Or.inl ⟨by rfl, ?_⟩
    intro w' hSw
    (try dsimp only at hSw)
    go_simp
    all_goals (with_reducible rfl)
  · assumption
  try simp only [Act.put, List.setIfInBounds_toArray, List.set_cons_zero, List.set_cons_succ]
  refine wpAnyH_take (i := 4) (oi := ?_) (v := ?_) ?_ ?_ ?_ ?_ ?_ ?_ ?_ ?_
  rotate_left 2
  · simp only [List.getElem?_toArray, List.getElem?_cons_succ, List.getElem?_cons_zero]; rfl
  · kernel_rfl
  · kernel_rfl
  · kernel_rfl
  · exact fun _ _ _ h => h
  · refine Or.inl ⟨by rfl, ?_⟩
    intro w' hSw
    (try dsimp only at hSw)
    go_simp
    all_goals (with_reducible rfl)
  · assumption
  try simp only [Act.put, List.setIfInBounds_toArray, List.set_cons_zero, List.set_cons_succ]
  refine wpAnyH_take (i := 5) (oi := ?_) (v := ?_) ?_ ?_ ?_ ?_ ?_ ?_ ?_ ?_
  rotate_left 2
  · simp only [List.getElem?_toArray, List.getElem?_cons_succ, List.getElem?_cons_zero]; rfl
  · kernel_rfl
  · kernel_rfl
  · kernel_rfl
  · exact fun _ _ _ h => h
  · refine Or.inl ⟨by rfl, ?_⟩
    intro w' hSw
    (try dsimp only at hSw)
    go_simp
    all_goals (with_reducible rfl)
  · assumption
  try simp only [Act.put, List.setIfInBounds_toArray, List.set_cons_zero, List.set_cons_succ]
  refine wpAnyH_take (i := 6) (oi := ?_) (v := ?_) ?_ ?_ ?_ ?_ ?_ ?_ ?_ ?_
  rotate_left 2
  · simp only [List.getElem?_toArray, List.getElem?_cons_succ, List.getElem?_cons_zero]; rfl
  · kernel_rfl
  · kernel_rfl
  · kernel_rfl
  · exact fun _ _ _ h => h
  · refine Or.inl ⟨by rfl, ?_⟩
    intro w' hSw
    (try dsimp only at hSw)
    go_simp
    all_goals (with_reducible rfl)
  · assumption
  try simp only [Act.put, List.setIfInBounds_toArray, List.set_cons_zero, List.set_cons_succ]
  refine wpAnyH_ready (rs := [2]) (by kernel_rfl) (by simp) ?_
  refine AllReadyH.cons (o := ?_) ?_ ?_ ?_
  rotate_left 1
  · simp only [List.getElem?_toArray, List.getElem?_cons_succ, List.getElem?_cons_zero]; rfl
  rotate_left 1
  · exact AllReadyH.nil
  intro K hK
  go_simp
  refine (CST.out _).mono ?_; rintro e wz ⟨s0, hs0, rfl, rfl⟩; obtain ⟨n0, hn0⟩ : ∃ z, z = s0 / 2 := ⟨_, rfl⟩; have e5 : s0 / 2 = n0 := hn0.symm; have hn0b : 0 ≤ n0 ∧ n0 ≤ 2305843009213693951 := (by omega); clear hn0
  refine hK.out _ _ st (fun hHeld => ?_)
  clear hK K
  try simp only [Act.put, List.setIfInBounds_toArray, List.set_cons_zero, List.set_cons_succ]
  clear st
  refine wpAnyH_take (i := 3) (oi := ?_) (v := ?_) ?_ ?_ ?_ ?_ ?_ ?_ ?_ ?_
  rotate_left 2
  · simp only [List.getElem?_toArray, List.getElem?_cons_succ, List.getElem?_cons_zero]; rfl
  · kernel_rfl
  · kernel_rfl
  · kernel_rfl
  · exact fun _ _ _ h => h
  · refine Or.inl ⟨by rfl, ?_⟩
    intro w' hSw
    (try dsimp only at hSw)
    go_simp
    all_goals (with_reducible rfl)
  · assumption
  try simp only [Act.put, List.setIfInBounds_toArray, List.set_cons_zero, List.set_cons_succ]
  refine wpAnyH_take (i := 7) (oi := ?_) (v := ?_) ?_ ?_ ?_ ?_ ?_ ?_ ?_ ?_
  rotate_left 2
  · simp only [List.getElem?_toArray, List.getElem?_cons_succ, List.getElem?_cons_zero]; rfl
  · kernel_rfl
  · kernel_rfl
  · kernel_rfl
  · exact fun _ _ _ h => h
  · refine Or.inl ⟨by rfl, ?_⟩
    intro w' hSw
    (try dsimp only at hSw)
    go_simp
    all_goals (with_reducible rfl)
  · assumption
  try simp only [Act.put, List.setIfInBounds_toArray, List.set_cons_zero, List.set_cons_succ]
  refine wpAnyH_take (i := 8) (oi := ?_) (v := ?_) ?_ ?_ ?_ ?_ ?_ ?_ ?_ ?_
  rotate_left 2
  · simp only [List.getElem?_toArray, List.getElem?_cons_succ, List.getElem?_cons_zero]; rfl
  · kernel_rfl
  · kernel_rfl
  · kernel_rfl
  · exact fun _ _ _ h => h
  · refine Or.inl ⟨by rfl, ?_⟩
    intro w' hSw
    (try dsimp only at hSw)
    go_simp
    all_goals (with_reducible rfl)
  · assumption
  try simp only [Act.put, List.setIfInBounds_toArray, List.set_cons_zero, List.set_cons_succ]
  refine wpAnyH_done (by kernel_rfl) ?_ _
  clear hHeld e63 e5 hs0 CST
  have c2 := fun w => new_any n0 ca w
  have C2 := Lib.hid c2
  clear c2
  go_outline
  go_upto_region 9 with (go_at_call 15; ((with_reducible refine (C2.out _).mono ?_); rintro e w5 ⟨rfl, b5⟩; have P5 := Lib.hid (P4.out.drew.keep b5); have R5 := Lib.hid (R4.out.drew.keep b5); have B5 := Lib.hid (below_from (below_draws B4.out 1) b5); clear b5))
  obtain ⟨w6, e6, k6, l6, b6⟩ := two_blk w5 #[.int .i64 n0, .int .i64 n0, .int .i64 ca, .int .i64 0] #[.int .i64 n0, .int .i64 n0, .int .i64 ca, .int .i64 0] 36 38
  rw [e6]
  obtain ⟨cb, hcb⟩ : ∃ z, z = w5.heap.size := ⟨_, rfl⟩
  obtain ⟨mb, hmb⟩ : ∃ z, z = cb + 1 := ⟨_, rfl⟩
  rw [← hcb] at k6 l6 ⊢
  rw [← hmb] at l6 ⊢
  have P6 := Lib.hid (P5.out.keep b6)
  have R6 := Lib.hid (R5.out.keep b6)
  have B6 := Lib.hid (below_from B5.out b6)
  have T6 := Lib.hid (show Two w6 w6 cb mb n0 n0 ca 0 from ⟨k6, l6, Fr.refl _ _⟩)
  have NE := Lib.hid (show (pbx ≠ cb ∧ pbx ≠ mb) ∧ (rb ≠ cb ∧ rb ≠ mb) ∧ cb ≠ mb from by have := lt_of_block P5.out; have := lt_of_block R5.out; omega)
  have HLB := Lib.hid (show w.heap.size ≤ cb ∧ w.heap.size ≤ mb from by have := B5.out.size; omega)
  clear e6 k6 l6 b6 hcb hmb C2 P4 R4 P5 R5 B4 B5 Q4 QD B3 B2' B2 B1 B0 Q0 Q1 Q2 Q2' Q3 R3 R2
  have hbu : 0 ≤ B * U ∧ B * U ≤ 8192 := ⟨Int.mul_nonneg (by omega) (by omega), Int.mul_le_mul (by omega : B ≤ 32) u2 (by omega) (by omega)⟩
  go_wp2
  go_loopg [9, 41] n (fun k now si wr => ∃ (i : Nat) (t F D : Int), i ≤ n ∧ k = n - i ∧ si = .int .i64 (i : Int) ∧ now = .int .i64 t ∧ (n0 ≤ t ∧ t ≤ n0 + 4095 * i) ∧ (0 ≤ F ∧ F ≤ t + B * U) ∧ (0 ≤ D ∧ D ≤ 32 * i) ∧ Two w6 wr cb mb F n0 ca D)
  case atStart => exact ⟨0, n0, n0, 0, by omega, by omega, rfl, rfl, by omega, by omega, by omega, T6.out⟩
  case round =>
    obtain ⟨i, t, F, D, hi, hkk, rfl, rfl, ht, hF, hD, htw⟩ := hrel
    have HK := Lib.hid hkk
    have HTW := Lib.hid htw
    have HQ := Lib.hid (show Blk wr rb _ _ ∧ Blk wr pbx _ _ from ⟨R6.out.fr htw.f (by have := NE.out; omega), P6.out.fr htw.f (by have := NE.out; omega)⟩)
    have HB := Lib.hid (B6.out.trans (htw.f.below B6.out.size (fun k hk => by have := HLB.out; rcases hk with rfl | rfl <;> omega)))
    clear hkk htw
    by_cases hin : i < n
    · obtain ⟨bs, off, rfl, hlt, hcs⟩ := HR.out.at_ (by omega)
      obtain ⟨g0, g1⟩ := hcs i hin
      have hbx := HR.out.bx i hin
      have hby := HR.out.by_ i hin
      obtain ⟨xi, hxi⟩ : ∃ z, z = x i := ⟨_, rfl⟩
      obtain ⟨yi, hyi⟩ : ∃ z, z = y i := ⟨_, rfl⟩
      rw [← hxi] at g0 hbx
      rw [← hyi] at g1 hby
      have q0 : wr.cell? ⟨bs, off + i * 2, none⟩ = some (.int .i64 xi) := (HB.out.cell (p := ⟨bs, off + i * 2, none⟩) hlt).trans g0
      have q1 : wr.cell? ⟨bs, off + i * 2 + 1, none⟩ = some (.int .i64 yi) := (HB.out.cell (p := ⟨bs, off + i * 2 + 1, none⟩) hlt).trans g1
      clear g0 g1 hcs hxi hyi
      have hji : (i : Int) < (n : Int) := by omega
      go_upto_region 12 with (fail)
      obtain ⟨w7, e7, k7, b7, s7⟩ := box_new wr #[.int .i64 xi, .int .i64 yi] 40
      rw [e7]
      generalize wr.heap.size = kb at k7 ⊢
      have Q7 := Lib.hid (And.intro k7 (keep2 HQ.out b7))
      have T7 := Lib.hid (HTW.out.keep b7)
      have B7 := Lib.hid (below_from HB.out b7)
      have k7r := Q7.out.1.rd
      have r7r := Q7.out.2.1.rd
      clear e7 b7 s7 q0 q1 k7
      have hg := gap_bd xi
      have cg := fun w => gap_any xi w
      obtain ⟨g, hge⟩ : ∃ g, g = gapZ xi := ⟨_, rfl⟩
      rw [← hge] at cg hg
      obtain ⟨t', ht'⟩ : ∃ z, z = t + g := ⟨_, rfl⟩
      have rng : Rng F n0 ca D U W B L t' := ⟨by omega, by omega, by omega, by omega, by omega, by omega, by omega, by omega, by omega⟩
      have ce : R9.Ce F n0 ca D t' := ⟨by omega, by omega, by omega, by omega, by omega⟩
      obtain ⟨m, hm⟩ : ∃ z, z = yi % 32 := ⟨_, rfl⟩
      have e1 : bits .and .i64 yi 31 = m := by rw [hm]; exact i64_mask5 _
      have hmb : 0 ≤ m ∧ m ≤ 31 := by omega
      obtain ⟨r, hrm⟩ : ∃ z, z = m % B := ⟨_, rfl⟩
      have hrb : 0 ≤ r ∧ r < B := by rw [hrm]; exact ⟨Int.emod_nonneg _ (by omega), Int.emod_lt_of_pos _ (by omega)⟩
      obtain ⟨co, hco⟩ : ∃ z, z = r + 1 := ⟨_, rfl⟩
      have hcob : 1 ≤ co ∧ co ≤ B := by omega
      have hti : t' ≤ 2305843009214693951 := by omega
      have htj : 0 ≤ t' := by omega
      have et : t + g = t' := ht'.symm
      have er : m % B = r := hrm.symm
      have eco : r + 1 = co := hco.symm
      have CG := Lib.hid cg
      have cr1 := fun w => room_rng rng w
      have cr2 := fun w => R9.room_any 0 0 0 0 0 false RU.out ce w
      have cw1 := fun w => wait_rng rng hcob w
      have cw2 := fun w => R9.wait_any 0 0 0 0 0 false RU.out ce hcob w
      rw [show R9.room F n0 ca D U W B L t' = roomP F n0 ca D U W B L t' from rfl] at cr2
      rw [show R9.wait F n0 ca D U W B L t' co = waitP F n0 ca D U W B L t' co from rfl] at cw2
      obtain ⟨R, hR⟩ : ∃ z, z = roomP F n0 ca D U W B L t' := ⟨_, rfl⟩
      rw [← hR] at cr1 cr2
      obtain ⟨V, hV⟩ : ∃ z, z = waitP F n0 ca D U W B L t' co := ⟨_, rfl⟩
      rw [← hV] at cw1 cw2
      have CR1 := Lib.hid cr1
      have CR2 := Lib.hid cr2
      have CW1 := Lib.hid cw1
      have CW2 := Lib.hid cw2
      have RNG := Lib.hid rng
      have CE := Lib.hid ce
      have NT := Lib.hid (show (n0 ≤ t' ∧ t' ≤ n0 + 4095 * ((i : Int) + 1)) ∧ (0 ≤ F ∧ F ≤ t' + B * U) ∧ (0 ≤ D ∧ D ≤ 32 * (i : Int)) from by omega)
      clear cg cr1 cr2 cw1 cw2 rng ce hR hV hge ht' hm hrm hco ht hF hD
      go_upto_region 14 with (first
        | (go_at_call 16; ((with_reducible refine (CG.out _).mono ?_); rintro e w8 ⟨rfl, rfl⟩)))
      clear hg et e1 er eco hmb hrb k7r r7r
      have ST := Lib.hid (show (∀ Wo, Below w7.heap.size w7 Wo → (fun wx : World => (∀ j, wx.cell? ⟨cb, j, none⟩ = (#[.int .i64 F, .int .i64 n0, .int .i64 ca, .int .i64 D] : Array Value)[j]?) ∧ (∀ j, wx.cell? ⟨mb, j, none⟩ = (#[.int .i64 F, .int .i64 n0, .int .i64 ca, .int .i64 D] : Array Value)[j]?) ∧ (∀ j, wx.cell? ⟨pbx, j, none⟩ = (#[.int .i64 U, .int .i64 W, .int .i64 B, .int .i64 L] : Array Value)[j]?) ∧ (∀ j, wx.cell? ⟨rb, j, none⟩ = (#[.int .i64 L, .int .i64 W, .int .i64 B, .int .i64 0, .int .i64 0, .int .i64 0, .int .i64 0, .int .i64 0, .bool false] : Array Value)[j]?)) Wo) from fun Wo hW => ⟨(Blk.keep (show Blk w7 cb _ _ from T7.out.c) hW).rd, (Blk.keep (show Blk w7 mb _ _ from T7.out.m) hW).rd, (Q7.out.2.2.keep hW).rd, (Q7.out.2.1.keep hW).rd⟩)
      have BN := Lib.hid (show Below w7.heap.size w7 w7.drew from below_draws (Below.refl _ _) 1)
      refine wp_region_held_drew (S := (fun wx : World => (∀ j, wx.cell? ⟨cb, j, none⟩ = (#[.int .i64 F, .int .i64 n0, .int .i64 ca, .int .i64 D] : Array Value)[j]?) ∧ (∀ j, wx.cell? ⟨mb, j, none⟩ = (#[.int .i64 F, .int .i64 n0, .int .i64 ca, .int .i64 D] : Array Value)[j]?) ∧ (∀ j, wx.cell? ⟨pbx, j, none⟩ = (#[.int .i64 U, .int .i64 W, .int .i64 B, .int .i64 L] : Array Value)[j]?) ∧ (∀ j, wx.cell? ⟨rb, j, none⟩ = (#[.int .i64 L, .int .i64 W, .int .i64 B, .int .i64 0, .int .i64 0, .int .i64 0, .int .i64 0, .int .i64 0, .bool false] : Array Value)[j]?))) (by kernel_rfl) (ST.out _ BN.out) (fun hHeld => ?_)
      refine wpAnyH_take (i := 0) (oi := ?_) (v := ?_) ?_ ?_ ?_ ?_ ?_ ?_ ?_ ?_
      rotate_left 2
      · simp only [List.getElem?_toArray, List.getElem?_cons_succ, List.getElem?_cons_zero]; rfl
      · kernel_rfl
      · kernel_rfl
      · kernel_rfl
      · exact fun _ _ _ h => h
      · refine Or.inl ⟨by rfl, ?_⟩
        intro w' hSw
        (try dsimp only at hSw)
        go_simp
        all_goals (with_reducible rfl)
      · assumption
      try simp only [Act.put, List.setIfInBounds_toArray, List.set_cons_zero, List.set_cons_succ]
      refine wpAnyH_take (i := 1) (oi := ?_) (v := ?_) ?_ ?_ ?_ ?_ ?_ ?_ ?_ ?_
      rotate_left 2
      · simp only [List.getElem?_toArray, List.getElem?_cons_succ, List.getElem?_cons_zero]; rfl
      · kernel_rfl
      · kernel_rfl
      · kernel_rfl
      · exact fun _ _ _ h => h
      · refine Or.inl ⟨by rfl, ?_⟩
        intro w' hSw
        (try dsimp only at hSw)
        go_simp
        all_goals (with_reducible rfl)
      · assumption
      try simp only [Act.put, List.setIfInBounds_toArray, List.set_cons_zero, List.set_cons_succ]
      refine wpAnyH_take (i := 2) (oi := ?_) (v := ?_) ?_ ?_ ?_ ?_ ?_ ?_ ?_ ?_
      rotate_left 2
      · simp only [List.getElem?_toArray, List.getElem?_cons_succ, List.getElem?_cons_zero]; rfl
      · kernel_rfl
      · kernel_rfl
      · kernel_rfl
      · exact fun _ _ _ h => h
      · refine Or.inl ⟨by rfl, ?_⟩
        intro w' hSw
        (try dsimp only at hSw)
        go_simp
        all_goals (with_reducible rfl)
      · assumption
      try simp only [Act.put, List.setIfInBounds_toArray, List.set_cons_zero, List.set_cons_succ]
      refine wpAnyH_take (i := 4) (oi := ?_) (v := ?_) ?_ ?_ ?_ ?_ ?_ ?_ ?_ ?_
      rotate_left 2
      · simp only [List.getElem?_toArray, List.getElem?_cons_succ, List.getElem?_cons_zero]; rfl
      · kernel_rfl
      · kernel_rfl
      · kernel_rfl
      · exact fun _ _ _ h => h
      · refine Or.inl ⟨by rfl, ?_⟩
        intro w' hSw
        (try dsimp only at hSw)
        go_simp
        all_goals (with_reducible rfl)
      · assumption
      try simp only [Act.put, List.setIfInBounds_toArray, List.set_cons_zero, List.set_cons_succ]
      refine wpAnyH_take (i := 5) (oi := ?_) (v := ?_) ?_ ?_ ?_ ?_ ?_ ?_ ?_ ?_
      rotate_left 2
      · simp only [List.getElem?_toArray, List.getElem?_cons_succ, List.getElem?_cons_zero]; rfl
      · kernel_rfl
      · kernel_rfl
      · kernel_rfl
      · exact fun _ _ _ h => h
      · refine Or.inl ⟨by rfl, ?_⟩
        intro w' hSw
        (try dsimp only at hSw)
        go_simp
        all_goals (with_reducible rfl)
      · assumption
      try simp only [Act.put, List.setIfInBounds_toArray, List.set_cons_zero, List.set_cons_succ]
      refine wpAnyH_take (i := 6) (oi := ?_) (v := ?_) ?_ ?_ ?_ ?_ ?_ ?_ ?_ ?_
      rotate_left 2
      · simp only [List.getElem?_toArray, List.getElem?_cons_succ, List.getElem?_cons_zero]; rfl
      · kernel_rfl
      · kernel_rfl
      · kernel_rfl
      · exact fun _ _ _ h => h
      · refine Or.inl ⟨by rfl, ?_⟩
        intro w' hSw
        (try dsimp only at hSw)
        go_simp
        all_goals (with_reducible rfl)
      · assumption
      try simp only [Act.put, List.setIfInBounds_toArray, List.set_cons_zero, List.set_cons_succ]
      refine wpAnyH_ready (rs := [3]) (by kernel_rfl) (by simp) ?_
      refine AllReadyH.cons (o := ?_) ?_ ?_ ?_
      rotate_left 1
      · simp only [List.getElem?_toArray, List.getElem?_cons_succ, List.getElem?_cons_zero]; rfl
      rotate_left 1
      · exact AllReadyH.nil
      intro K hK
      go_simp
      ((with_reducible refine (CR1.out _).mono ?_); rintro e w9 ⟨rfl, be⟩; have M3 := Lib.hid (G.below_on BN.out be); clear be)
      refine hK.out _ _ (ST.out _ M3.out) (fun hHeld => ?_)
      clear hK K
      try simp only [Act.put, List.setIfInBounds_toArray, List.set_cons_zero, List.set_cons_succ]
      refine wpAnyH_ready (rs := [7]) (by kernel_rfl) (by simp) ?_
      refine AllReadyH.cons (o := ?_) ?_ ?_ ?_
      rotate_left 1
      · simp only [List.getElem?_toArray, List.getElem?_cons_succ, List.getElem?_cons_zero]; rfl
      rotate_left 1
      · exact AllReadyH.nil
      intro K hK
      go_simp
      ((with_reducible refine (CR2.out _).mono ?_); rintro e w10 ⟨rfl, be⟩; have M7 := Lib.hid (G.below_on M3.out be); clear be)
      refine hK.out _ _ (ST.out _ M7.out) (fun hHeld => ?_)
      clear hK K
      try simp only [Act.put, List.setIfInBounds_toArray, List.set_cons_zero, List.set_cons_succ]
      refine wpAnyH_take (i := 8) (oi := ?_) (v := ?_) ?_ ?_ ?_ ?_ ?_ ?_ ?_ ?_
      rotate_left 2
      · simp only [List.getElem?_toArray, List.getElem?_cons_succ, List.getElem?_cons_zero]; rfl
      · kernel_rfl
      · kernel_rfl
      · kernel_rfl
      · exact fun _ _ _ h => h
      · refine Or.inl ⟨by rfl, ?_⟩
        intro w' hSw
        (try dsimp only at hSw)
        go_simp
        all_goals (with_reducible rfl)
      · assumption
      try simp only [Act.put, List.setIfInBounds_toArray, List.set_cons_zero, List.set_cons_succ]
      refine wpAnyH_take (i := 9) (oi := ?_) (v := ?_) ?_ ?_ ?_ ?_ ?_ ?_ ?_ ?_
      rotate_left 2
      · simp only [List.getElem?_toArray, List.getElem?_cons_succ, List.getElem?_cons_zero]; rfl
      · kernel_rfl
      · kernel_rfl
      · kernel_rfl
      · exact fun _ _ _ h => h
      · refine Or.inl ⟨by rfl, ?_⟩
        intro w' hSw
        (try dsimp only at hSw)
        go_simp
        all_goals (with_reducible rfl)
      · assumption
      try simp only [Act.put, List.setIfInBounds_toArray, List.set_cons_zero, List.set_cons_succ]
      refine wpAnyH_take (i := 10) (oi := ?_) (v := ?_) ?_ ?_ ?_ ?_ ?_ ?_ ?_ ?_
      rotate_left 2
      · simp only [List.getElem?_toArray, List.getElem?_cons_succ, List.getElem?_cons_zero]; rfl
      · kernel_rfl
      · kernel_rfl
      · kernel_rfl
      · exact fun _ _ _ h => h
      · refine Or.inl ⟨by rfl, ?_⟩
        intro w' hSw
        (try dsimp only at hSw)
        go_simp
        all_goals (with_reducible rfl)
      · assumption
      try simp only [Act.put, List.setIfInBounds_toArray, List.set_cons_zero, List.set_cons_succ]
      refine wpAnyH_take (i := 11) (oi := ?_) (v := ?_) ?_ ?_ ?_ ?_ ?_ ?_ ?_ ?_
      rotate_left 2
      · simp only [List.getElem?_toArray, List.getElem?_cons_succ, List.getElem?_cons_zero]; rfl
      · kernel_rfl
      · kernel_rfl
      · kernel_rfl
      · exact fun _ _ _ h => h
      · refine Or.inl ⟨by rfl, ?_⟩
        intro w' hSw
        (try dsimp only at hSw)
        go_simp
        all_goals (with_reducible rfl)
      · assumption
      try simp only [Act.put, List.setIfInBounds_toArray, List.set_cons_zero, List.set_cons_succ]
      refine wpAnyH_take (i := 12) (oi := ?_) (v := ?_) ?_ ?_ ?_ ?_ ?_ ?_ ?_ ?_
      rotate_left 2
      · simp only [List.getElem?_toArray, List.getElem?_cons_succ, List.getElem?_cons_zero]; rfl
      · kernel_rfl
      · kernel_rfl
      · kernel_rfl
      · exact fun _ _ _ h => h
      · refine Or.inl ⟨by rfl, ?_⟩
        intro w' hSw
        (try dsimp only at hSw)
        go_simp
        all_goals (with_reducible rfl)
      · assumption
      try simp only [Act.put, List.setIfInBounds_toArray, List.set_cons_zero, List.set_cons_succ]
      refine wpAnyH_take (i := 13) (oi := ?_) (v := ?_) ?_ ?_ ?_ ?_ ?_ ?_ ?_ ?_
      rotate_left 2
      · simp only [List.getElem?_toArray, List.getElem?_cons_succ, List.getElem?_cons_zero]; rfl
      · kernel_rfl
      · kernel_rfl
      · kernel_rfl
      · exact fun _ _ _ h => h
      · refine Or.inl ⟨by rfl, ?_⟩
        intro w' hSw
        (try dsimp only at hSw)
        go_simp
        all_goals (with_reducible rfl)
      · assumption
      try simp only [Act.put, List.setIfInBounds_toArray, List.set_cons_zero, List.set_cons_succ]
      refine wpAnyH_take (i := 15) (oi := ?_) (v := ?_) ?_ ?_ ?_ ?_ ?_ ?_ ?_ ?_
      rotate_left 2
      · simp only [List.getElem?_toArray, List.getElem?_cons_succ, List.getElem?_cons_zero]; rfl
      · kernel_rfl
      · kernel_rfl
      · kernel_rfl
      · exact fun _ _ _ h => h
      · refine Or.inl ⟨by rfl, ?_⟩
        intro w' hSw
        (try dsimp only at hSw)
        go_simp
        all_goals (with_reducible rfl)
      · assumption
      try simp only [Act.put, List.setIfInBounds_toArray, List.set_cons_zero, List.set_cons_succ]
      refine wpAnyH_take (i := 16) (oi := ?_) (v := ?_) ?_ ?_ ?_ ?_ ?_ ?_ ?_ ?_
      rotate_left 2
      · simp only [List.getElem?_toArray, List.getElem?_cons_succ, List.getElem?_cons_zero]; rfl
      · kernel_rfl
      · kernel_rfl
      · kernel_rfl
      · exact fun _ _ _ h => h
      · refine Or.inl ⟨by rfl, ?_⟩
        intro w' hSw
        (try dsimp only at hSw)
        go_simp
        all_goals (with_reducible rfl)
      · assumption
      try simp only [Act.put, List.setIfInBounds_toArray, List.set_cons_zero, List.set_cons_succ]
      refine wpAnyH_take (i := 17) (oi := ?_) (v := ?_) ?_ ?_ ?_ ?_ ?_ ?_ ?_ ?_
      rotate_left 2
      · simp only [List.getElem?_toArray, List.getElem?_cons_succ, List.getElem?_cons_zero]; rfl
      · kernel_rfl
      · kernel_rfl
      · kernel_rfl
      · exact fun _ _ _ h => h
      · refine Or.inl ⟨by rfl, ?_⟩
        intro w' hSw
        (try dsimp only at hSw)
        go_simp
        all_goals (with_reducible rfl)
      · assumption
      try simp only [Act.put, List.setIfInBounds_toArray, List.set_cons_zero, List.set_cons_succ]
      refine wpAnyH_take (i := 18) (oi := ?_) (v := ?_) ?_ ?_ ?_ ?_ ?_ ?_ ?_ ?_
      rotate_left 2
      · simp only [List.getElem?_toArray, List.getElem?_cons_succ, List.getElem?_cons_zero]; rfl
      · kernel_rfl
      · kernel_rfl
      · kernel_rfl
      · exact fun _ _ _ h => h
      · refine Or.inl ⟨by rfl, ?_⟩
        intro w' hSw
        (try dsimp only at hSw)
        go_simp
        all_goals (with_reducible rfl)
      · assumption
      try simp only [Act.put, List.setIfInBounds_toArray, List.set_cons_zero, List.set_cons_succ]
      refine wpAnyH_ready (rs := [14]) (by kernel_rfl) (by simp) ?_
      refine AllReadyH.cons (o := ?_) ?_ ?_ ?_
      rotate_left 1
      · simp only [List.getElem?_toArray, List.getElem?_cons_succ, List.getElem?_cons_zero]; rfl
      rotate_left 1
      · exact AllReadyH.nil
      intro K hK
      go_simp
      ((with_reducible refine (CW1.out _).mono ?_); rintro e w11 ⟨rfl, be⟩; have M14 := Lib.hid (G.below_on M7.out be); clear be)
      refine hK.out _ _ (ST.out _ M14.out) (fun hHeld => ?_)
      clear hK K
      try simp only [Act.put, List.setIfInBounds_toArray, List.set_cons_zero, List.set_cons_succ]
      refine wpAnyH_ready (rs := [19]) (by kernel_rfl) (by simp) ?_
      refine AllReadyH.cons (o := ?_) ?_ ?_ ?_
      rotate_left 1
      · simp only [List.getElem?_toArray, List.getElem?_cons_succ, List.getElem?_cons_zero]; rfl
      rotate_left 1
      · exact AllReadyH.nil
      intro K hK
      go_simp
      ((with_reducible refine (CW2.out _).mono ?_); rintro e w12 ⟨rfl, be⟩; have M19 := Lib.hid (G.below_on M14.out be); clear be)
      refine hK.out _ _ (ST.out _ M19.out) (fun hHeld => ?_)
      clear hK K
      try simp only [Act.put, List.setIfInBounds_toArray, List.set_cons_zero, List.set_cons_succ]
      refine wpAnyH_take (i := 20) (oi := ?_) (v := ?_) ?_ ?_ ?_ ?_ ?_ ?_ ?_ ?_
      rotate_left 2
      · simp only [List.getElem?_toArray, List.getElem?_cons_succ, List.getElem?_cons_zero]; rfl
      · kernel_rfl
      · kernel_rfl
      · kernel_rfl
      · exact fun _ _ _ h => h
      · refine Or.inl ⟨by rfl, ?_⟩
        intro w' hSw
        (try dsimp only at hSw)
        go_simp
        all_goals (with_reducible rfl)
      · assumption
      try simp only [Act.put, List.setIfInBounds_toArray, List.set_cons_zero, List.set_cons_succ]
      refine wpAnyH_take (i := 21) (oi := ?_) (v := ?_) ?_ ?_ ?_ ?_ ?_ ?_ ?_ ?_
      rotate_left 2
      · simp only [List.getElem?_toArray, List.getElem?_cons_succ, List.getElem?_cons_zero]; rfl
      · kernel_rfl
      · kernel_rfl
      · kernel_rfl
      · exact fun _ _ _ h => h
      · refine Or.inl ⟨by rfl, ?_⟩
        intro w' hSw
        (try dsimp only at hSw)
        go_simp
        all_goals (with_reducible rfl)
      · assumption
      try simp only [Act.put, List.setIfInBounds_toArray, List.set_cons_zero, List.set_cons_succ]
      refine wpAnyH_done (by kernel_rfl) ?_ _
      clear hHeld
      have k12 := (Q7.out.1.keep M19.out).rd
      have c12 := (show Blk w12 cb _ _ from T7.out.c.below M19.out)
      have m12 := (show Blk w12 mb _ _ from Blk.keep T7.out.m M19.out)
      have HC := Lib.hid (And.intro c12 m12)
      have F12 := Lib.hid (T7.out.f.trans (Fr.of_below M19.out))
      have Q12 := Lib.hid (keep3 Q7.out M19.out)
      clear c12 m12 CR1 CR2 CW1 CW2 ST BN M3 M7 M14
      have tq : ∀ (cc : Int), cc = yi ∨ cc = co → ∃ (b : Bool) (F' D' : Int), ((n0 ≤ t' ∧ t' ≤ n0 + 4095 * ((i : Int) + 1)) ∧ (0 ≤ F' ∧ F' ≤ t' + B * U) ∧ (0 ≤ D' ∧ D' ≤ 32 * ((i : Int) + 1))) ∧
          (∀ w bc, CellAt w bc F n0 ca D → Calls Try.prog 21 #[.pointer (some ⟨bc, 0, none⟩), pv U W B L, .int .i64 t', .int .i64 cc] w fun e w' => e = .returned (.bool b) ∧ CellAt w' bc F' n0 ca D' ∧ Fr (fun k => k = bc) w w') ∧
          (∀ w bc, R9.CAt w bc F n0 ca D → Calls Try.prog 22 #[.pointer (some ⟨bc, 0, none⟩), R9.rvV L W B 0 0 0 0 0 false, .int .i64 t', .int .i64 cc] w fun e w' => e = .returned (.bool b) ∧ R9.CAt w' bc F' n0 ca D' ∧ Fr (fun k => k = bc) w w') := fun cc _ => by
        obtain ⟨b, F', D', hl, h1, h2⟩ := take_two (co := cc) RNG.out RU.out CE.out
        refine ⟨b, F', D', ?_, h1, h2⟩
        have nt := NT.out
        rcases hl with ⟨rfl, rfl⟩ | ⟨l1, l2, rfl, l3, l4⟩ <;> omega
      have hyd : decide (yi < 0) = true ∨ decide (yi < 0) = false := by cases decide (yi < 0) <;> simp
      rcases hyd with hyd | hyd
      focus
        obtain ⟨tb, F', D', nx, ct1, ct2⟩ := tq yi (Or.inl rfl)
        have NX := Lib.hid nx
        have CT1 := Lib.hid ct1
        have CT2 := Lib.hid ct2
        clear nx ct1 ct2 tq
        go_upto_region 18 with (fail)
      rotate_left
      focus
        obtain ⟨tb, F', D', nx, ct1, ct2⟩ := tq co (Or.inr rfl)
        have NX := Lib.hid nx
        have CT1 := Lib.hid ct1
        have CT2 := Lib.hid ct2
        clear nx ct1 ct2 tq
        go_upto_region 18 with (fail)
      rotate_left
      all_goals
        clear k12 hyd
        refine wp_region_held_drew (S := (fun wx : World => (∀ j, wx.cell? ⟨pbx, j, none⟩ = (#[.int .i64 U, .int .i64 W, .int .i64 B, .int .i64 L] : Array Value)[j]?) ∧ (∀ j, wx.cell? ⟨rb, j, none⟩ = (#[.int .i64 L, .int .i64 W, .int .i64 B, .int .i64 0, .int .i64 0, .int .i64 0, .int .i64 0, .int .i64 0, .bool false] : Array Value)[j]?))) (by kernel_rfl) ⟨(Q12.out.2.2.drew).rd, (Q12.out.2.1.drew).rd⟩ (fun hHeld => ?_)
        refine wpAnyH_take (i := 0) (oi := ?_) (v := ?_) ?_ ?_ ?_ ?_ ?_ ?_ ?_ ?_
        rotate_left 2
        · simp only [List.getElem?_toArray, List.getElem?_cons_succ, List.getElem?_cons_zero]; rfl
        · kernel_rfl
        · kernel_rfl
        · kernel_rfl
        · exact fun _ _ _ h => h
        · refine Or.inl ⟨by rfl, ?_⟩
          intro w' hSw
          (try dsimp only at hSw)
          go_simp
          all_goals (with_reducible rfl)
        · assumption
        try simp only [Act.put, List.setIfInBounds_toArray, List.set_cons_zero, List.set_cons_succ]
        refine wpAnyH_take (i := 1) (oi := ?_) (v := ?_) ?_ ?_ ?_ ?_ ?_ ?_ ?_ ?_
        rotate_left 2
        · simp only [List.getElem?_toArray, List.getElem?_cons_succ, List.getElem?_cons_zero]; rfl
        · kernel_rfl
        · kernel_rfl
        · kernel_rfl
        · exact fun _ _ _ h => h
        · refine Or.inl ⟨by rfl, ?_⟩
          intro w' hSw
          (try dsimp only at hSw)
          go_simp
          all_goals (with_reducible rfl)
        · assumption
        try simp only [Act.put, List.setIfInBounds_toArray, List.set_cons_zero, List.set_cons_succ]
        refine wpAnyH_take (i := 2) (oi := ?_) (v := ?_) ?_ ?_ ?_ ?_ ?_ ?_ ?_ ?_
        rotate_left 2
        · simp only [List.getElem?_toArray, List.getElem?_cons_succ, List.getElem?_cons_zero]; rfl
        · kernel_rfl
        · kernel_rfl
        · kernel_rfl
        · exact fun _ _ _ h => h
        · refine Or.inl ⟨by rfl, ?_⟩
          intro w' hSw
          (try dsimp only at hSw)
          go_simp
          all_goals (with_reducible rfl)
        · assumption
        try simp only [Act.put, List.setIfInBounds_toArray, List.set_cons_zero, List.set_cons_succ]
        refine wpAnyH_take (i := 4) (oi := ?_) (v := ?_) ?_ ?_ ?_ ?_ ?_ ?_ ?_ ?_
        rotate_left 2
        · simp only [List.getElem?_toArray, List.getElem?_cons_succ, List.getElem?_cons_zero]; rfl
        · kernel_rfl
        · kernel_rfl
        · kernel_rfl
        · exact fun _ _ _ h => h
        · refine Or.inl ⟨by rfl, ?_⟩
          intro w' hSw
          (try dsimp only at hSw)
          go_simp
          all_goals (with_reducible rfl)
        · assumption
        try simp only [Act.put, List.setIfInBounds_toArray, List.set_cons_zero, List.set_cons_succ]
        refine wpAnyH_take (i := 5) (oi := ?_) (v := ?_) ?_ ?_ ?_ ?_ ?_ ?_ ?_ ?_
        rotate_left 2
        · simp only [List.getElem?_toArray, List.getElem?_cons_succ, List.getElem?_cons_zero]; rfl
        · kernel_rfl
        · kernel_rfl
        · kernel_rfl
        · exact fun _ _ _ h => h
        · refine Or.inl ⟨by rfl, ?_⟩
          intro w' hSw
          (try dsimp only at hSw)
          go_simp
          all_goals (with_reducible rfl)
        · assumption
        try simp only [Act.put, List.setIfInBounds_toArray, List.set_cons_zero, List.set_cons_succ]
        refine wpAnyH_take (i := 6) (oi := ?_) (v := ?_) ?_ ?_ ?_ ?_ ?_ ?_ ?_ ?_
        rotate_left 2
        · simp only [List.getElem?_toArray, List.getElem?_cons_succ, List.getElem?_cons_zero]; rfl
        · kernel_rfl
        · kernel_rfl
        · kernel_rfl
        · exact fun _ _ _ h => h
        · refine Or.inl ⟨by rfl, ?_⟩
          intro w' hSw
          (try dsimp only at hSw)
          go_simp
          all_goals (with_reducible rfl)
        · assumption
        try simp only [Act.put, List.setIfInBounds_toArray, List.set_cons_zero, List.set_cons_succ]
        refine wpAnyH_ready (rs := [3]) (by kernel_rfl) (by simp) ?_
        refine AllReadyH.cons (o := ?_) ?_ ?_ ?_
        rotate_left 1
        · simp only [List.getElem?_toArray, List.getElem?_cons_succ, List.getElem?_cons_zero]; rfl
        rotate_left 1
        · exact AllReadyH.nil
        intro K hK
        go_simp
        ((with_reducible refine (CT1.out _ cb (cellAt_of (Blk.drew HC.out.1))).mono ?_); rintro e w13 ⟨rfl, h13, f13⟩; have C13 := Lib.hid h13; have G13 := Lib.hid ((Fr.refl (fun k => k = cb) w12).drew.trans f13); have N13 := Lib.hid (show Blk w13 rb _ _ ∧ Blk w13 pbx _ _ from ⟨Q12.out.2.1.fr G13.out NE.out.2.1.1, Q12.out.2.2.fr G13.out NE.out.1.1⟩); have M13 := Lib.hid (show R9.CAt w13 mb F n0 ca D from HC.out.2.fr G13.out (Ne.symm NE.out.2.2)); clear h13 f13)
        refine hK.out _ _ ⟨(N13.out.2).rd, (N13.out.1).rd⟩ (fun hHeld => ?_)
        clear hK K
        try simp only [Act.put, List.setIfInBounds_toArray, List.set_cons_zero, List.set_cons_succ]
        refine wpAnyH_ready (rs := [7]) (by kernel_rfl) (by simp) ?_
        refine AllReadyH.cons (o := ?_) ?_ ?_ ?_
        rotate_left 1
        · simp only [List.getElem?_toArray, List.getElem?_cons_succ, List.getElem?_cons_zero]; rfl
        rotate_left 1
        · exact AllReadyH.nil
        intro K hK
        go_simp
        ((with_reducible refine (CT2.out _ mb M13.out).mono ?_); rintro e w14 ⟨rfl, h14, f14⟩; have M14 := Lib.hid h14; have G14 := Lib.hid f14; have N14 := Lib.hid (show Blk w14 rb _ _ ∧ Blk w14 pbx _ _ from ⟨N13.out.1.fr f14 NE.out.2.1.2, N13.out.2.fr f14 NE.out.1.2⟩); have C14 := Lib.hid (show Blk w14 cb _ _ from Blk.fr (show Blk w13 cb _ _ from C13.out) f14 NE.out.2.2); clear h14 f14)
        refine hK.out _ _ ⟨(N14.out.2).rd, (N14.out.1).rd⟩ (fun hHeld => ?_)
        clear hK K
        try simp only [Act.put, List.setIfInBounds_toArray, List.set_cons_zero, List.set_cons_succ]
        refine held_more (fun wx : World => ((∀ j, wx.cell? ⟨pbx, j, none⟩ = (#[.int .i64 U, .int .i64 W, .int .i64 B, .int .i64 L] : Array Value)[j]?) ∧ (∀ j, wx.cell? ⟨rb, j, none⟩ = (#[.int .i64 L, .int .i64 W, .int .i64 B, .int .i64 0, .int .i64 0, .int .i64 0, .int .i64 0, .int .i64 0, .bool false] : Array Value)[j]?)) ∧ (∀ j, wx.cell? ⟨cb, j, none⟩ = (#[.int .i64 F', .int .i64 n0, .int .i64 ca, .int .i64 D'] : Array Value)[j]?) ∧ (∀ j, wx.cell? ⟨mb, j, none⟩ = (#[.int .i64 F', .int .i64 n0, .int .i64 ca, .int .i64 D'] : Array Value)[j]?)) (fun _ h => h.1) _ _ _ _ ?_
        clear hHeld
        have hHeld : (fun wx : World => ((∀ j, wx.cell? ⟨pbx, j, none⟩ = (#[.int .i64 U, .int .i64 W, .int .i64 B, .int .i64 L] : Array Value)[j]?) ∧ (∀ j, wx.cell? ⟨rb, j, none⟩ = (#[.int .i64 L, .int .i64 W, .int .i64 B, .int .i64 0, .int .i64 0, .int .i64 0, .int .i64 0, .int .i64 0, .bool false] : Array Value)[j]?)) ∧ (∀ j, wx.cell? ⟨cb, j, none⟩ = (#[.int .i64 F', .int .i64 n0, .int .i64 ca, .int .i64 D'] : Array Value)[j]?) ∧ (∀ j, wx.cell? ⟨mb, j, none⟩ = (#[.int .i64 F', .int .i64 n0, .int .i64 ca, .int .i64 D'] : Array Value)[j]?)) w14 := ⟨⟨(N14.out.2).rd, (N14.out.1).rd⟩, C14.out.rd, M14.out.rd⟩
        refine wpAnyH_take (i := 8) (oi := ?_) (v := ?_) ?_ ?_ ?_ ?_ ?_ ?_ ?_ ?_
        rotate_left 2
        · simp only [List.getElem?_toArray, List.getElem?_cons_succ, List.getElem?_cons_zero]; rfl
        · kernel_rfl
        · kernel_rfl
        · kernel_rfl
        · exact fun _ _ _ h => h
        · refine Or.inl ⟨by rfl, ?_⟩
          intro w' hSw
          (try dsimp only at hSw)
          go_simp
          all_goals (with_reducible rfl)
        · assumption
        try simp only [Act.put, List.setIfInBounds_toArray, List.set_cons_zero, List.set_cons_succ]
        refine wpAnyH_take (i := 9) (oi := ?_) (v := ?_) ?_ ?_ ?_ ?_ ?_ ?_ ?_ ?_
        rotate_left 2
        · simp only [List.getElem?_toArray, List.getElem?_cons_succ, List.getElem?_cons_zero]; rfl
        · kernel_rfl
        · kernel_rfl
        · kernel_rfl
        · exact fun _ _ _ h => h
        · refine Or.inl ⟨by rfl, ?_⟩
          intro w' hSw
          (try dsimp only at hSw)
          go_simp
          all_goals (with_reducible rfl)
        · assumption
        try simp only [Act.put, List.setIfInBounds_toArray, List.set_cons_zero, List.set_cons_succ]
        refine wpAnyH_take (i := 10) (oi := ?_) (v := ?_) ?_ ?_ ?_ ?_ ?_ ?_ ?_ ?_
        rotate_left 2
        · simp only [List.getElem?_toArray, List.getElem?_cons_succ, List.getElem?_cons_zero]; rfl
        · kernel_rfl
        · kernel_rfl
        · kernel_rfl
        · exact fun _ _ _ h => h
        · refine Or.inl ⟨by rfl, ?_⟩
          intro w' hSw
          (try dsimp only at hSw)
          go_simp
          all_goals (with_reducible rfl)
        · assumption
        try simp only [Act.put, List.setIfInBounds_toArray, List.set_cons_zero, List.set_cons_succ]
        refine wpAnyH_take (i := 11) (oi := ?_) (v := ?_) ?_ ?_ ?_ ?_ ?_ ?_ ?_ ?_
        rotate_left 2
        · simp only [List.getElem?_toArray, List.getElem?_cons_succ, List.getElem?_cons_zero]; rfl
        · kernel_rfl
        · kernel_rfl
        · kernel_rfl
        · exact fun _ _ _ h => h
        · refine Or.inl ⟨by rfl, ?_⟩
          intro w' hSw
          (try dsimp only at hSw)
          go_simp
          all_goals (with_reducible rfl)
        · assumption
        try simp only [Act.put, List.setIfInBounds_toArray, List.set_cons_zero, List.set_cons_succ]
        refine wpAnyH_take (i := 12) (oi := ?_) (v := ?_) ?_ ?_ ?_ ?_ ?_ ?_ ?_ ?_
        rotate_left 2
        · simp only [List.getElem?_toArray, List.getElem?_cons_succ, List.getElem?_cons_zero]; rfl
        · kernel_rfl
        · kernel_rfl
        · kernel_rfl
        · exact fun _ _ _ h => h
        · refine Or.inl ⟨by rfl, ?_⟩
          intro w' hSw
          (try dsimp only at hSw)
          go_simp
          all_goals (with_reducible rfl)
        · assumption
        try simp only [Act.put, List.setIfInBounds_toArray, List.set_cons_zero, List.set_cons_succ]
        refine wpAnyH_take (i := 13) (oi := ?_) (v := ?_) ?_ ?_ ?_ ?_ ?_ ?_ ?_ ?_
        rotate_left 2
        · simp only [List.getElem?_toArray, List.getElem?_cons_succ, List.getElem?_cons_zero]; rfl
        · kernel_rfl
        · kernel_rfl
        · kernel_rfl
        · exact fun _ _ _ h => h
        · refine Or.inl ⟨by rfl, ?_⟩
          intro w' hSw
          (try dsimp only at hSw)
          go_simp
          all_goals (with_reducible rfl)
        · assumption
        try simp only [Act.put, List.setIfInBounds_toArray, List.set_cons_zero, List.set_cons_succ]
        refine wpAnyH_take (i := 14) (oi := ?_) (v := ?_) ?_ ?_ ?_ ?_ ?_ ?_ ?_ ?_
        rotate_left 2
        · simp only [List.getElem?_toArray, List.getElem?_cons_succ, List.getElem?_cons_zero]; rfl
        · kernel_rfl
        · kernel_rfl
        · kernel_rfl
        · exact fun _ _ _ h => h
        · refine Or.inl ⟨by rfl, ?_⟩
          intro w' hSw
          (try dsimp only at hSw)
          go_simp
          all_goals (with_reducible rfl)
        · assumption
        try simp only [Act.put, List.setIfInBounds_toArray, List.set_cons_zero, List.set_cons_succ]
        refine wpAnyH_take (i := 15) (oi := ?_) (v := ?_) ?_ ?_ ?_ ?_ ?_ ?_ ?_ ?_
        rotate_left 2
        · simp only [List.getElem?_toArray, List.getElem?_cons_succ, List.getElem?_cons_zero]; rfl
        · kernel_rfl
        · kernel_rfl
        · kernel_rfl
        · exact fun _ _ _ h => h
        · refine Or.inl ⟨by rfl, ?_⟩
          intro w' hSw
          (try dsimp only at hSw)
          go_simp
          all_goals (with_reducible rfl)
        · assumption
        try simp only [Act.put, List.setIfInBounds_toArray, List.set_cons_zero, List.set_cons_succ]
        refine wpAnyH_take (i := 16) (oi := ?_) (v := ?_) ?_ ?_ ?_ ?_ ?_ ?_ ?_ ?_
        rotate_left 2
        · simp only [List.getElem?_toArray, List.getElem?_cons_succ, List.getElem?_cons_zero]; rfl
        · kernel_rfl
        · kernel_rfl
        · kernel_rfl
        · exact fun _ _ _ h => h
        · refine Or.inl ⟨by rfl, ?_⟩
          intro w' hSw
          (try dsimp only at hSw)
          go_simp
          all_goals (with_reducible rfl)
        · assumption
        try simp only [Act.put, List.setIfInBounds_toArray, List.set_cons_zero, List.set_cons_succ]
        refine wpAnyH_take (i := 17) (oi := ?_) (v := ?_) ?_ ?_ ?_ ?_ ?_ ?_ ?_ ?_
        rotate_left 2
        · simp only [List.getElem?_toArray, List.getElem?_cons_succ, List.getElem?_cons_zero]; rfl
        · kernel_rfl
        · kernel_rfl
        · kernel_rfl
        · exact fun _ _ _ h => h
        · refine Or.inl ⟨by rfl, ?_⟩
          intro w' hSw
          (try dsimp only at hSw)
          go_simp
          all_goals (with_reducible rfl)
        · assumption
        try simp only [Act.put, List.setIfInBounds_toArray, List.set_cons_zero, List.set_cons_succ]
        refine wpAnyH_take (i := 18) (oi := ?_) (v := ?_) ?_ ?_ ?_ ?_ ?_ ?_ ?_ ?_
        rotate_left 2
        · simp only [List.getElem?_toArray, List.getElem?_cons_succ, List.getElem?_cons_zero]; rfl
        · kernel_rfl
        · kernel_rfl
        · kernel_rfl
        · exact fun _ _ _ h => h
        · refine Or.inl ⟨by rfl, ?_⟩
          intro w' hSw
          (try dsimp only at hSw)
          go_simp
          all_goals (with_reducible rfl)
        · assumption
        try simp only [Act.put, List.setIfInBounds_toArray, List.set_cons_zero, List.set_cons_succ]
        refine wpAnyH_take (i := 19) (oi := ?_) (v := ?_) ?_ ?_ ?_ ?_ ?_ ?_ ?_ ?_
        rotate_left 2
        · simp only [List.getElem?_toArray, List.getElem?_cons_succ, List.getElem?_cons_zero]; rfl
        · kernel_rfl
        · kernel_rfl
        · kernel_rfl
        · exact fun _ _ _ h => h
        · refine Or.inl ⟨by rfl, ?_⟩
          intro w' hSw
          (try dsimp only at hSw)
          go_simp
          all_goals (with_reducible rfl)
        · assumption
        try simp only [Act.put, List.setIfInBounds_toArray, List.set_cons_zero, List.set_cons_succ]
        refine wpAnyH_take (i := 20) (oi := ?_) (v := ?_) ?_ ?_ ?_ ?_ ?_ ?_ ?_ ?_
        rotate_left 2
        · simp only [List.getElem?_toArray, List.getElem?_cons_succ, List.getElem?_cons_zero]; rfl
        · kernel_rfl
        · kernel_rfl
        · kernel_rfl
        · exact fun _ _ _ h => h
        · refine Or.inl ⟨by rfl, ?_⟩
          intro w' hSw
          (try dsimp only at hSw)
          go_simp
          all_goals (with_reducible rfl)
        · assumption
        try simp only [Act.put, List.setIfInBounds_toArray, List.set_cons_zero, List.set_cons_succ]
        refine wpAnyH_take (i := 21) (oi := ?_) (v := ?_) ?_ ?_ ?_ ?_ ?_ ?_ ?_ ?_
        rotate_left 2
        · simp only [List.getElem?_toArray, List.getElem?_cons_succ, List.getElem?_cons_zero]; rfl
        · kernel_rfl
        · kernel_rfl
        · kernel_rfl
        · exact fun _ _ _ h => h
        · refine Or.inl ⟨by rfl, ?_⟩
          intro w' hSw
          (try dsimp only at hSw)
          go_simp
          all_goals (with_reducible rfl)
        · assumption
        try simp only [Act.put, List.setIfInBounds_toArray, List.set_cons_zero, List.set_cons_succ]
        refine wpAnyH_take (i := 22) (oi := ?_) (v := ?_) ?_ ?_ ?_ ?_ ?_ ?_ ?_ ?_
        rotate_left 2
        · simp only [List.getElem?_toArray, List.getElem?_cons_succ, List.getElem?_cons_zero]; rfl
        · kernel_rfl
        · kernel_rfl
        · kernel_rfl
        · exact fun _ _ _ h => h
        · refine Or.inl ⟨by rfl, ?_⟩
          intro w' hSw
          (try dsimp only at hSw)
          go_simp
          all_goals (with_reducible rfl)
        · assumption
        try simp only [Act.put, List.setIfInBounds_toArray, List.set_cons_zero, List.set_cons_succ]
        refine wpAnyH_done (by kernel_rfl) ?_ _
        clear hHeld
        go_wp2
        go_roundg (n - (i + 1))
        case measure => have := HK.out; omega
        case rel =>
          have nx := NX.out
          refine ⟨i + 1, t', F', D', by omega, by omega, by go_num, rfl, by omega, by omega, by omega, C14.out, M14.out, ?_⟩
          exact F12.out.trans ((G13.out.mono (fun k h => Or.inl h)).trans (G14.out.mono (fun k h => Or.inr h)))
    · have hie : i = n := by omega
      subst hie
      go_wp2
      go_ret
      exact ⟨rfl, HB.out⟩
end Go.Proofs.Ytfegoehiopkcnaa
