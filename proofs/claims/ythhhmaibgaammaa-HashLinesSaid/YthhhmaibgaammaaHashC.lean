/- The law HashLines of layer 3 (hash), walked. -/
import Derived.Test.YthhhmaibgaammaaRMul
namespace Go.Proofs.Ythhhmaibgaammaa
open Go.ChangeShapes Go.WideShapes Go.ChangeAt Go.RowKit

theorem hof_line (X A B : Nat) (l : List UInt8) : Ha.hof X A B l = (Ha.hof X 1 0 l * A % 2305843009213693951 + B) % 2305843009213693951 := by
  have h0 : (l.length + 1) % 2305843009213693951 < 2305843009213693951 := Nat.mod_lt _ (by omega)
  have p := Ha.poly_lt X l.length ((l.length + 1) % 2305843009213693951) l (Nat.le_refl _) h0
  unfold Ha.hof
  simp only [Nat.mul_one, Nat.add_zero, Nat.mod_eq_of_lt p]
set_option maxHeartbeats 1000000 in
set_option maxRecDepth 100000 in
theorem lines_law (w : World) (x a b : Nat) (s : ByteArray) (hx : x < 18446744073709551616) (ha : a < 18446744073709551616) (hb : b < 18446744073709551616) (hs : s.size ≤ maxLen) :
    Calls Try.prog 5 #[.int .u64 x, .agg #[.int .u64 a, .int .u64 b], .string s] w fun e w' => e = .returned (.bool true) ∧ Below w.heap.size w w' := by
  unfold maxLen at hs
  by_cases h1 : 200 < s.size
  · have t1 : decide ((200 : Int) < (s.size : Int)) = true := by rw [decide_eq_true_eq]; omega
    clear h1
    go_enter Try.func5, Try.ntmps5
    go_wp2_with (first | (go_at_call 7; refine (fit_any _).mono ?_; rintro e w1 ⟨rfl, b1⟩; have B1 := Lib.hid (Below.trans ((Below.refl w.heap.size w).alloc (Nat.le_refl _) _) (b1.mono (by simp))); clear b1))
    go_ret
    exact ⟨rfl, B1.out⟩
  have t1 : decide ((200 : Int) < (s.size : Int)) = false := by rw [decide_eq_false_iff_not]; omega
  obtain ⟨X0, hX0⟩ : ∃ z, z = x % 2305843009213693950 := ⟨_, rfl⟩
  obtain ⟨A0, hA0⟩ : ∃ z, z = a % 2305843009213693950 := ⟨_, rfl⟩
  obtain ⟨B, hB0⟩ : ∃ z, z = b % 2305843009213693951 := ⟨_, rfl⟩
  have e1 : (x : Int) % 2305843009213693950 = (X0 : Int) := by omega
  have e2 : (a : Int) % 2305843009213693950 = (A0 : Int) := by omega
  have e3 : (b : Int) % 2305843009213693951 = (B : Int) := by omega
  obtain ⟨X, hX1⟩ : ∃ z, z = X0 + 1 := ⟨_, rfl⟩
  obtain ⟨A, hA1⟩ : ∃ z, z = A0 + 1 := ⟨_, rfl⟩
  have e4 : (X0 : Int) + 1 = (X : Int) := by omega
  have e5 : (A0 : Int) + 1 = (A : Int) := by omega
  have hX : X < 2305843009213693951 := by omega
  have hA : A < 2305843009213693951 := by omega
  have hB : B < 2305843009213693951 := by omega
  have hX0b : X0 < 2305843009213693950 := by omega
  have hA0b : A0 < 2305843009213693950 := by omega
  have ln := hof_line X A B s.data.toList
  have g1 := Ha.hof_lt X A B s.data.toList
  have g2 := Ha.hof_lt X 1 0 s.data.toList
  have d1 := fun w => rowof_any X A B hX hA hB s (by unfold maxLen; exact hs) w
  have d2 : ∀ w, Calls Try.prog 10 #[.agg #[.int .u64 X, .int .u64 1, .int .u64 0], .string s] w fun e w' => e = .returned (.int .u64 (Ha.hof X 1 0 s.data.toList : Nat)) ∧ Below w.heap.size w w' := fun w => rowof_any X 1 0 hX (by omega) (by omega) s (by unfold maxLen; exact hs) w
  have d3 := fun w => bucket_any X A B hX hA hB s (by unfold maxLen; exact hs) 100 (by omega) w
  have d4 := fun w => bucket_any X A B hX hA hB s (by unfold maxLen; exact hs) 1 (by omega) w
  obtain ⟨hS, hh⟩ : ∃ z, z = Ha.hof X A B s.data.toList := ⟨_, rfl⟩
  obtain ⟨hR, hh2⟩ : ∃ z, z = Ha.hof X 1 0 s.data.toList := ⟨_, rfl⟩
  rw [← hh] at d1 d3 d4 ln g1
  rw [← hh2] at d2 ln g2
  have d5 := fun w => rmul_any hR A g2 (by omega) w
  obtain ⟨m, hm⟩ : ∃ z, z = hR * A % 2305843009213693951 := ⟨_, rfl⟩
  rw [← hm] at d5 ln
  have hml : m < 2305843009213693951 := by rw [hm]; exact Nat.mod_lt _ (by omega)
  have e6 : ((m : Int) + (B : Int)) % 2305843009213693951 = (hS : Int) := by omega
  have e6' : ((m : Int) + (B : Int)).tmod 2305843009213693951 = (hS : Int) := by rw [Int.tmod_eq_emod_of_nonneg (by omega)]; exact e6
  have e7 : IntKind.u64.wrap ((m : Int) + (B : Int)) = (m : Int) + (B : Int) := by rw [IntKind.wrap_u64]; omega
  have d6 := fun w => place_any hS 100 (by omega) (by omega) w
  obtain ⟨pl, hpl⟩ : ∃ z, z = plc hS 100 := ⟨_, rfl⟩
  rw [← hpl] at d3 d6
  have h0 : plc hS 1 = 0 := by have := plc_lt hS (show (1 : Int) ≤ 1 by omega); omega
  rw [h0] at d4
  have d4 : ∀ w, Calls Try.prog 12 #[.agg #[.int .u64 X, .int .u64 A, .int .u64 B], .string s, .int .i64 1] w fun e w' => e = .returned (.int .i64 0) ∧ Below w.heap.size w w' := d4
  clear h1 hX0 hA0 hB0 hX1 hA1 hh hh2 hm hpl h0 ln
  go_enter Try.func5, Try.ntmps5
  have D1 := Lib.hid d1
  have D2 := Lib.hid d2
  have D3 := Lib.hid d3
  have D4 := Lib.hid d4
  have D5 := Lib.hid d5
  have D6 := Lib.hid d6
  clear d1 d2 d3 d4 d5 d6
  go_upto_region 6 with (first | (go_at_call 7; refine (fit_any _).mono ?_; rintro e w1 ⟨rfl, b1⟩; have g0 : w1.cell? ⟨w.heap.size, 0, none⟩ = some (.int .u64 (a : Int)) := (b1.cell (lt_of_cell (cell_at (heap_alloc_new w _)))).trans (cell_at (heap_alloc_new w _)); have g1 : w1.cell? ⟨w.heap.size, 1, none⟩ = some (.int .u64 (b : Int)) := (b1.cell (lt_of_cell (cell_at (heap_alloc_new w _)))).trans (cell_at (heap_alloc_new w _)); have B1 := Lib.hid (Below.trans ((Below.refl w.heap.size w).alloc (Nat.le_refl _) _) (b1.mono (by simp))); clear b1))
  have n0 := heap_alloc_new w1 (.cells #[.int .u64 (X : Int), .int .u64 1, .int .u64 0] 30)
  have nb : Below w1.heap.size w1 (w1.alloc (.cells #[.int .u64 (X : Int), .int .u64 1, .int .u64 0] 30)) := (Below.refl _ _).alloc (Nat.le_refl _) _
  have gg0 := (nb.cell (lt_of_cell g0)).trans g0
  have gg1 := (nb.cell (lt_of_cell g1)).trans g1
  have b2 := B1.out.trans (nb.mono B1.out.size)
  generalize w1.alloc (.cells #[.int .u64 (X : Int), .int .u64 1, .int .u64 0] 30) = wr at n0 gg0 gg1 b2 ⊢
  clear g0 g1 nb B1
  generalize w1.heap.size = rb at n0 ⊢
  generalize w.heap.size = lb at gg0 gg1 ⊢
  have r0 : wr.cell? ⟨rb, 0, none⟩ = some (.int .u64 (X : Int)) := cell_at n0
  have r1 : wr.cell? ⟨rb, 1, none⟩ = some (.int .u64 1) := cell_at n0
  have r2 : wr.cell? ⟨rb, 2, none⟩ = some (.int .u64 0) := cell_at n0
  have B2 := Lib.hid b2
  clear n0 b2
  go_upto_region 7 with (fail)
  have s0 := heap_alloc_new wr (.cells #[.int .u64 (X : Int), .int .u64 (A : Int), .int .u64 (B : Int)] 30)
  have sb : Below wr.heap.size wr (wr.alloc (.cells #[.int .u64 (X : Int), .int .u64 (A : Int), .int .u64 (B : Int)] 30)) := (Below.refl _ _).alloc (Nat.le_refl _) _
  have rr0 := (sb.cell (lt_of_cell r0)).trans r0
  have rr1 := (sb.cell (lt_of_cell r1)).trans r1
  have rr2 := (sb.cell (lt_of_cell r2)).trans r2
  have b3 := B2.out.trans (sb.mono B2.out.size)
  generalize wr.alloc (.cells #[.int .u64 (X : Int), .int .u64 (A : Int), .int .u64 (B : Int)] 30) = wn at s0 rr0 rr1 rr2 b3 ⊢
  clear r0 r1 r2 gg0 gg1 sb B2
  generalize wr.heap.size = sbk at s0 ⊢
  have t0 : wn.cell? ⟨sbk, 0, none⟩ = some (.int .u64 (X : Int)) := cell_at s0
  have t1' : wn.cell? ⟨sbk, 1, none⟩ = some (.int .u64 (A : Int)) := cell_at s0
  have t2' : wn.cell? ⟨sbk, 2, none⟩ = some (.int .u64 (B : Int)) := cell_at s0
  have B3 := Lib.hid b3
  clear s0 b3
  have k0 : wn.drew.cell? ⟨rb, 0, none⟩ = some (.int .u64 (X : Int)) := rr0
  have k1 : wn.drew.cell? ⟨rb, 1, none⟩ = some (.int .u64 1) := rr1
  have k2 : wn.drew.cell? ⟨rb, 2, none⟩ = some (.int .u64 0) := rr2
  have k3 : wn.drew.cell? ⟨sbk, 0, none⟩ = some (.int .u64 (X : Int)) := t0
  have k4 : wn.drew.cell? ⟨sbk, 1, none⟩ = some (.int .u64 (A : Int)) := t1'
  have k5 : wn.drew.cell? ⟨sbk, 2, none⟩ = some (.int .u64 (B : Int)) := t2'
  have kb : Below wn.heap.size wn wn.drew := below_draws (Below.refl _ _) 1
  have lift : ∀ {f : Nat} {args : Array Value} {v : Value} (h : ∀ w, Calls Try.prog f args w fun e w' => e = .returned v ∧ Below w.heap.size w w') (w : World), Below wn.heap.size wn w →
      Calls Try.prog f args w fun e w' => e = .returned v ∧ w'.cell? ⟨rb, 0, none⟩ = some (.int .u64 (X : Int)) ∧ w'.cell? ⟨rb, 1, none⟩ = some (.int .u64 1) ∧ w'.cell? ⟨rb, 2, none⟩ = some (.int .u64 0) ∧ w'.cell? ⟨sbk, 0, none⟩ = some (.int .u64 (X : Int)) ∧ w'.cell? ⟨sbk, 1, none⟩ = some (.int .u64 (A : Int)) ∧ w'.cell? ⟨sbk, 2, none⟩ = some (.int .u64 (B : Int)) ∧ Below wn.heap.size wn w' := by
    intro f args v h w hb
    refine (h w).mono ?_
    rintro e w' ⟨rfl, b⟩
    have hb' := hb.trans (b.mono hb.size)
    exact ⟨rfl, (hb'.cell (lt_of_cell rr0)).trans rr0, (hb'.cell (lt_of_cell rr1)).trans rr1, (hb'.cell (lt_of_cell rr2)).trans rr2, (hb'.cell (lt_of_cell t0)).trans t0, (hb'.cell (lt_of_cell t1')).trans t1', (hb'.cell (lt_of_cell t2')).trans t2', hb'⟩
  have J1 := Lib.hid (lift D1.out)
  have J2 := Lib.hid (lift D2.out)
  have J3 := Lib.hid (lift D3.out)
  have J4 := Lib.hid (lift D4.out)
  have J5 := Lib.hid (lift (fun w => (D5.out w).mono (by rintro e w' ⟨rfl, rfl⟩; exact ⟨rfl, Below.refl _ _⟩)))
  have J6 := Lib.hid (lift (fun w => (D6.out w).mono (by rintro e w' ⟨rfl, d, rfl⟩; exact ⟨rfl, below_draws (Below.refl _ _) d⟩)))
  clear D1 D2 D3 D4 D5 D6 rr0 rr1 rr2 t0 t1' t2' lift e1 e2 e3 e4 e5
  go_region_held3 (fun w' => w'.cell? ⟨rb, 0, none⟩ = some (.int .u64 (X : Int)) ∧ w'.cell? ⟨rb, 1, none⟩ = some (.int .u64 1) ∧ w'.cell? ⟨rb, 2, none⟩ = some (.int .u64 0) ∧ w'.cell? ⟨sbk, 0, none⟩ = some (.int .u64 (X : Int)) ∧ w'.cell? ⟨sbk, 1, none⟩ = some (.int .u64 (A : Int)) ∧ w'.cell? ⟨sbk, 2, none⟩ = some (.int .u64 (B : Int)) ∧ Below wn.heap.size wn w') (first | (refine ⟨?_, ?_, ?_, ?_, ?_, ?_, ?_⟩ <;> assumption) | go_keep)
    (first
      | (go_at_call 10; first | ((with_reducible refine (J1.out _ (by assumption)).mono ?_); rintro e w' ⟨rfl, z0, z1, z2, z3, z4, z5, z⟩) | ((with_reducible refine (J2.out _ (by assumption)).mono ?_); rintro e w' ⟨rfl, z0, z1, z2, z3, z4, z5, z⟩))
      | (go_at_call 11; ((with_reducible refine (J5.out _ (by assumption)).mono ?_); rintro e w' ⟨rfl, z0, z1, z2, z3, z4, z5, z⟩))
      | (go_at_call 8; ((with_reducible refine (J6.out _ (by assumption)).mono ?_); rintro e w' ⟨rfl, z0, z1, z2, z3, z4, z5, z⟩))
      | (go_at_call 12; first | ((with_reducible refine (J3.out _ (by assumption)).mono ?_); rintro e w' ⟨rfl, z0, z1, z2, z3, z4, z5, z⟩) | ((with_reducible refine (J4.out _ (by assumption)).mono ?_); rintro e w' ⟨rfl, z0, z1, z2, z3, z4, z5, z⟩)))
  all_goals
    go_wp2
    go_ret
    exact ⟨rfl, B3.out.trans (Below.mono (by assumption) B3.out.size)⟩
end Go.Proofs.Ythhhmaibgaammaa
