/- The law HashHalves of layer 3 (hash), walked. -/
import Derived.Test.YthhhmaibgaammaaHashA
namespace Go.Proofs.Ythhhmaibgaammaa
open Go.ChangeShapes Go.WideShapes Go.ChangeAt Go.RowKit

theorem plc_half {h m k : Nat} (hk : 0 < k) (hm : 1 ≤ m) : plc h (((k * m : Nat)) : Int) / k = plc h (m : Int) := by
  unfold plc
  rw [if_neg (by have := Nat.mul_pos hk hm; omega), if_neg (by omega), Int.toNat_natCast, Int.toNat_natCast, Nat.div_div_eq_div_mul, ← Nat.mul_assoc, Nat.mul_comm _ k, Nat.mul_assoc, Nat.mul_comm 2305843009213693951 k]
  exact Nat.mul_div_mul_left _ _ hk
theorem rdI_three (w : World) (x : Nat) (hx : x < 18446744073709551616) : RdI (w.alloc (.cells #[.int .u64 (x : Int), .int .u64 ((x : Int) / 8), .int .u64 ((x : Int) / 128)] 22)) .u64 (some ⟨w.heap.size, 0, none⟩) 3 3 [(x : Int), (x : Int) / 8, (x : Int) / 128] := by
  refine ⟨rfl, Nat.le_refl _, by decide, fun _ => ⟨w.heap.size, 0, rfl, by rw [show (World.alloc w (.cells #[.int .u64 (x : Int), .int .u64 ((x : Int) / 8), .int .u64 ((x : Int) / 128)] 22)).heap.size = w.heap.size + 1 by simp]; exact Nat.lt_succ_self _, ?_⟩, ?_⟩
  · intro i hi
    rw [cell_at (heap_alloc_new w _)]
    rcases i with _ | _ | _ | i
    · rfl
    · rfl
    · rfl
    · omega
  · intro z hz
    have : z = x ∨ z = (x : Int) / 8 ∨ z = (x : Int) / 128 := by simpa using hz
    have hz2 : 0 ≤ z ∧ z ≤ 18446744073709551615 := by omega
    simp [Lit.wf, IntKind.min, IntKind.max, IntKind.signed, IntKind.bits]
    omega
/-- what a region holds of a row's cells. -/
def RowHeld (W0 : World) (bx X A B : Nat) (w : World) : Prop :=
  w.cell? ⟨bx, 0, none⟩ = some (.int .u64 (X : Int)) ∧ w.cell? ⟨bx, 1, none⟩ = some (.int .u64 (A : Int)) ∧ w.cell? ⟨bx, 2, none⟩ = some (.int .u64 (B : Int)) ∧ Below W0.heap.size W0 w
theorem RowHeld.below {W0 : World} {bx X A B : Nat} {w w' : World} (h : RowHeld W0 bx X A B w) (b : Below w.heap.size w w') : RowHeld W0 bx X A B w' := by
  obtain ⟨k0, k1, k2, hb⟩ := h
  exact ⟨(b.cell (lt_of_cell k0)).trans k0, (b.cell (lt_of_cell k1)).trans k1, (b.cell (lt_of_cell k2)).trans k2, hb.trans (b.mono hb.size)⟩
theorem Calls.heldR {W0 : World} {bx X A B : Nat} {f : Nat} {args : Array Value} {v : Value} (h : ∀ w, Calls Try.prog f args w fun e w' => e = .returned v ∧ Below w.heap.size w w') (w : World)
    (k0 : w.cell? ⟨bx, 0, none⟩ = some (.int .u64 (X : Int))) (k1 : w.cell? ⟨bx, 1, none⟩ = some (.int .u64 (A : Int))) (k2 : w.cell? ⟨bx, 2, none⟩ = some (.int .u64 (B : Int))) (hb : Below W0.heap.size W0 w) :
    Calls Try.prog f args w fun e w' => e = .returned v ∧ w'.cell? ⟨bx, 0, none⟩ = some (.int .u64 (X : Int)) ∧ w'.cell? ⟨bx, 1, none⟩ = some (.int .u64 (A : Int)) ∧ w'.cell? ⟨bx, 2, none⟩ = some (.int .u64 (B : Int)) ∧ Below W0.heap.size W0 w' := by
  refine (h w).mono ?_
  rintro e w' ⟨rfl, b⟩
  exact ⟨rfl, RowHeld.below ⟨k0, k1, k2, hb⟩ b⟩
set_option maxHeartbeats 1000000 in
theorem halves_law (w : World) (x : Nat) (n : Int) (s : ByteArray) (hx : x < 18446744073709551616) (hn : -9223372036854775808 ≤ n ∧ n ≤ 9223372036854775807) (hs : s.size ≤ maxLen) :
    Calls Try.prog 6 #[.int .u64 x, .int .i64 n, .string s] w fun e w' => e = .returned (.bool true) ∧ Below w.heap.size w w' := by
  unfold maxLen at hs
  by_cases h1 : 200 < s.size
  · have t1 : decide ((200 : Int) < (s.size : Int)) = true := by rw [decide_eq_true_eq]; omega
    clear h1
    go_enter Try.func6, Try.ntmps6
    go_wp2_with (first | (go_at_call 7; refine (fit_any _).mono ?_; rintro e w1 ⟨rfl, b1⟩; have B1 := Lib.hid b1; clear b1))
    go_ret
    exact ⟨rfl, B1.out⟩
  have t1 : decide ((200 : Int) < (s.size : Int)) = false := by rw [decide_eq_false_iff_not]; omega
  obtain ⟨a, ha⟩ : ∃ z, z = x % 2305843009213693951 := ⟨_, rfl⟩
  have e1 : (x : Int) % 2305843009213693951 = (a : Int) := by omega
  have hal : a < 2305843009213693951 := by omega
  obtain ⟨m0, hm0⟩ : ∃ z : Nat, (z : Int) = n % 4096 := ⟨(n % 4096).toNat, by omega⟩
  have e3 : bits .and .i64 n 4095 = (m0 : Int) := by rw [hm0]; exact i64_mask12 n
  have hm0l : m0 < 4096 := by omega
  obtain ⟨m, hm⟩ : ∃ z, z = m0 + 1 := ⟨_, rfl⟩
  have e4 : (m0 : Int) + 1 = (m : Int) := by omega
  have hm1 : 1 ≤ m ∧ m ≤ 4096 := by omega
  obtain ⟨m2, hm2⟩ : ∃ z, z = 2 * m := ⟨_, rfl⟩
  obtain ⟨m3, hm3⟩ : ∃ z, z = 3 * m := ⟨_, rfl⟩
  have e5 : IntKind.i64.wrap (2 * (m : Int)) = (m2 : Int) := by rw [IntKind.wrap_i64]; omega
  have e6 : IntKind.i64.wrap (3 * (m : Int)) = (m3 : Int) := by rw [IntKind.wrap_i64]; omega
  clear h1 ha hm0 hm
  obtain ⟨p1, hp1⟩ : ∃ z, z = plc a (m : Int) := ⟨_, rfl⟩
  obtain ⟨p2, hp2⟩ : ∃ z, z = plc a (m2 : Int) := ⟨_, rfl⟩
  obtain ⟨p3, hp3⟩ : ∃ z, z = plc a (m3 : Int) := ⟨_, rfl⟩
  have e7 : p2 / 2 = p1 := by rw [hp1, hp2, hm2]; exact plc_half (by omega) hm1.1
  have e8 : p3 / 3 = p1 := by rw [hp1, hp3, hm3]; exact plc_half (by omega) hm1.1
  have e7 : (p2 : Int) / 2 = (p1 : Int) := by omega
  have e8 : (p3 : Int) / 3 = (p1 : Int) := by omega
  have b1 := plc_lt a (show (1 : Int) ≤ (m : Int) by omega)
  have b2 := plc_lt a (show (1 : Int) ≤ (m2 : Int) by omega)
  have b3 := plc_lt a (show (1 : Int) ≤ (m3 : Int) by omega)
  rw [← hp1] at b1
  rw [← hp2] at b2
  rw [← hp3] at b3
  have C1 := Lib.hid (fun w => place_any a (m : Int) (by omega) (by omega) w)
  have C2 := Lib.hid (fun w => place_any a (m2 : Int) (by omega) (by omega) w)
  have C3 := Lib.hid (fun w => place_any a (m3 : Int) (by omega) (by omega) w)
  rw [← hp1] at C1
  rw [← hp2] at C2
  rw [← hp3] at C3
  clear hp1 hp2 hp3
  go_enter Try.func6, Try.ntmps6
  go_wp2_with (first
    | (go_at_call 7; refine (fit_any _).mono ?_; rintro e w1 ⟨rfl, b1⟩; have B1 := Lib.hid b1; clear b1)
    | (go_at_call 9; have b2 := (B1.out).alloc B1.out.size (.cells #[.int .u64 (x : Int), .int .u64 ((x : Int) / 8), .int .u64 ((x : Int) / 128)] 22); refine (rows_any _ _ 3 3 [(x : Int), (x : Int) / 8, (x : Int) / 128] (rdI_three w1 x hx) 1 (by omega)).mono ?_; rintro e w2 ⟨rfl, r2, b3⟩; have B2 := Lib.hid (b2.trans (b3.mono (by have := B1.out.size; simp; omega))); obtain ⟨C, q1, q2, q3⟩ := r2.blk; rw [show (w1.alloc (.cells #[.int .u64 (x : Int), .int .u64 ((x : Int) / 8), .int .u64 ((x : Int) / 128)] 22)).heap.size = w1.heap.size + 1 by simp] at q1; obtain ⟨X, eX⟩ : ∃ z, z = rX [(x : Int), (x : Int) / 8, (x : Int) / 128] 0 := ⟨_, rfl⟩; obtain ⟨A, eA⟩ : ∃ z, z = rA [(x : Int), (x : Int) / 8, (x : Int) / 128] 0 := ⟨_, rfl⟩; obtain ⟨B, eB⟩ : ∃ z, z = rB [(x : Int), (x : Int) / 8, (x : Int) / 128] 0 := ⟨_, rfl⟩; have q3 := q3 0 (by omega); have hX := rX_lt [(x : Int), (x : Int) / 8, (x : Int) / 128] 0; have hA := rA_lt [(x : Int), (x : Int) / 8, (x : Int) / 128] 0; have hB := rB_lt [(x : Int), (x : Int) / 8, (x : Int) / 128] 0; rw [← eX] at q3 hX; rw [← eA] at q3 hA; rw [← eB] at q3 hB; have k0 : w2.cell? ⟨w1.heap.size + 1, 0, none⟩ = some (.int .u64 (X : Int)) := (cell_at q1).trans q3.1; have k1 : w2.cell? ⟨w1.heap.size + 1, 1, none⟩ = some (.int .u64 (A : Int)) := (cell_at q1).trans q3.2.1; have k2 : w2.cell? ⟨w1.heap.size + 1, 2, none⟩ = some (.int .u64 (B : Int)) := (cell_at q1).trans q3.2.2; clear b2 b3 r2 q1 q2 q3 eX eA eB))
  have g0 : (w2.alloc (.cells #[.int .u64 (X : Int), .int .u64 (A : Int), .int .u64 (B : Int)] 30)).cell? ⟨w2.heap.size, 0, none⟩ = some (.int .u64 (X : Int)) := cell_at (heap_alloc_new w2 _)
  have g1 : (w2.alloc (.cells #[.int .u64 (X : Int), .int .u64 (A : Int), .int .u64 (B : Int)] 30)).cell? ⟨w2.heap.size, 1, none⟩ = some (.int .u64 (A : Int)) := cell_at (heap_alloc_new w2 _)
  have g2 : (w2.alloc (.cells #[.int .u64 (X : Int), .int .u64 (A : Int), .int .u64 (B : Int)] 30)).cell? ⟨w2.heap.size, 2, none⟩ = some (.int .u64 (B : Int)) := cell_at (heap_alloc_new w2 _)
  have gb := B2.out.alloc B2.out.size (.cells #[.int .u64 (X : Int), .int .u64 (A : Int), .int .u64 (B : Int)] 30)
  generalize w2.alloc (.cells #[.int .u64 (X : Int), .int .u64 (A : Int), .int .u64 (B : Int)] 30) = wn at g0 g1 g2 gb ⊢
  generalize w2.heap.size = bx at g0 g1 g2 gb ⊢
  have f0 : wn.drew.cell? ⟨bx, 0, none⟩ = some (.int .u64 (X : Int)) := g0
  have f1 : wn.drew.cell? ⟨bx, 1, none⟩ = some (.int .u64 (A : Int)) := g1
  have f2 : wn.drew.cell? ⟨bx, 2, none⟩ = some (.int .u64 (B : Int)) := g2
  have fb : Below w.heap.size w wn.drew := below_draws gb 1
  clear k0 k1 k2 g0 g1 g2 gb B1 B2
  have hL := Ha.hof_lt X A B s.data.toList
  have d1 := fun w => bucket_any X A B hX hA hB s (by unfold maxLen; exact hs) (m : Int) (by omega) w
  have d2 := fun w => bucket_any X A B hX hA hB s (by unfold maxLen; exact hs) (m2 : Int) (by omega) w
  obtain ⟨h, hh⟩ : ∃ z, z = Ha.hof X A B s.data.toList := ⟨_, rfl⟩
  rw [← hh] at d1 d2 hL
  obtain ⟨q1, hq1⟩ : ∃ z, z = plc h (m : Int) := ⟨_, rfl⟩
  obtain ⟨q2, hq2⟩ : ∃ z, z = plc h (m2 : Int) := ⟨_, rfl⟩
  have e9 : q2 / 2 = q1 := by rw [hq1, hq2, hm2]; exact plc_half (by omega) hm1.1
  have e9 : (q2 : Int) / 2 = (q1 : Int) := by omega
  have b4 := plc_lt h (show (1 : Int) ≤ (m2 : Int) by omega)
  rw [← hq2] at b4 d2
  rw [← hq1] at d1
  have ew1 : IntKind.i64.wrap (p1 : Int) = (p1 : Int) := by rw [IntKind.wrap_i64]; omega
  have ew2 : IntKind.i64.wrap (q1 : Int) = (q1 : Int) := by rw [IntKind.wrap_i64]; omega
  rw [← e5] at C2 d2
  rw [← e6] at C3
  have J1 := Lib.hid (fun w' => Calls.heldR (W0 := w) (bx := bx) (X := X) (A := A) (B := B) (fun w => (C1.out w).mono (by rintro e w' ⟨rfl, d, rfl⟩; exact ⟨rfl, below_draws (Below.refl _ _) d⟩)) w')
  have J2 := Lib.hid (fun w' => Calls.heldR (W0 := w) (bx := bx) (X := X) (A := A) (B := B) (fun w => (C2.out w).mono (by rintro e w' ⟨rfl, d, rfl⟩; exact ⟨rfl, below_draws (Below.refl _ _) d⟩)) w')
  have J3 := Lib.hid (fun w' => Calls.heldR (W0 := w) (bx := bx) (X := X) (A := A) (B := B) (fun w => (C3.out w).mono (by rintro e w' ⟨rfl, d, rfl⟩; exact ⟨rfl, below_draws (Below.refl _ _) d⟩)) w')
  have J4 := Lib.hid (fun w' => Calls.heldR (W0 := w) (bx := bx) (X := X) (A := A) (B := B) d1 w')
  have J5 := Lib.hid (fun w' => Calls.heldR (W0 := w) (bx := bx) (X := X) (A := A) (B := B) d2 w')
  clear C1 C2 C3 d1 d2 hh hq1 hq2 e5 e6
  go_region_held3 (fun w' => w'.cell? ⟨bx, 0, none⟩ = some (.int .u64 (X : Int)) ∧ w'.cell? ⟨bx, 1, none⟩ = some (.int .u64 (A : Int)) ∧ w'.cell? ⟨bx, 2, none⟩ = some (.int .u64 (B : Int)) ∧ Below w.heap.size w w') (first | (refine ⟨?_, ?_, ?_, ?_⟩ <;> assumption) | go_keep)
    (first
      | (go_at_call 8; first | ((with_reducible refine (J1.out _ (by assumption) (by assumption) (by assumption) (by assumption)).mono ?_); rintro e w' ⟨rfl, z0, z1, z2, z3⟩) | ((with_reducible refine (J2.out _ (by assumption) (by assumption) (by assumption) (by assumption)).mono ?_); rintro e w' ⟨rfl, z0, z1, z2, z3⟩) | ((with_reducible refine (J3.out _ (by assumption) (by assumption) (by assumption) (by assumption)).mono ?_); rintro e w' ⟨rfl, z0, z1, z2, z3⟩))
      | (go_at_call 12; first | ((with_reducible refine (J4.out _ (by assumption) (by assumption) (by assumption) (by assumption)).mono ?_); rintro e w' ⟨rfl, z0, z1, z2, z3⟩) | ((with_reducible refine (J5.out _ (by assumption) (by assumption) (by assumption) (by assumption)).mono ?_); rintro e w' ⟨rfl, z0, z1, z2, z3⟩)))
  go_wp2
  go_ret
  exact ⟨rfl, by assumption⟩
end Go.Proofs.Ythhhmaibgaammaa
