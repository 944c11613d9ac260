/- The contracts of layer 7 (ring): estimates. -/
import Derived.Test.YthfaeapodfgldaaRgL
namespace Go.Proofs.Ythfaeapodfgldaa
set_option linter.unusedSimpArgs false
set_option linter.unusedVariables false
open Go.ChangeShapes Go.WideShapes Go.ChangeAt Go.RowKit
open Ar (inR)
/-- the part of the eldest slot's that is still in a smooth window. -/
def leftZ (s : Nat) (t v : Int) : Int := (v * ((s : Int) - t % (s : Int)) + (s : Int) - 1) / (s : Int)
theorem upQ_ceil (N s : Nat) (hs : 1 ≤ s) : upQ (N / s) (N % s) = (N + s - 1) / s := by
  have h1 := Nat.div_add_mod N s
  have h2 := Nat.mod_lt N (show 0 < s by omega)
  obtain ⟨q, hq⟩ : ∃ q, q = N / s := ⟨_, rfl⟩
  obtain ⟨r, hr⟩ : ∃ r, r = N % s := ⟨_, rfl⟩
  rw [← hq, ← hr] at h1 ⊢
  rw [← hr] at h2
  unfold upQ
  symm
  by_cases h0 : r = 0
  · rw [if_pos h0, show N + s - 1 = s * q + (s - 1) by omega, Nat.mul_add_div (by omega), Nat.div_eq_of_lt (by omega)]; rfl
  · rw [if_neg h0, show N + s - 1 = s * (q + 1) + (r - 1) by rw [Nat.mul_succ]; omega, Nat.mul_add_div (by omega), Nat.div_eq_of_lt (by omega)]
theorem leftZ_nat (s tm vn rn : Nat) (t : Int) (hs : 1 ≤ s) (ht : t % (s : Int) = (tm : Int)) (hr : rn + tm = s) : leftZ s t (vn : Int) = ((upQ (vn * rn / s) (vn * rn % s) : Nat) : Int) := by
  unfold leftZ
  rw [ht, show (s : Int) - (tm : Int) = (rn : Int) by omega, upQ_ceil _ _ hs, Int.natCast_ediv]
  congr 1
  have : ((vn * rn : Nat) : Int) = (vn : Int) * (rn : Int) := Int.natCast_mul _ _
  omega
theorem leftZ_in {s : Nat} (hs : 1 ≤ s) {t v : Int} (hv : 0 ≤ v) : 0 ≤ leftZ s t v ∧ leftZ s t v ≤ v := by
  obtain ⟨vn, rfl⟩ := Int.eq_ofNat_of_zero_le hv
  have hm := Int.emod_nonneg t (show (s : Int) ≠ 0 by omega)
  have hm2 := Int.emod_lt_of_pos t (show (0 : Int) < (s : Int) by omega)
  obtain ⟨tm, htm⟩ := Int.eq_ofNat_of_zero_le hm
  obtain ⟨rn, hrn⟩ : ∃ rn, rn + tm = s := ⟨s - tm, by omega⟩
  rw [leftZ_nat s tm vn rn t hs htm hrn, upQ_ceil _ _ hs]
  refine ⟨Int.natCast_nonneg _, Int.ofNat_le.2 ?_⟩
  have h1 : vn * rn ≤ vn * s := Nat.mul_le_mul_left _ (by omega)
  have h2 : (vn * rn + s - 1) / s ≤ (vn * s + (s - 1)) / s := Nat.div_le_div_right (by omega)
  rw [Nat.mul_comm vn s, Nat.mul_add_div (by omega), Nat.div_eq_of_lt (by omega : s - 1 < s)] at h2
  omega
/-- what the walk of left wants, apart from it. -/
theorem left_facts {s : Nat} (hs : 1 ≤ s ∧ s ≤ 9223372036854775807) {t : Int} (ht : 0 ≤ t ∧ t ≤ 9223372036854775807) {vn : Nat} (hv : vn ≤ 9223372036854775807) :
    ∃ tm rn u : Nat, leftZ s t (vn : Int) = (u : Int) ∧ (∀ w, Calls Try.prog 40 #[.int .u64 vn, .int .u64 rn, .int .u64 s] w fun e w' => e = .returned (.tuple #[.int .u64 (u : Nat), .bool true]) ∧ ∃ n, w' = w.drewN n) ∧ t.tmod (s : Int) = (tm : Int) ∧ rn + tm = s ∧ u ≤ vn := by
  have hm := Int.emod_nonneg t (show (s : Int) ≠ 0 by omega)
  obtain ⟨tm, htm⟩ := Int.eq_ofNat_of_zero_le hm
  have hm2 := Int.emod_lt_of_pos t (show (0 : Int) < (s : Int) by omega)
  have htm2 : tm < s := by rw [htm] at hm2; omega
  clear hm hm2
  obtain ⟨rn, hrn⟩ : ∃ rn, rn + tm = s := ⟨s - tm, by omega⟩
  have hz := leftZ_nat s tm vn rn t hs.1 htm hrn
  have hl := leftZ_in (s := s) hs.1 (t := t) (v := (vn : Int)) (Int.natCast_nonneg _)
  rw [hz] at hl
  have hq1 : vn * rn / s ≤ vn := by
    have h1 : vn * rn ≤ s * vn := by rw [Nat.mul_comm]; exact Nat.mul_le_mul_right _ (by omega)
    exact Nat.div_le_of_le_mul h1
  have hb : vn * rn / 18446744073709551616 < s := by
    rw [Nat.div_lt_iff_lt_mul (by decide)]
    have h1 : vn * rn ≤ vn * s := Nat.mul_le_mul_left _ (by omega)
    have h2 : vn * s < 18446744073709551616 * s := Nat.mul_lt_mul_of_pos_right (by omega) (by omega)
    rw [Nat.mul_comm s]
    exact Nat.lt_of_le_of_lt h1 h2
  exact ⟨tm, rn, _, hz, fun w => up_fit vn rn s _ _ (by omega) (by omega) (by omega) (Quo.of hb) (by omega) w, by rw [Int.tmod_eq_emod_of_nonneg ht.1]; exact htm, hrn, Int.ofNat_le.1 hl.2⟩
section
variable {w w' : World} {R : RgN} {σ : RgS}
set_option maxHeartbeats 1000000 in
theorem rleft_any (v : Int) (hv : 0 ≤ v ∧ v ≤ 9223372036854775807) (w : World) (h : RgAt w R σ) :
    Calls Try.prog 33 #[.pointer (some ⟨R.x, 0, none⟩), .int .i64 v] w fun e w' => e = .returned (.int .i64 (leftZ R.s σ.t v)) ∧ Below w.heap.size w w' := by
  obtain ⟨vn, rfl⟩ := Int.eq_ofNat_of_zero_le hv.1
  obtain ⟨tm, rn, u, hz, cu, et, hrn, huv⟩ := left_facts h.bd.2.1 h.ht (vn := vn) (by omega)
  rw [hz]
  have CU := Lib.hid cu
  have hs := h.bd.2.1
  have k : ∀ i, w.drew.cell? ⟨R.x, i, none⟩ = (ringC R σ.t)[i]? := h.hx.rd
  obtain ⟨s, hse⟩ : ∃ s, s = R.s := ⟨_, rfl⟩
  unfold ringC at k
  rw [← hse] at CU et hrn hs k
  have er : IntKind.i64.wrap ((s : Int) - (tm : Int)) = (rn : Int) := by rw [IntKind.wrap_i64]; omega
  have hs0 : ¬ (s : Int) = 0 := by omega
  have hs1 : ¬ s = 0 := by omega
  have w1 : IntKind.u64.wrap (vn : Int) = (vn : Int) := by rw [IntKind.wrap_u64]; omega
  have w2 : IntKind.u64.wrap (rn : Int) = (rn : Int) := by rw [IntKind.wrap_u64]; omega
  have w3 : IntKind.u64.wrap (s : Int) = (s : Int) := by rw [IntKind.wrap_u64]; omega
  have w4 : IntKind.i64.wrap (u : Int) = (u : Int) := by rw [IntKind.wrap_i64]; omega
  clear h hs hz hrn huv hv hse cu
  go_enter Try.func33, Try.ntmps33
  go_upto_region 1 with (fail)
  refine wp_region_held_drew (S := fun w' => ∀ i, w'.cell? ⟨R.x, i, none⟩ = (#[.slice (some ⟨R.pb, 0, none⟩) R.n R.n, .int .i64 (s : Int), .int .i64 R.L, .int .i64 σ.t, .bool R.sm] : Array Value)[i]?) (by kernel_rfl) k (fun hHeld => ?_)
  refine wpAnyH_take (i := 0) (oi := ?_) (v := ?_) ?_ ?_ ?_ ?_ ?_ ?_ ?_ ?_
  rotate_left 2
  · simp only [List.getElem?_toArray, List.getElem?_cons_succ, List.getElem?_cons_zero]; rfl
  · kernel_rfl
  · kernel_rfl
  · kernel_rfl
  · exact fun _ _ _ h => h
  · refine Or.inl ⟨by rfl, ?_⟩
    intro w' hSw
    (try dsimp only at hSw)
    go_simp
    all_goals (with_reducible rfl)
  · assumption
  try simp only [Act.put, List.setIfInBounds_toArray, List.set_cons_zero, List.set_cons_succ]
  refine wpAnyH_take (i := 1) (oi := ?_) (v := ?_) ?_ ?_ ?_ ?_ ?_ ?_ ?_ ?_
  rotate_left 2
  · simp only [List.getElem?_toArray, List.getElem?_cons_succ, List.getElem?_cons_zero]; rfl
  · kernel_rfl
  · kernel_rfl
  · kernel_rfl
  · exact fun _ _ _ h => h
  · refine Or.inl ⟨by rfl, ?_⟩
    intro w' hSw
    (try dsimp only at hSw)
    go_simp
    all_goals (with_reducible rfl)
  · assumption
  try simp only [Act.put, List.setIfInBounds_toArray, List.set_cons_zero, List.set_cons_succ]
  refine wpAnyH_take (i := 2) (oi := ?_) (v := ?_) ?_ ?_ ?_ ?_ ?_ ?_ ?_ ?_
  rotate_left 2
  · simp only [List.getElem?_toArray, List.getElem?_cons_succ, List.getElem?_cons_zero]; rfl
  · kernel_rfl
  · kernel_rfl
  · kernel_rfl
  · exact fun _ _ _ h => h
  · refine Or.inl ⟨by rfl, ?_⟩
    intro w' hSw
    (try dsimp only at hSw)
    go_simp
    all_goals (with_reducible rfl)
  · assumption
  try simp only [Act.put, List.setIfInBounds_toArray, List.set_cons_zero, List.set_cons_succ]
  refine wpAnyH_take (i := 3) (oi := ?_) (v := ?_) ?_ ?_ ?_ ?_ ?_ ?_ ?_ ?_
  rotate_left 2
  · simp only [List.getElem?_toArray, List.getElem?_cons_succ, List.getElem?_cons_zero]; rfl
  · kernel_rfl
  · kernel_rfl
  · kernel_rfl
  · exact fun _ _ _ h => h
  · refine Or.inl ⟨by rfl, ?_⟩
    intro w' hSw
    (try dsimp only at hSw)
    go_simp
    all_goals (with_reducible rfl)
  · assumption
  try simp only [Act.put, List.setIfInBounds_toArray, List.set_cons_zero, List.set_cons_succ]
  refine wpAnyH_take (i := 4) (oi := ?_) (v := ?_) ?_ ?_ ?_ ?_ ?_ ?_ ?_ ?_
  rotate_left 2
  · simp only [List.getElem?_toArray, List.getElem?_cons_succ, List.getElem?_cons_zero]; rfl
  · kernel_rfl
  · kernel_rfl
  · kernel_rfl
  · exact fun _ _ _ h => h
  · refine Or.inl ⟨by rfl, ?_⟩
    intro w' hSw
    (try dsimp only at hSw)
    go_simp
    all_goals (with_reducible rfl)
  · assumption
  try simp only [Act.put, List.setIfInBounds_toArray, List.set_cons_zero, List.set_cons_succ]
  refine wpAnyH_take (i := 5) (oi := ?_) (v := ?_) ?_ ?_ ?_ ?_ ?_ ?_ ?_ ?_
  rotate_left 2
  · simp only [List.getElem?_toArray, List.getElem?_cons_succ, List.getElem?_cons_zero]; rfl
  · kernel_rfl
  · kernel_rfl
  · kernel_rfl
  · exact fun _ _ _ h => h
  · refine Or.inl ⟨by rfl, ?_⟩
    intro w' hSw
    (try dsimp only at hSw)
    go_simp
    all_goals (with_reducible rfl)
  · assumption
  try simp only [Act.put, List.setIfInBounds_toArray, List.set_cons_zero, List.set_cons_succ]
  refine wpAnyH_take (i := 6) (oi := ?_) (v := ?_) ?_ ?_ ?_ ?_ ?_ ?_ ?_ ?_
  rotate_left 2
  · simp only [List.getElem?_toArray, List.getElem?_cons_succ, List.getElem?_cons_zero]; rfl
  · kernel_rfl
  · kernel_rfl
  · kernel_rfl
  · exact fun _ _ _ h => h
  · refine Or.inl ⟨by rfl, ?_⟩
    intro w' hSw
    (try dsimp only at hSw)
    go_simp
    all_goals (with_reducible rfl)
  · assumption
  try simp only [Act.put, List.setIfInBounds_toArray, List.set_cons_zero, List.set_cons_succ]
  refine wpAnyH_take (i := 7) (oi := ?_) (v := ?_) ?_ ?_ ?_ ?_ ?_ ?_ ?_ ?_
  rotate_left 2
  · simp only [List.getElem?_toArray, List.getElem?_cons_succ, List.getElem?_cons_zero]; rfl
  · kernel_rfl
  · kernel_rfl
  · kernel_rfl
  · exact fun _ _ _ h => h
  · refine Or.inl ⟨by rfl, ?_⟩
    intro w' hSw
    (try dsimp only at hSw)
    go_simp
    all_goals (with_reducible rfl)
  · assumption
  try simp only [Act.put, List.setIfInBounds_toArray, List.set_cons_zero, List.set_cons_succ]
  refine wpAnyH_take (i := 8) (oi := ?_) (v := ?_) ?_ ?_ ?_ ?_ ?_ ?_ ?_ ?_
  rotate_left 2
  · simp only [List.getElem?_toArray, List.getElem?_cons_succ, List.getElem?_cons_zero]; rfl
  · kernel_rfl
  · kernel_rfl
  · kernel_rfl
  · exact fun _ _ _ h => h
  · refine Or.inl ⟨by rfl, ?_⟩
    intro w' hSw
    (try dsimp only at hSw)
    go_simp
    all_goals (with_reducible rfl)
  · assumption
  try simp only [Act.put, List.setIfInBounds_toArray, List.set_cons_zero, List.set_cons_succ]
  refine wpAnyH_take (i := 9) (oi := ?_) (v := ?_) ?_ ?_ ?_ ?_ ?_ ?_ ?_ ?_
  rotate_left 2
  · simp only [List.getElem?_toArray, List.getElem?_cons_succ, List.getElem?_cons_zero]; rfl
  · kernel_rfl
  · kernel_rfl
  · kernel_rfl
  · exact fun _ _ _ h => h
  · refine Or.inl ⟨by rfl, ?_⟩
    intro w' hSw
    (try dsimp only at hSw)
    go_simp
    all_goals (with_reducible rfl)
  · assumption
  try simp only [Act.put, List.setIfInBounds_toArray, List.set_cons_zero, List.set_cons_succ]
  refine wpAnyH_take (i := 10) (oi := ?_) (v := ?_) ?_ ?_ ?_ ?_ ?_ ?_ ?_ ?_
  rotate_left 2
  · simp only [List.getElem?_toArray, List.getElem?_cons_succ, List.getElem?_cons_zero]; rfl
  · kernel_rfl
  · kernel_rfl
  · kernel_rfl
  · exact fun _ _ _ h => h
  · refine Or.inl ⟨by rfl, ?_⟩
    intro w' hSw
    (try dsimp only at hSw)
    go_simp
    all_goals (with_reducible rfl)
  · assumption
  try simp only [Act.put, List.setIfInBounds_toArray, List.set_cons_zero, List.set_cons_succ]
  refine wpAnyH_take (i := 11) (oi := ?_) (v := ?_) ?_ ?_ ?_ ?_ ?_ ?_ ?_ ?_
  rotate_left 2
  · simp only [List.getElem?_toArray, List.getElem?_cons_succ, List.getElem?_cons_zero]; rfl
  · kernel_rfl
  · kernel_rfl
  · kernel_rfl
  · exact fun _ _ _ h => h
  · refine Or.inl ⟨by rfl, ?_⟩
    intro w' hSw
    (try dsimp only at hSw)
    go_simp
    all_goals (with_reducible rfl)
  · assumption
  try simp only [Act.put, List.setIfInBounds_toArray, List.set_cons_zero, List.set_cons_succ]
  refine wpAnyH_take (i := 12) (oi := ?_) (v := ?_) ?_ ?_ ?_ ?_ ?_ ?_ ?_ ?_
  rotate_left 2
  · simp only [List.getElem?_toArray, List.getElem?_cons_succ, List.getElem?_cons_zero]; rfl
  · kernel_rfl
  · kernel_rfl
  · kernel_rfl
  · exact fun _ _ _ h => h
  · refine Or.inl ⟨by rfl, ?_⟩
    intro w' hSw
    (try dsimp only at hSw)
    go_simp
    all_goals (with_reducible rfl)
  · assumption
  try simp only [Act.put, List.setIfInBounds_toArray, List.set_cons_zero, List.set_cons_succ]
  refine wpAnyH_take (i := 13) (oi := ?_) (v := ?_) ?_ ?_ ?_ ?_ ?_ ?_ ?_ ?_
  rotate_left 2
  · simp only [List.getElem?_toArray, List.getElem?_cons_succ, List.getElem?_cons_zero]; rfl
  · kernel_rfl
  · kernel_rfl
  · kernel_rfl
  · exact fun _ _ _ h => h
  · refine Or.inl ⟨by rfl, ?_⟩
    intro w' hSw
    (try dsimp only at hSw)
    go_simp
    all_goals (with_reducible rfl)
  · assumption
  try simp only [Act.put, List.setIfInBounds_toArray, List.set_cons_zero, List.set_cons_succ]
  refine wpAnyH_take (i := 14) (oi := ?_) (v := ?_) ?_ ?_ ?_ ?_ ?_ ?_ ?_ ?_
  rotate_left 2
  · simp only [List.getElem?_toArray, List.getElem?_cons_succ, List.getElem?_cons_zero]; rfl
  · kernel_rfl
  · kernel_rfl
  · kernel_rfl
  · exact fun _ _ _ h => h
  · refine Or.inl ⟨by rfl, ?_⟩
    intro w' hSw
    (try dsimp only at hSw)
    go_simp
    all_goals (with_reducible rfl)
  · assumption
  try simp only [Act.put, List.setIfInBounds_toArray, List.set_cons_zero, List.set_cons_succ]
  refine wpAnyH_take (i := 15) (oi := ?_) (v := ?_) ?_ ?_ ?_ ?_ ?_ ?_ ?_ ?_
  rotate_left 2
  · simp only [List.getElem?_toArray, List.getElem?_cons_succ, List.getElem?_cons_zero]; rfl
  · kernel_rfl
  · kernel_rfl
  · kernel_rfl
  · exact fun _ _ _ h => h
  · refine Or.inl ⟨by rfl, ?_⟩
    intro w' hSw
    (try dsimp only at hSw)
    go_simp
    all_goals (with_reducible rfl)
  · assumption
  try simp only [Act.put, List.setIfInBounds_toArray, List.set_cons_zero, List.set_cons_succ]
  refine wpAnyH_take (i := 16) (oi := ?_) (v := ?_) ?_ ?_ ?_ ?_ ?_ ?_ ?_ ?_
  rotate_left 2
  · simp only [List.getElem?_toArray, List.getElem?_cons_succ, List.getElem?_cons_zero]; rfl
  · kernel_rfl
  · kernel_rfl
  · kernel_rfl
  · exact fun _ _ _ h => h
  · refine Or.inl ⟨by rfl, ?_⟩
    intro w' hSw
    (try dsimp only at hSw)
    go_simp
    all_goals (with_reducible rfl)
  · assumption
  try simp only [Act.put, List.setIfInBounds_toArray, List.set_cons_zero, List.set_cons_succ]
  refine wpAnyH_take (i := 17) (oi := ?_) (v := ?_) ?_ ?_ ?_ ?_ ?_ ?_ ?_ ?_
  rotate_left 2
  · simp only [List.getElem?_toArray, List.getElem?_cons_succ, List.getElem?_cons_zero]; rfl
  · kernel_rfl
  · kernel_rfl
  · kernel_rfl
  · exact fun _ _ _ h => h
  · refine Or.inl ⟨by rfl, ?_⟩
    intro w' hSw
    (try dsimp only at hSw)
    go_simp
    all_goals (with_reducible rfl)
  · assumption
  try simp only [Act.put, List.setIfInBounds_toArray, List.set_cons_zero, List.set_cons_succ]
  refine wpAnyH_take (i := 18) (oi := ?_) (v := ?_) ?_ ?_ ?_ ?_ ?_ ?_ ?_ ?_
  rotate_left 2
  · simp only [List.getElem?_toArray, List.getElem?_cons_succ, List.getElem?_cons_zero]; rfl
  · kernel_rfl
  · kernel_rfl
  · kernel_rfl
  · exact fun _ _ _ h => h
  · refine Or.inl ⟨by rfl, ?_⟩
    intro w' hSw
    (try dsimp only at hSw)
    go_simp
    all_goals (with_reducible rfl)
  · assumption
  try simp only [Act.put, List.setIfInBounds_toArray, List.set_cons_zero, List.set_cons_succ]
  refine wpAnyH_take (i := 19) (oi := ?_) (v := ?_) ?_ ?_ ?_ ?_ ?_ ?_ ?_ ?_
  rotate_left 2
  · simp only [List.getElem?_toArray, List.getElem?_cons_succ, List.getElem?_cons_zero]; rfl
  · kernel_rfl
  · kernel_rfl
  · kernel_rfl
  · exact fun _ _ _ h => h
  · refine Or.inl ⟨by rfl, ?_⟩
    intro w' hSw
    (try dsimp only at hSw)
    go_simp
    all_goals (with_reducible rfl)
  · assumption
  try simp only [Act.put, List.setIfInBounds_toArray, List.set_cons_zero, List.set_cons_succ]
  refine wpAnyH_take (i := 20) (oi := ?_) (v := ?_) ?_ ?_ ?_ ?_ ?_ ?_ ?_ ?_
  rotate_left 2
  · simp only [List.getElem?_toArray, List.getElem?_cons_succ, List.getElem?_cons_zero]; rfl
  · kernel_rfl
  · kernel_rfl
  · kernel_rfl
  · exact fun _ _ _ h => h
  · refine Or.inl ⟨by rfl, ?_⟩
    intro w' hSw
    (try dsimp only at hSw)
    go_simp
    all_goals (with_reducible rfl)
  · assumption
  try simp only [Act.put, List.setIfInBounds_toArray, List.set_cons_zero, List.set_cons_succ]
  refine wpAnyH_take (i := 21) (oi := ?_) (v := ?_) ?_ ?_ ?_ ?_ ?_ ?_ ?_ ?_
  rotate_left 2
  · simp only [List.getElem?_toArray, List.getElem?_cons_succ, List.getElem?_cons_zero]; rfl
  · kernel_rfl
  · kernel_rfl
  · kernel_rfl
  · exact fun _ _ _ h => h
  · refine Or.inl ⟨by rfl, ?_⟩
    intro w' hSw
    (try dsimp only at hSw)
    go_simp
    all_goals (with_reducible rfl)
  · assumption
  try simp only [Act.put, List.setIfInBounds_toArray, List.set_cons_zero, List.set_cons_succ]
  refine wpAnyH_ready (rs := [22]) (by kernel_rfl) (by simp) ?_
  refine AllReadyH.cons (o := ?_) ?_ ?_ ?_
  rotate_left 1
  · simp only [List.getElem?_toArray, List.getElem?_cons_succ, List.getElem?_cons_zero]; rfl
  rotate_left 1
  · exact AllReadyH.nil
  intro K hK
  go_simp
  ((with_reducible refine (CU.out _).mono ?_); rintro e wa ⟨rfl, d, rfl⟩)
  refine hK.out _ _ (show ∀ i, (w.drew.drewN d).cell? ⟨R.x, i, none⟩ = _ from k) (fun hHeld => ?_)
  clear hK K
  try simp only [Act.put, List.setIfInBounds_toArray, List.set_cons_zero, List.set_cons_succ]
  refine wpAnyH_take (i := 23) (oi := ?_) (v := ?_) ?_ ?_ ?_ ?_ ?_ ?_ ?_ ?_
  rotate_left 2
  · simp only [List.getElem?_toArray, List.getElem?_cons_succ, List.getElem?_cons_zero]; rfl
  · kernel_rfl
  · kernel_rfl
  · kernel_rfl
  · exact fun _ _ _ h => h
  · refine Or.inl ⟨by rfl, ?_⟩
    intro w' hSw
    (try dsimp only at hSw)
    go_simp
    all_goals (with_reducible rfl)
  · assumption
  try simp only [Act.put, List.setIfInBounds_toArray, List.set_cons_zero, List.set_cons_succ]
  refine wpAnyH_take (i := 24) (oi := ?_) (v := ?_) ?_ ?_ ?_ ?_ ?_ ?_ ?_ ?_
  rotate_left 2
  · simp only [List.getElem?_toArray, List.getElem?_cons_succ, List.getElem?_cons_zero]; rfl
  · kernel_rfl
  · kernel_rfl
  · kernel_rfl
  · exact fun _ _ _ h => h
  · refine Or.inl ⟨by rfl, ?_⟩
    intro w' hSw
    (try dsimp only at hSw)
    go_simp
    all_goals (with_reducible rfl)
  · assumption
  try simp only [Act.put, List.setIfInBounds_toArray, List.set_cons_zero, List.set_cons_succ]
  refine wpAnyH_take (i := 25) (oi := ?_) (v := ?_) ?_ ?_ ?_ ?_ ?_ ?_ ?_ ?_
  rotate_left 2
  · simp only [List.getElem?_toArray, List.getElem?_cons_succ, List.getElem?_cons_zero]; rfl
  · kernel_rfl
  · kernel_rfl
  · kernel_rfl
  · exact fun _ _ _ h => h
  · refine Or.inl ⟨by rfl, ?_⟩
    intro w' hSw
    (try dsimp only at hSw)
    go_simp
    all_goals (with_reducible rfl)
  · assumption
  try simp only [Act.put, List.setIfInBounds_toArray, List.set_cons_zero, List.set_cons_succ]
  refine wpAnyH_take (i := 26) (oi := ?_) (v := ?_) ?_ ?_ ?_ ?_ ?_ ?_ ?_ ?_
  rotate_left 2
  · simp only [List.getElem?_toArray, List.getElem?_cons_succ, List.getElem?_cons_zero]; rfl
  · kernel_rfl
  · kernel_rfl
  · kernel_rfl
  · exact fun _ _ _ h => h
  · refine Or.inl ⟨by rfl, ?_⟩
    intro w' hSw
    (try dsimp only at hSw)
    go_simp
    all_goals (with_reducible rfl)
  · assumption
  try simp only [Act.put, List.setIfInBounds_toArray, List.set_cons_zero, List.set_cons_succ]
  refine wpAnyH_take (i := 27) (oi := ?_) (v := ?_) ?_ ?_ ?_ ?_ ?_ ?_ ?_ ?_
  rotate_left 2
  · simp only [List.getElem?_toArray, List.getElem?_cons_succ, List.getElem?_cons_zero]; rfl
  · kernel_rfl
  · kernel_rfl
  · kernel_rfl
  · exact fun _ _ _ h => h
  · refine Or.inl ⟨by rfl, ?_⟩
    intro w' hSw
    (try dsimp only at hSw)
    go_simp
    all_goals (with_reducible rfl)
  · assumption
  try simp only [Act.put, List.setIfInBounds_toArray, List.set_cons_zero, List.set_cons_succ]
  refine wpAnyH_done (by kernel_rfl) ?_ _
  clear hHeld k
  go_wp2
  go_ret
  exact ⟨rfl, below_draws (Below.refl _ _) (1 + d)⟩
/-- the eldest slot's part. -/
def eldZ (R : RgN) (σ : RgS) (s : ByteArray) : Int :=
  let v := lsum R σ s (σ.now R - ((R.n : Int) - 1)) (σ.now R - ((R.n : Int) - 1)) R.n
  if R.sm then leftZ R.s σ.t v else v
/-- how much a key had in the window that ends now, or more. -/
def estZ (R : RgN) (σ : RgS) (s : ByteArray) : Int := clamp (eldZ R σ s + lsum R σ s (σ.now R - ((R.n : Int) - 1) + 1) (σ.now R) R.n)
theorem RgAt.ok (h : RgAt w R σ) : ∀ i, i < R.n → Sk.okC (σ.F i) := fun i hi => (h.hs i hi).ok
theorem eldZ_in (h : RgAt w R σ) (s : ByteArray) : 0 ≤ eldZ R σ s ∧ eldZ R σ s ≤ 9223372036854775807 := by
  have h1 := lsum_in (R := R) (σ := σ) h.ok s (σ.now R - ((R.n : Int) - 1)) (σ.now R - ((R.n : Int) - 1))
  have h2 := leftZ_in (s := R.s) h.bd.2.1.1 (t := σ.t) h1.1
  unfold eldZ
  simp only
  split <;> omega
theorem estZ_in (h : RgAt w R σ) (s : ByteArray) : 0 ≤ estZ R σ s ∧ estZ R σ s ≤ 9223372036854775807 :=
  clamp_two (eldZ_in h s) (lsum_in h.ok s _ _)
theorem restimate_nil (s : ByteArray) (w : World) : Calls Try.prog 18 #[.pointer none, .string s] w fun e w' => e = .returned (.int .i64 0) ∧ w = w' := by
  go_enter Try.func18, Try.ntmps18
  go_wp2
  go_ret
  exact ⟨rfl, rfl⟩
set_option maxHeartbeats 1000000 in
theorem restimate_any (s : ByteArray) (hs : s.size ≤ maxLen) (w : World) (h : RgAt w R σ) :
    Calls Try.prog 18 #[.pointer (some ⟨R.x, 0, none⟩), .string s] w fun e w' => e = .returned (.int .i64 (estZ R σ s)) ∧ Below w.heap.size w w' := by
  have hn := h.bd.1
  have hnow := h.now_in
  have hl := lsum_in (R := R) (σ := σ) h.ok s (σ.now R - ((R.n : Int) - 1)) (σ.now R - ((R.n : Int) - 1))
  have hl2 := lsum_in (R := R) (σ := σ) h.ok s (σ.now R - ((R.n : Int) - 1) + 1) (σ.now R)
  have he := eldZ_in h s
  have CE := Lib.hid (fun wx (hb : Below w.heap.size w wx) => reldest_any wx (h.keep hb))
  have CN := Lib.hid (fun wx (hb : Below w.heap.size w wx) => rnumber_any σ.t h.ht wx (h.keep hb))
  have CL1 := Lib.hid (fun wx (hb : Below w.heap.size w wx) => rleast_any s hs (σ.now R - ((R.n : Int) - 1)) (σ.now R - ((R.n : Int) - 1)) wx (h.keep hb))
  have CL2 := Lib.hid (fun wx (hb : Below w.heap.size w wx) => rleast_any s hs (σ.now R - ((R.n : Int) - 1) + 1) (σ.now R) wx (h.keep hb))
  have CF := Lib.hid (fun wx (hb : Below w.heap.size w wx) => rleft_any _ hl wx (h.keep hb))
  have CS := Lib.hid (fun wx => sum_any (eldZ R σ s) (lsum R σ s (σ.now R - ((R.n : Int) - 1) + 1) (σ.now R) R.n) (by unfold inR; omega) (by unfold inR; omega) wx)
  have HE := Lib.hid (show estZ R σ s = clamp (eldZ R σ s + lsum R σ s (σ.now R - ((R.n : Int) - 1) + 1) (σ.now R) R.n) from rfl)
  have HD := Lib.hid (show eldZ R σ s = if R.sm then leftZ R.s σ.t (lsum R σ s (σ.now R - ((R.n : Int) - 1)) (σ.now R - ((R.n : Int) - 1)) R.n) else lsum R σ s (σ.now R - ((R.n : Int) - 1)) (σ.now R - ((R.n : Int) - 1)) R.n from rfl)
  have HH := Lib.hid h
  change Hid (∀ wx, Below w.heap.size w wx → Calls Try.prog 20 #[.pointer (some ⟨R.x, 0, none⟩), .int .i64 σ.t] wx fun e w' => e = .returned (.int .i64 (σ.now R)) ∧ wx = w') at CN
  obtain ⟨nw, hnw⟩ : ∃ nw, nw = σ.now R := ⟨_, rfl⟩
  rw [← hnw] at CE CN CL1 CL2 CF CS HE HD hnow
  obtain ⟨el, hel⟩ : ∃ el, el = nw - ((R.n : Int) - 1) := ⟨_, rfl⟩
  rw [← hel] at CE CL1 CL2 CF CS HE HD
  obtain ⟨v1, hv1⟩ : ∃ v1, v1 = lsum R σ s el el R.n := ⟨_, rfl⟩
  obtain ⟨v2, hv2⟩ : ∃ v2, v2 = lsum R σ s (el + 1) nw R.n := ⟨_, rfl⟩
  rw [← hv1] at CL1 CF HD
  rw [← hv2] at CL2 CS HE
  have e1 : IntKind.i64.wrap (el + 1) = el + 1 := by rw [IntKind.wrap_i64]; omega
  rw [HE.out]
  clear h hs hn hnow hl hl2 he hnw hel hv1 hv2
  go_enter Try.func18, Try.ntmps18
  go_upto_region 5 with (first
    | (go_at_call 31; ((with_reducible refine (CE.out _ (Below.refl _ _)).mono ?_); rintro e w1 ⟨rfl, b1⟩; have B1 := Lib.hid b1; clear b1))
    | (go_at_call 32; ((with_reducible refine (CL1.out _ B1.out).mono ?_); rintro e w2 ⟨rfl, b2⟩; have B2 := Lib.hid (B1.out.trans (b2.mono B1.out.size)); clear b2)))
  have k := (HH.out.keep B2.out).hx.rd
  unfold ringC at k
  cases hsm : R.sm with
  | false =>
    rw [hsm] at HD k
    simp only [Bool.false_eq_true, if_false] at HD
    rw [HD.out] at CS
    clear hsm
    go_upto_region 7 with (fail)
    have k := (HH.out.keep B2.out).hx.rd
    go_wp2_with (first
      | (go_at_call 20; ((with_reducible refine (CN.out _ B2.out).mono ?_); rintro e w3 ⟨rfl, rfl⟩))
      | (go_at_call 32; ((with_reducible refine (CL2.out _ B2.out).mono ?_); rintro e w4 ⟨rfl, b4⟩; have B4 := Lib.hid (B2.out.trans (b4.mono B2.out.size)); clear b4))
      | (go_at_call 34; ((with_reducible refine (CS.out _).mono ?_); rintro e w5 ⟨rfl, rfl⟩)))
    go_ret
    exact ⟨by rw [HD.out]; rfl, B4.out⟩
  | true =>
    rw [hsm] at HD k
    simp only [if_true] at HD
    rw [HD.out] at CS
    clear hsm
    go_upto_region 7 with (go_at_call 33; ((with_reducible refine (CF.out _ B2.out).mono ?_); rintro e w3 ⟨rfl, b3⟩; have B3 := Lib.hid (B2.out.trans (b3.mono B2.out.size)); clear b3))
    clear k
    have k := (HH.out.keep B3.out).hx.rd
    go_wp2_with (first
      | (go_at_call 20; ((with_reducible refine (CN.out _ B3.out).mono ?_); rintro e w3 ⟨rfl, rfl⟩))
      | (go_at_call 32; ((with_reducible refine (CL2.out _ B3.out).mono ?_); rintro e w4 ⟨rfl, b4⟩; have B4 := Lib.hid (B3.out.trans (b4.mono B3.out.size)); clear b4))
      | (go_at_call 34; ((with_reducible refine (CS.out _).mono ?_); rintro e w5 ⟨rfl, rfl⟩)))
    go_ret
    exact ⟨by rw [HD.out]; rfl, B4.out⟩
end
end Go.Proofs.Ythfaeapodfgldaa
