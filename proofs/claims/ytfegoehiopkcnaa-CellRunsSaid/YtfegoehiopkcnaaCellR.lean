/- Cells of small plans: no number runs over; what their room and wait are, by products alone. -/
import Derived.Test.YtfegoehiopkcnaaCellL
import Derived.Test.YtfegoehiopkcnaaCellU
namespace Go.Proofs.Ytfegoehiopkcnaa
set_option linter.unusedSimpArgs false
set_option linter.unusedVariables false
set_option maxRecDepth 100000
open Go.ChangeShapes Go.WideShapes Go.ChangeAt Go.RowKit
open Ar (inR)
theorem le_tdiv {U k x : Int} (hU : 1 ≤ U) (hk : 1 ≤ k) : k ≤ x.tdiv U ↔ k * U ≤ x := by
  rcases Int.lt_or_le x 0 with hx | hx
  · have h1 : x.tdiv U ≤ 0 := by
      have : 0 ≤ (-x).tdiv U := Int.tdiv_nonneg (by omega) (by omega)
      rw [Int.neg_tdiv] at this
      omega
    have h2 : 0 ≤ k * U := Int.mul_nonneg (by omega) (by omega)
    constructor <;> intro h <;> omega
  · rw [Int.tdiv_eq_ediv_of_nonneg hx]
    exact Int.le_ediv_iff_mul_le (by omega)
structure Rng (F S C D U W B L t : Int) : Prop where
  F : 0 ≤ F ∧ F ≤ 4611686018427387904
  S : 0 ≤ S ∧ S ≤ 4611686018427387904
  C : 0 ≤ C ∧ C ≤ 63
  D : 0 ≤ D ∧ D ≤ 1048576
  U : 1 ≤ U ∧ U ≤ 256
  W : 1 ≤ W ∧ W ≤ 256
  B : 1 ≤ B ∧ B ≤ 32
  L : 1 ≤ L ∧ L ≤ 32
  t : 0 ≤ t ∧ t ≤ 4611686018427387904
/-- how much conforms, the carry aside. -/
def baseP (F U B t : Int) : Int := max 0 (min ((t + B * U - max F t).tdiv U) B)
def restP (C D L : Int) : Int := max 0 (L - (C + D))
def roomP (F S C D U W B L t : Int) : Int := if t < S + W then min (baseP F U B t) (restP C D L) else baseP F U B t
def waitP (F S C D U W B L t cost : Int) : Int := (if max t (F - (B - cost) * U) < S + W ∧ restP C D L < cost then S + W else max t (F - (B - cost) * U)) - t
theorem base_iff {F U B t k : Int} (hU : 1 ≤ U) (hk : 1 ≤ k) : k ≤ baseP F U B t ↔ k ≤ B ∧ k * U + max F t ≤ t + B * U := by
  have h := le_tdiv (x := t + B * U - max F t) hU hk
  unfold baseP
  generalize (t + B * U - max F t).tdiv U = q at *
  generalize k * U = ku at *
  generalize B * U = bu at *
  constructor
  · intro g; have : k ≤ q := by omega
    have := h.1 this; omega
  · intro g; have : k ≤ q := h.2 (by omega)
    omega
theorem base_lo (F U B t : Int) : 0 ≤ baseP F U B t := by unfold baseP; omega
theorem base_hi {F U B t : Int} (hB : 0 ≤ B) : baseP F U B t ≤ B := by unfold baseP; omega
theorem room_lo (F S C D U W B L t : Int) : 0 ≤ roomP F S C D U W B L t := by
  have := base_lo F U B t; unfold roomP restP; split <;> omega
theorem room_hi {F S C D U W B L t : Int} (hB : 0 ≤ B) : roomP F S C D U W B L t ≤ B := by
  have := base_hi (F := F) (U := U) (t := t) hB; unfold roomP; split <;> omega
section
variable {F S C D U W B L t : Int}
theorem Rng.bu (h : Rng F S C D U W B L t) : 0 ≤ B * U ∧ B * U ≤ 8192 :=
  ⟨Int.mul_nonneg (by have := h.B; omega) (by have := h.U; omega), Int.mul_le_mul h.B.2 h.U.2 (by have := h.U; omega) (by omega)⟩
theorem Rng.clamps (h : Rng F S C D U W B L t) : roomZ F S C D U W B L t = roomP F S C D U W B L t ∧ inR (clamp (t + clamp (B * U)) - max F t) ∧ inR (-clamp (C + D)) ∧ clamp (S + W) = S + W ∧ restZ C D L = restP C D L := by
  have hb := h.bu
  obtain ⟨hF, hS, hC, hD, hU, hW, hB, hL, ht⟩ := h
  have e5 : clamp (S + W) = S + W := clamp_in (by unfold inR; omega)
  have e6 : clamp (C + D) = C + D := clamp_in (by unfold inR; omega)
  have e7 : clamp (L + -(C + D)) = L - (C + D) := by rw [← Int.sub_eq_add_neg]; exact clamp_in (by unfold inR; omega)
  unfold roomZ roomP restZ baseP restP
  generalize B * U = bu at *
  have e1 : clamp bu = bu := clamp_in (by unfold inR; omega)
  have e2 : clamp (t + bu) = t + bu := clamp_in (by unfold inR; omega)
  rw [e1, e2, e5, e6, e7]
  exact ⟨rfl, by unfold inR; omega, by unfold inR; omega, rfl, rfl⟩
theorem room_rng (h : Rng F S C D U W B L t) (w : World) :
    Calls Try.prog 17 #[cv F S C D, pv U W B L, .int .i64 t] w fun e w' => e = .returned (.int .i64 (roomP F S C D U W B L t)) ∧ Below w.heap.size w w' := by
  obtain ⟨h1, h2, h3, _, _⟩ := h.clamps
  obtain ⟨hF, hS, hC, hD, hU, hW, hB, hL, ht⟩ := h
  rw [← h1]
  exact room_any F S C D U W B L t (by unfold inR; omega) (by unfold inR; omega) (by unfold inR; omega) (by omega) (by unfold inR; omega) (by unfold inR; omega) (by unfold inR; omega) (by unfold inR; omega) h3 h2 w
theorem Rng.kb {k : Int} (h : Rng F S C D U W B L t) (hk : 1 ≤ k ∧ k ≤ B) : 0 ≤ (B - k) * U ∧ (B - k) * U ≤ 8192 ∧ (B - k) * U = B * U - k * U ∧ 1 ≤ k * U := by
  have hb := h.bu
  have h1 : 0 ≤ (B - k) * U := Int.mul_nonneg (by omega) (by have := h.U; omega)
  have h2 : (B - k) * U = B * U - k * U := Int.sub_mul _ _ _
  have h3 : 1 * U ≤ k * U := Int.mul_le_mul_of_nonneg_right hk.1 (by have := h.U; omega)
  have := h.U
  refine ⟨h1, by omega, h2, by omega⟩
theorem wait_rng {cost : Int} (h : Rng F S C D U W B L t) (hc : 1 ≤ cost ∧ cost ≤ B) (w : World) :
    Calls Try.prog 19 #[cv F S C D, pv U W B L, .int .i64 t, .int .i64 cost] w fun e w' => e = .returned (.int .i64 (waitP F S C D U W B L t cost)) ∧ Below w.heap.size w w' := by
  obtain ⟨h1, h2, h3, h4, h5⟩ := h.clamps
  obtain ⟨k1, k2, k3, k4⟩ := h.kb hc
  obtain ⟨hF, hS, hC, hD, hU, hW, hB, hL, ht⟩ := h
  have e : waitZ F S C D U W B L t cost = waitP F S C D U W B L t cost := by unfold waitZ waitP; rw [h4, h5]
  rw [← e]
  refine wait_any F S C D U W B L t cost (by unfold inR; omega) (by unfold inR; omega) (by unfold inR; omega) (by unfold inR; omega) (by unfold inR; omega) (by unfold inR; omega) h3 (by unfold inR; omega) (by unfold inR; omega) (by unfold inR; omega) ?_ w
  rw [e]; unfold waitP inR
  generalize (B - cost) * U = v at *
  generalize cost * U = cu at *
  generalize B * U = bu at *
  split <;> omega
theorem take_rng_yes {cost : Int} (h : Rng F S C D U W B L t) (hc : 1 ≤ cost ∧ cost ≤ roomP F S C D U W B L t) (w : World) (bc : Nat) (hca : CellAt w bc F S C D) :
    Calls Try.prog 21 #[.pointer (some ⟨bc, 0, none⟩), pv U W B L, .int .i64 t, .int .i64 cost] w fun e w' => e = .returned (.bool true) ∧ CellAt w' bc (max F t + cost * U) S C (D + cost) ∧ Fr (fun k => k = bc) w w' := by
  obtain ⟨h1, h2, h3, h4, h5⟩ := h.clamps
  have hcB : cost ≤ B := Int.le_trans hc.2 (room_hi (by have := h.B; omega))
  obtain ⟨k1, k2, k3, k4⟩ := h.kb ⟨hc.1, hcB⟩
  have hb := h.bu
  obtain ⟨hF, hS, hC, hD, hU, hW, hB, hL, ht⟩ := h
  have := take_yes F S C D U W B L t cost (by unfold inR; omega) (by unfold inR; omega) (by unfold inR; omega) (by omega) (by unfold inR; omega) (by unfold inR; omega) (by unfold inR; omega) (by unfold inR; omega) h3 h2 (by unfold inR; omega) (by unfold inR; omega) (by unfold inR; omega) (by rw [h1]; exact hc) w bc hca
  rw [show clamp (cost * U) = cost * U from clamp_in (by unfold inR; omega), show clamp (max F t + cost * U) = max F t + cost * U from clamp_in (by unfold inR; omega)] at this
  exact this
theorem take_rng_no {cost : Int} (h : Rng F S C D U W B L t) (hc : cost < 1 ∨ roomP F S C D U W B L t < cost) (w : World) (bc : Nat) (hca : CellAt w bc F S C D) :
    Calls Try.prog 21 #[.pointer (some ⟨bc, 0, none⟩), pv U W B L, .int .i64 t, .int .i64 cost] w fun e w' => e = .returned (.bool false) ∧ Below w.heap.size w w' := by
  rcases Int.lt_or_le cost 1 with hlo | hlo
  · exact take_low U W B L t cost hlo w bc
  · obtain ⟨h1, h2, h3, h4, h5⟩ := h.clamps
    have hb := h.bu
    obtain ⟨hF, hS, hC, hD, hU, hW, hB, hL, ht⟩ := h
    exact take_no F S C D U W B L t cost (by unfold inR; omega) (by unfold inR; omega) (by unfold inR; omega) (by omega) (by unfold inR; omega) (by unfold inR; omega) (by unfold inR; omega) (by unfold inR; omega) h3 h2 hlo (by rw [h1]; omega) w bc hca
/-- what a taken cost leaves. -/
theorem take_leaves {cost : Int} (h : Rng F S C D U W B L t) (hc : 1 ≤ cost ∧ cost ≤ roomP F S C D U W B L t) :
    max F t + cost * U ≤ t + B * U ∧ roomP (max F t + cost * U) S C (D + cost) U W B L t ≤ roomP F S C D U W B L t - cost := by
  have hU := h.U.1
  have hb : cost ≤ baseP F U B t := by have := hc.2; unfold roomP at this; split at this <;> omega
  have h1 := (base_iff hU hc.1).1 hb
  refine ⟨by omega, ?_⟩
  have h2 : baseP (max F t + cost * U) U B t ≤ baseP F U B t - cost := by
    rcases Int.lt_or_le (baseP (max F t + cost * U) U B t) 1 with g | g
    · omega
    · obtain ⟨k, hk⟩ : ∃ k, k = baseP (max F t + cost * U) U B t := ⟨_, rfl⟩
      rw [← hk] at g ⊢
      have h3 := (base_iff hU g).1 (Int.le_of_eq hk)
      have h4 : (k + cost) * U = k * U + cost * U := Int.add_mul _ _ _
      have hlt : k + cost ≤ B := by
        rcases Int.lt_or_le B (k + cost) with hg | hg
        · have : (B + 1) * U ≤ (k + cost) * U := Int.mul_le_mul_of_nonneg_right (by omega) (by omega)
          have h5 : (B + 1) * U = B * U + U := by rw [Int.add_mul, Int.one_mul]
          omega
        · exact hg
      have := (base_iff (F := F) (t := t) (B := B) hU (show 1 ≤ k + cost by omega)).2 ⟨hlt, by omega⟩
      omega
  have hc2 := hc.2
  unfold roomP restP at *
  split <;> split at hc2 <;> omega
theorem room_later {d : Int} (hU : 1 ≤ U) (hd : 0 ≤ d) (hD : 0 ≤ C + D) : (roomP F S C D U W B L t) ≤ roomP F S C D U W B L (t + d) := by
  have h2 : baseP F U B t ≤ baseP F U B (t + d) := by
    rcases Int.lt_or_le (baseP F U B t) 1 with g | g
    · have := base_lo F U B (t + d); omega
    · obtain ⟨k, hk⟩ : ∃ k, k = baseP F U B t := ⟨_, rfl⟩
      rw [← hk] at g ⊢
      have h3 := (base_iff hU g).1 (Int.le_of_eq hk)
      exact (base_iff hU g).2 ⟨h3.1, by omega⟩
  unfold roomP
  split <;> split <;> omega
theorem room_full {T : Int} (hU : 1 ≤ U) (hB : 1 ≤ B) (hF : F ≤ T) (hT : S + W ≤ T) : roomP F S C D U W B L T = B := by
  have h1 := (base_iff (F := F) (t := T) (B := B) hU hB).2 ⟨Int.le_refl _, by omega⟩
  have h2 := base_hi (F := F) (U := U) (t := T) (show 0 ≤ B by omega)
  unfold roomP
  rw [if_neg (by omega)]
  omega
end
end Go.Proofs.Ytfegoehiopkcnaa
