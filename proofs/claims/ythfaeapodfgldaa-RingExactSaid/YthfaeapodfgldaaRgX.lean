/- Waits of rings whose costs are few. -/
import Derived.Test.YthfaeapodfgldaaRgU
namespace Go.Proofs.Ythfaeapodfgldaa
set_option linter.unusedSimpArgs false
set_option linter.unusedVariables false
open Go.ChangeShapes Go.WideShapes Go.ChangeAt Go.RowKit
open Ar (inR)
theorem left_whole {s : Nat} (hs : 1 ≤ s) (x v : Int) : leftZ s (x * (s : Int)) v = v := by
  unfold leftZ
  rw [Int.mul_emod_left, Int.sub_zero, show v * (s : Int) + (s : Int) - 1 = ((s : Int) - 1) + v * (s : Int) by omega, Int.add_mul_ediv_right _ _ (by omega), Int.ediv_eq_zero_of_lt (by omega) (by omega), Int.zero_add]
section
variable {R : RgN} {σ : RgS} {s : ByteArray} {w : World} {T : Int}
theorem rsum_t (t : Int) (a b : Int) : ∀ j, rsum R ⟨t, σ.num, σ.F⟩ s a b j = rsum R σ s a b j
  | 0 => rfl
  | j + 1 => by unfold rsum; rw [rsum_t t a b j]
theorem rsum_hi {a b : Int} {c : Int} (hc : c ≤ b) : ∀ j, (∀ i, i < j → σ.num i ≤ c) → rsum R σ s a b j = rsum R σ s a c j
  | 0, _ => rfl
  | j + 1, h => by
    have ih := rsum_hi (a := a) (b := b) hc j (fun i hi => h i (by omega))
    have hj := h j (by omega)
    unfold rsum
    rw [ih]
    by_cases ha : a ≤ σ.num j
    · rw [if_pos ⟨ha, by omega⟩, if_pos ⟨ha, hj⟩]
    · rw [if_neg (fun hh => ha hh.1), if_neg (fun hh => ha hh.1)]
theorem beg_now (hs : 1 ≤ R.s) (x : Int) : RgS.now ⟨x * (R.s : Int), σ.num, σ.F⟩ R = x := by
  show x * (R.s : Int) / (R.s : Int) = x
  exact Int.mul_ediv_cancel _ (by omega)
/-- an estimate at the beginning of a slot: the whole of what is in the ring. -/
theorem est_begin {x : Int} (h : RgAt w R ⟨x * (R.s : Int), σ.num, σ.F⟩) (hf : FewR R σ T) (hT : T ≤ 9223372036854775807) (hx : σ.now R ≤ x) : estZ R ⟨x * (R.s : Int), σ.num, σ.F⟩ s = rsum R σ s (x - ((R.n : Int) - 1)) (σ.now R) R.n := by
  have hs := h.bd.2.1.1
  have hn := h.bd.1
  have hf' : FewR R ⟨x * (R.s : Int), σ.num, σ.F⟩ T := ⟨hf.all, fun i hi => by rw [beg_now hs]; exact Int.le_trans (hf.now i hi) hx⟩
  obtain ⟨p1, p2, p3, p4⟩ := est_parts (s := s) h hf' hT
  rw [beg_now hs] at p1 p2
  simp only [rsum_t] at p1 p2
  have e : eldZ R ⟨x * (R.s : Int), σ.num, σ.F⟩ s = rsum R σ s (x - ((R.n : Int) - 1)) (x - ((R.n : Int) - 1)) R.n := by
    rw [p2]
    split
    · exact left_whole hs _ _
    · rfl
  have sp := rsum_split (R := R) (σ := σ) (s := s) (a := x - ((R.n : Int) - 1)) (b := x) (c := x - ((R.n : Int) - 1)) (by omega) (by omega) R.n
  have hh := rsum_hi (R := R) (σ := σ) (s := s) (a := x - ((R.n : Int) - 1)) (b := x) hx R.n hf.now
  omega
theorem room_iff (h : RgAt w R σ) (hf : FewR R σ T) {c x : Int} (hc : 0 ≤ c) (hTc : T + c ≤ 9223372036854775807) : roomAt R σ s c x ↔ rsum R σ s (x - ((R.n : Int) - 1)) (σ.now R) R.n + c ≤ R.L := by
  have ha := hf.all s
  have e := lsum_eq (R := R) (s := s) h.ok (by omega : rall R σ.F s R.n ≤ 9223372036854775807) (x - ((R.n : Int) - 1)) (σ.now R)
  have r := rsum_in (R := R) (σ := σ) (s := s) h.ok (x - ((R.n : Int) - 1)) (σ.now R)
  unfold roomAt
  rw [e, clamp_in (by omega)]
/-- the slots before the next with room have none; the next has, or is the last that was asked. -/
theorem nextR_spec (R : RgN) (σ : RgS) (s : ByteArray) (c : Int) : ∀ (j : Nat) (x : Int), (∀ y, x ≤ y → y < nextR R σ s c j x → ¬ roomAt R σ s c y) ∧ (roomAt R σ s c (nextR R σ s c j x) ∨ nextR R σ s c j x = x + j)
  | 0, x => ⟨fun y h1 h2 => by have h2' : y < x := h2; omega, Or.inr (by show x = x + 0; omega)⟩
  | j + 1, x => by
    obtain ⟨i1, i2⟩ := nextR_spec R σ s c j (x + 1)
    by_cases hr : roomAt R σ s c x
    · have e : nextR R σ s c (j + 1) x = x := by unfold nextR; rw [if_pos hr]
      rw [e]
      exact ⟨fun y h1 h2 => by omega, Or.inl hr⟩
    · have e : nextR R σ s c (j + 1) x = nextR R σ s c j (x + 1) := by
        show (if roomAt R σ s c x then x else nextR R σ s c j (x + 1)) = _
        rw [if_neg hr]
      rw [e]
      refine ⟨fun y h1 h2 => ?_, ?_⟩
      · by_cases hy : y = x
        · rw [hy]; exact hr
        · exact i1 y (by omega) h2
      · rcases i2 with i2 | i2
        · exact Or.inl i2
        · exact Or.inr (by omega)
/-- what a wait is, if there is one. -/
theorem wait_facts (h : RgAt w R σ) (hf : FewR R σ T) {c : Int} (hc : 1 ≤ c ∧ c ≤ R.L) (hTc : T + c ≤ 9223372036854775807) (hbig : σ.t + (R.n : Int) * (R.s : Int) ≤ 9223372036854775807) :
    (estZ R σ s + c ≤ R.L ∧ waitR R σ s c = 0) ∨
    (R.L < estZ R σ s + c ∧ ∃ nx : Int, σ.now R + 1 ≤ nx ∧ nx ≤ σ.now R + (R.n : Int) ∧ σ.t + waitR R σ s c = nx * (R.s : Int) ∧ 1 ≤ waitR R σ s c ∧ waitR R σ s c ≤ (R.n : Int) * (R.s : Int) ∧
      (∀ y, σ.now R + 1 ≤ y → y < nx → R.L < rsum R σ s (y - ((R.n : Int) - 1)) (σ.now R) R.n + c) ∧
      rsum R σ s (nx - ((R.n : Int) - 1)) (σ.now R) R.n + c ≤ R.L) := by
  have hs := h.bd.2.1.1
  have hn := h.bd.1
  have ht := h.ht
  have ha := hf.all s
  obtain ⟨p1, p2, p3, p4⟩ := est_parts (s := s) h hf (by omega)
  have sp := rsum_split (R := R) (σ := σ) (s := s) (a := σ.now R - ((R.n : Int) - 1)) (b := σ.now R) (c := σ.now R - ((R.n : Int) - 1)) (by omega) (by omega) R.n
  have r3 := rsum_in (R := R) (σ := σ) (s := s) h.ok (σ.now R - ((R.n : Int) - 1)) (σ.now R)
  have r4 := rsum_in (R := R) (σ := σ) (s := s) h.ok (σ.now R - ((R.n : Int) - 1) + 1) (σ.now R)
  have ec : clamp (estZ R σ s + c) = estZ R σ s + c := clamp_in (by omega)
  by_cases hr : estZ R σ s + c ≤ R.L
  · left
    refine ⟨hr, ?_⟩
    unfold waitR
    rw [ec, if_pos hr]
  · right
    obtain ⟨nx, hnx⟩ : ∃ nx, nx = nextR R σ s c (R.n - 1) (σ.now R + 1) := ⟨_, rfl⟩
    have b := nextR_in R σ s c (R.n - 1) (σ.now R + 1)
    obtain ⟨q1, q2⟩ := nextR_spec R σ s c (R.n - 1) (σ.now R + 1)
    rw [← hnx] at b q1 q2
    have hb2 : nx ≤ σ.now R + (R.n : Int) := by omega
    have hlo : σ.now R * (R.s : Int) ≤ σ.t := Int.ediv_mul_le _ (by omega)
    have hhi : σ.t < (σ.now R + 1) * (R.s : Int) := Int.lt_ediv_add_one_mul_self _ (by omega)
    have m1 : (σ.now R + 1) * (R.s : Int) ≤ nx * (R.s : Int) := Int.mul_le_mul_of_nonneg_right b.1 (by omega)
    have m2 : nx * (R.s : Int) ≤ (σ.now R + (R.n : Int)) * (R.s : Int) := Int.mul_le_mul_of_nonneg_right hb2 (by omega)
    rw [Int.add_mul] at m2
    have ew : waitR R σ s c = nx * (R.s : Int) - σ.t := by
      unfold waitR
      rw [ec, if_neg hr, ← hnx, clamp_in (by omega)]
    refine ⟨by omega, nx, b.1, hb2, by omega, by omega, by omega, fun y h1 h2 => ?_, ?_⟩
    · have := q1 y h1 h2
      rw [room_iff h hf (by omega) hTc] at this
      omega
    · rcases q2 with q2 | q2
      · exact (room_iff h hf (by omega) hTc).1 q2
      · have z := rsum_out (R := R) (σ := σ) (s := s) (a := nx - ((R.n : Int) - 1)) (b := σ.now R) (j := R.n) (fun i hi => by have := hf.now i hi; omega)
        rw [z]
        omega
end
end Go.Proofs.Ythfaeapodfgldaa
