/- Estimates of rings whose costs are few. -/
import Derived.Test.YthfaeapodfgldaaRgT
namespace Go.Proofs.Ythfaeapodfgldaa
set_option linter.unusedSimpArgs false
set_option linter.unusedVariables false
open Go.ChangeShapes Go.WideShapes Go.ChangeAt Go.RowKit
open Ar (inR)
section
variable {R : RgN} {σ : RgS} {s : ByteArray} {w : World} {T : Int}
theorem lsum_t (t : Int) (a b : Int) : ∀ j, lsum R ⟨t, σ.num, σ.F⟩ s a b j = lsum R σ s a b j
  | 0 => rfl
  | j + 1 => by unfold lsum; rw [lsum_t t a b j]
/-- the parts of an estimate. -/
theorem est_parts (h : RgAt w R σ) (hf : FewR R σ T) (hT : T ≤ 9223372036854775807) :
    estZ R σ s = eldZ R σ s + rsum R σ s (σ.now R - ((R.n : Int) - 1) + 1) (σ.now R) R.n ∧
    eldZ R σ s = (if R.sm then leftZ R.s σ.t (rsum R σ s (σ.now R - ((R.n : Int) - 1)) (σ.now R - ((R.n : Int) - 1)) R.n) else rsum R σ s (σ.now R - ((R.n : Int) - 1)) (σ.now R - ((R.n : Int) - 1)) R.n) ∧
    0 ≤ eldZ R σ s ∧ eldZ R σ s ≤ rsum R σ s (σ.now R - ((R.n : Int) - 1)) (σ.now R - ((R.n : Int) - 1)) R.n := by
  have hn := h.bd.1
  have ha := hf.all s
  have hle : rall R σ.F s R.n ≤ 9223372036854775807 := by omega
  have e1 := lsum_eq (R := R) (s := s) h.ok hle (σ.now R - ((R.n : Int) - 1)) (σ.now R - ((R.n : Int) - 1))
  have e2 := lsum_eq (R := R) (s := s) h.ok hle (σ.now R - ((R.n : Int) - 1) + 1) (σ.now R)
  have r1 := rsum_in (R := R) (σ := σ) (s := s) h.ok (σ.now R - ((R.n : Int) - 1)) (σ.now R - ((R.n : Int) - 1))
  have r2 := rsum_in (R := R) (σ := σ) (s := s) h.ok (σ.now R - ((R.n : Int) - 1) + 1) (σ.now R)
  have r3 := rsum_in (R := R) (σ := σ) (s := s) h.ok (σ.now R - ((R.n : Int) - 1)) (σ.now R)
  have sp := rsum_split (R := R) (σ := σ) (s := s) (a := σ.now R - ((R.n : Int) - 1)) (b := σ.now R) (c := σ.now R - ((R.n : Int) - 1)) (by omega) (by omega) R.n
  have hd : eldZ R σ s = (if R.sm then leftZ R.s σ.t (rsum R σ s (σ.now R - ((R.n : Int) - 1)) (σ.now R - ((R.n : Int) - 1)) R.n) else rsum R σ s (σ.now R - ((R.n : Int) - 1)) (σ.now R - ((R.n : Int) - 1)) R.n) := by
    unfold eldZ; simp only [e1]
  have hl := leftZ_in (s := R.s) h.bd.2.1.1 (t := σ.t) r1.1
  have hb : 0 ≤ eldZ R σ s ∧ eldZ R σ s ≤ rsum R σ s (σ.now R - ((R.n : Int) - 1)) (σ.now R - ((R.n : Int) - 1)) R.n := by
    rw [hd]
    split
    · exact hl
    · exact ⟨r1.1, Int.le_refl _⟩
  refine ⟨?_, hd, hb⟩
  unfold estZ
  rw [e2, clamp_in (by omega)]
theorem est_le_mass (h : RgAt w R σ) (hf : FewR R σ T) (hT : T ≤ 9223372036854775807) {row : Nat} (hrow : row < R.k) : estZ R σ s ≤ msum R σ (row : Int) s (σ.now R - ((R.n : Int) - 1)) R.n := by
  obtain ⟨p1, p2, p3, p4⟩ := est_parts (s := s) h hf hT
  have hn := h.bd.1
  have ha := hf.all s
  have sp := rsum_split (R := R) (σ := σ) (s := s) (a := σ.now R - ((R.n : Int) - 1)) (b := σ.now R) (c := σ.now R - ((R.n : Int) - 1)) (by omega) (by omega) R.n
  have e := lsum_eq (R := R) (s := s) h.ok (by omega : rall R σ.F s R.n ≤ 9223372036854775807) (σ.now R - ((R.n : Int) - 1)) (σ.now R)
  have hm := lsum_le_msum (R := R) (σ := σ) (s := s) (a := σ.now R - ((R.n : Int) - 1)) (b := σ.now R) hrow R.n h.ok
  omega
theorem div_up {t : Int} (ht : 0 ≤ t) {d : Int} (hd : 0 < d) : ((t + 1) / d = t / d ∧ (t + 1) % d = t % d + 1) ∨ (t + 1) / d = t / d + 1 := by
  have h1 := Int.mul_ediv_add_emod t d
  have h3 := Int.emod_nonneg t (Int.ne_of_gt hd)
  have h4 := Int.emod_lt_of_pos t hd
  obtain ⟨q, hq⟩ : ∃ q, q = t / d := ⟨_, rfl⟩
  obtain ⟨r, hr⟩ : ∃ r, r = t % d := ⟨_, rfl⟩
  rw [← hq, ← hr] at h1
  rw [← hr] at h3 h4
  rw [← hq, ← hr]
  by_cases hl : r + 1 < d
  · left
    have e : t + 1 = (r + 1) + d * q := by omega
    constructor
    · rw [e, Int.add_mul_ediv_left _ _ (Int.ne_of_gt hd), Int.ediv_eq_zero_of_lt (by omega) hl, Int.zero_add]
    · rw [e, Int.add_mul_emod_self_left, Int.emod_eq_of_lt (by omega) hl]
  · right
    have e : t + 1 = 0 + d * (q + 1) := by rw [Int.mul_add]; omega
    rw [e, Int.add_mul_ediv_left _ _ (Int.ne_of_gt hd), Int.zero_ediv, Int.zero_add]
theorem left_down {n : Nat} (hn : 1 ≤ n) {t v : Int} (hv : 0 ≤ v) (h : (t + 1) % (n : Int) = t % (n : Int) + 1) : leftZ n (t + 1) v ≤ leftZ n t v := by
  unfold leftZ
  rw [h]
  refine Int.ediv_le_ediv (by omega) ?_
  have : v * ((n : Int) - (t % (n : Int) + 1)) ≤ v * ((n : Int) - t % (n : Int)) := Int.mul_le_mul_of_nonneg_left (by omega) hv
  omega
/-- as time goes on, with nothing new, no estimate rises. -/
theorem est_fades {w' : World} (h : RgAt w R σ) (h' : RgAt w' R ⟨σ.t + 1, σ.num, σ.F⟩) (hf : FewR R σ T) (hT : T ≤ 9223372036854775807) : estZ R ⟨σ.t + 1, σ.num, σ.F⟩ s ≤ estZ R σ s := by
  have hn := h.bd.1
  have hs := h.bd.2.1
  have hf' := hf.to (t := σ.t + 1) hs.1 (by omega)
  obtain ⟨p1, p2, p3, p4⟩ := est_parts (s := s) h hf hT
  obtain ⟨q1, q2, q3, q4⟩ := est_parts (s := s) h' hf' hT
  have hr : ∀ a b j, rsum R ⟨σ.t + 1, σ.num, σ.F⟩ s a b j = rsum R σ s a b j := by
    intro a b j
    induction j with
    | zero => rfl
    | succ j ih => unfold rsum; rw [ih]
  rcases div_up h.ht.1 (show (0 : Int) < (R.s : Int) by omega) with ⟨d1, d2⟩ | d1
  · have e : RgS.now ⟨σ.t + 1, σ.num, σ.F⟩ R = σ.now R := d1
    rw [e] at q1 q2
    rw [hr] at q1 q2
    have hle : eldZ R ⟨σ.t + 1, σ.num, σ.F⟩ s ≤ eldZ R σ s := by
      rw [q2, p2]
      split
      · exact left_down hs.1 (rsum_in (R := R) (σ := σ) (s := s) h.ok _ _).1 d2
      · exact Int.le_refl _
    omega
  · have e : RgS.now ⟨σ.t + 1, σ.num, σ.F⟩ R = σ.now R + 1 := d1
    rw [e] at q1 q4
    rw [hr] at q1 q4
    have e1 : σ.now R + 1 - ((R.n : Int) - 1) = σ.now R - ((R.n : Int) - 1) + 1 := by omega
    rw [e1] at q1 q4
    have sp1 := rsum_split (R := R) (σ := σ) (s := s) (a := σ.now R - ((R.n : Int) - 1) + 1) (b := σ.now R) (c := σ.now R - ((R.n : Int) - 1) + 1) (by omega) (by omega) R.n
    have sp2 := rsum_split (R := R) (σ := σ) (s := s) (a := σ.now R - ((R.n : Int) - 1) + 1 + 1) (b := σ.now R + 1) (c := σ.now R) (by omega) (by omega) R.n
    have z := rsum_out (R := R) (σ := σ) (s := s) (a := σ.now R + 1) (b := σ.now R + 1) (j := R.n) (fun i hi => by have := hf.now i hi; omega)
    omega
/-- behind a window and a slot nothing is left. -/
theorem est_gone (h : RgAt w R σ) (hf : FewR R σ T) (hT : T ≤ 9223372036854775807) (hg : ∀ i, i < R.n → σ.num i < σ.now R - ((R.n : Int) - 1)) : estZ R σ s = 0 := by
  obtain ⟨p1, p2, p3, p4⟩ := est_parts (s := s) h hf hT
  have z1 := rsum_out (R := R) (σ := σ) (s := s) (a := σ.now R - ((R.n : Int) - 1)) (b := σ.now R - ((R.n : Int) - 1)) (j := R.n) (fun i hi => by have := hg i hi; omega)
  have z2 := rsum_out (R := R) (σ := σ) (s := s) (a := σ.now R - ((R.n : Int) - 1) + 1) (b := σ.now R) (j := R.n) (fun i hi => by have := hg i hi; omega)
  omega
end
end Go.Proofs.Ythfaeapodfgldaa
