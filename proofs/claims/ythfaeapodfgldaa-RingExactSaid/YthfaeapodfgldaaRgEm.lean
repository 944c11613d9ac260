/- A ring that has one key alone: what it tells is what was added. -/
import Derived.Test.YthfaeapodfgldaaRgX
namespace Go.Proofs.Ythfaeapodfgldaa
set_option linter.unusedSimpArgs false
set_option linter.unusedVariables false
open Go.ChangeShapes Go.WideShapes Go.ChangeAt Go.RowKit
open Ar (inR)
/-- what was added in the slots from one to another. -/
def qsum (S : Nat) (a b : Int) : List (Int × Int) → Int
  | [] => 0
  | x :: l => qsum S a b l + (if a ≤ x.1 / (S : Int) ∧ x.1 / (S : Int) ≤ b then x.2 else 0)
theorem qsum_app (S : Nat) (a b : Int) (x : Int × Int) : ∀ l, qsum S a b (l ++ [x]) = qsum S a b l + (if a ≤ x.1 / (S : Int) ∧ x.1 / (S : Int) ≤ b then x.2 else 0)
  | [] => by simp [qsum]
  | y :: l => by
    show qsum S a b (l ++ [x]) + _ = qsum S a b l + _ + _
    rw [qsum_app S a b x l]
    omega
theorem qsum_in (S : Nat) (a b : Int) : ∀ l : List (Int × Int), (∀ x ∈ l, 0 ≤ x.2 ∧ x.2 ≤ 255) → 0 ≤ qsum S a b l ∧ qsum S a b l ≤ 255 * (l.length : Int)
  | [], _ => by simp [qsum]
  | x :: l, h => by
    have ih := qsum_in S a b l (fun y hy => h y (List.mem_cons_of_mem _ hy))
    have hx := h x (List.mem_cons_self ..)
    rw [List.length_cons]
    unfold qsum
    split <;> omega
theorem qsum_split (S : Nat) {a b c : Int} (h1 : a ≤ c + 1) (h2 : c ≤ b) : ∀ l, qsum S a b l = qsum S a c l + qsum S (c + 1) b l
  | [] => rfl
  | x :: l => by
    have ih := qsum_split S h1 h2 l
    unfold qsum
    obtain ⟨q, hq⟩ : ∃ q, q = x.1 / (S : Int) := ⟨_, rfl⟩
    rw [← hq, ih]
    by_cases c1 : a ≤ q ∧ q ≤ c
    · rw [if_pos c1, if_pos ⟨c1.1, by omega⟩, if_neg (fun h => by omega)]; omega
    · by_cases c2 : c + 1 ≤ q ∧ q ≤ b
      · rw [if_neg c1, if_pos c2, if_pos ⟨by omega, c2.2⟩]; omega
      · rw [if_neg c1, if_neg c2, if_neg (fun h => by omega)]; omega
theorem qsum_none (S : Nat) {a b : Int} (h : b < a) : ∀ l, qsum S a b l = 0
  | [] => rfl
  | x :: l => by
    unfold qsum
    rw [qsum_none S h l, if_neg (fun h' => by omega)]; rfl
/-- what the law knows of a ring that has one key. -/
structure ExR (R : RgN) (σ : RgS) (s : ByteArray) (l : List (Int × Int)) : Prop where
  cs : ∀ x ∈ l, 0 ≤ x.2 ∧ x.2 ≤ 255
  eq : ∀ a b, σ.now R - ((R.n : Int) - 1) ≤ a → rsum R σ s a b R.n = qsum R.s a b l
  pl : ∀ i, i < R.n → σ.num i % (R.n : Int) = (i : Int) ∨ Sk.leastR (σ.F i) R.P s (R.k - 1) = 0
  un : ∀ i r, i < R.n → r < R.k → σ.F i r (R.P r s) = Sk.leastR (σ.F i) R.P s (R.k - 1)
theorem rsum_zero (R : RgN) (t : Int) (num : Nat → Int) (s : ByteArray) (a b : Int) : ∀ j, rsum R ⟨t, num, fun _ _ _ => 0⟩ s a b j = 0
  | 0 => rfl
  | j + 1 => by
    show rsum R ⟨t, num, fun _ _ _ => 0⟩ s a b j + (if a ≤ num j ∧ num j ≤ b then Sk.leastR (fun _ _ => 0) R.P s (R.k - 1) else 0) = 0
    rw [rsum_zero R t num s a b j, least_zero]
    split <;> rfl
theorem ExR.new (R : RgN) (s : ByteArray) : ExR R ⟨0, fun _ => 0, fun _ _ _ => 0⟩ s [] :=
  ⟨(fun _ h => by cases h), fun a b _ => rsum_zero R 0 _ s a b R.n, fun _ _ => Or.inr (least_zero _ _ _), fun i r _ _ => (least_zero R.P s (R.k - 1)).symm⟩
section
variable {R : RgN} {σ : RgS} {l : List (Int × Int)} {T : Int} {s : ByteArray}
theorem ExR.to {t : Int} (h : ExR R σ s l) (hs : 1 ≤ R.s) (ht : σ.t ≤ t) : ExR R ⟨t, σ.num, σ.F⟩ s l := by
  have h2 : σ.now R ≤ t / (R.s : Int) := Int.ediv_le_ediv (by omega) ht
  refine ⟨h.cs, fun a b ha => ?_, h.pl, h.un⟩
  have ha' : t / (R.s : Int) - ((R.n : Int) - 1) ≤ a := ha
  rw [rsum_t]
  exact h.eq a b (by omega)
theorem mod_apart' {x y n : Int} (hn : 0 < n) (h : x % n = y % n) (hl : x < y) : x ≤ y - n := by
  have h1 := Int.mul_ediv_add_emod x n
  have h2 := Int.mul_ediv_add_emod y n
  have h3 : x / n < y / n := by
    by_cases hc : x / n < y / n
    · exact hc
    · have := Int.mul_le_mul_of_nonneg_left (Int.not_lt.1 hc) (Int.le_of_lt hn)
      omega
  have h4 : n * (x / n + 1) ≤ n * (y / n) := Int.mul_le_mul_of_nonneg_left (by omega) (Int.le_of_lt hn)
  rw [Int.mul_add] at h4
  omega
theorem rsum_pt_eq {τ : RgS} {a b : Int} {p : Nat} {e : Int} (h1 : ∀ i, i ≠ p → τ.num i = σ.num i ∧ τ.F i = σ.F i)
    (h2 : (if a ≤ τ.num p ∧ τ.num p ≤ b then Sk.leastR (τ.F p) R.P s (R.k - 1) else 0) = (if a ≤ σ.num p ∧ σ.num p ≤ b then Sk.leastR (σ.F p) R.P s (R.k - 1) else 0) + e) :
    ∀ j, rsum R τ s a b j = rsum R σ s a b j + (if p < j then e else 0)
  | 0 => by rw [if_neg (by omega)]; rfl
  | j + 1 => by
    have ih := rsum_pt_eq h1 h2 j
    show rsum R τ s a b j + (if a ≤ τ.num j ∧ τ.num j ≤ b then Sk.leastR (τ.F j) R.P s (R.k - 1) else 0) = rsum R σ s a b j + (if a ≤ σ.num j ∧ σ.num j ≤ b then Sk.leastR (σ.F j) R.P s (R.k - 1) else 0) + _
    by_cases hp : j = p
    · subst hp
      rw [if_neg (show ¬ j < j by omega)] at ih
      rw [if_pos (show j < j + 1 by omega), ih, h2]
      omega
    · obtain ⟨q1, q2⟩ := h1 j hp
      rw [q1, q2, ih]
      have hc : (if p < j + 1 then e else 0) = (if p < j then e else 0) := by
        by_cases hpj : p < j
        · rw [if_pos hpj, if_pos (by omega)]
        · rw [if_neg hpj, if_neg (by omega)]
      rw [hc]
      omega
/-- an added cost, in a part whose counters of the key are all the same. -/
theorem add_un {f : Nat → Nat → Int} {P : Nat → ByteArray → Nat} {k : Nat} (hok : Sk.okC f) (hk : 1 ≤ k) {c : Int} (hc : 0 ≤ c ∧ c ≤ 9223372036854775807) (hb : Sk.leastR f P s (k - 1) + c ≤ 9223372036854775807) (hu : ∀ r, r < k → f r (P r s) = Sk.leastR f P s (k - 1)) :
    Sk.leastR (Sk.add f P k s c) P s (k - 1) = Sk.leastR f P s (k - 1) + c ∧ ∀ r, r < k → Sk.add f P k s c r (P r s) = Sk.leastR f P s (k - 1) + c := by
  have hl := hok.least P s (k - 1)
  by_cases h0 : c < 1
  · have hc0 : c = 0 := by omega
    subst hc0
    unfold Sk.add
    rw [if_pos (by omega)]
    exact ⟨by omega, fun r hr => by rw [hu r hr]; omega⟩
  · refine ⟨?_, fun r hr => ?_⟩
    · rw [Sk.add_self hok P hk s ⟨by omega, hc.2⟩, clamp_in (by omega)]
    · unfold Sk.add
      rw [if_neg h0, clamp_in (by omega)]
      unfold Sk.raise
      rw [if_pos ⟨hr, rfl⟩, hu r hr]
      omega
theorem ExR.add {w : World} (h : ExR R σ s l) (hf : FewR R σ T) (hg : RgAt w R σ) (hk : 1 ≤ R.k) {c : Int} (hc : 0 ≤ c ∧ c ≤ 255) (hT : T ≤ 9223372036854775000) : ExR R (σ.add R s c) s (l ++ [(σ.t, c)]) := by
  obtain ⟨hpl, hpm⟩ := hg.pl_lt
  have hok := hg.ok (σ.pl R) hpl
  have hn := hg.bd.1
  obtain ⟨f0, hf0⟩ : ∃ f, f = (if σ.num (σ.pl R) = σ.now R then σ.F (σ.pl R) else fun _ _ => 0) := ⟨_, rfl⟩
  have hbase : Sk.okC f0 := by
    rw [hf0]
    split
    · exact hok
    · intro _ _; show (0 : Int) ≤ 0 ∧ (0 : Int) ≤ 9223372036854775807; omega
  have hle : Sk.leastR f0 R.P s (R.k - 1) ≤ T := by
    have hr := hf.all s
    have key : ∀ j, (∀ q, q < j → Sk.okC (σ.F q)) → ∀ q, q < j → Sk.leastR (σ.F q) R.P s (R.k - 1) ≤ rall R σ.F s j := by
      intro j
      induction j with
      | zero => intro _ q hq; omega
      | succ j ih =>
        intro hj q hq
        have p1 := rall_pos (R := R) (s := s) (F := σ.F) j (fun q hq => hj q (by omega))
        have p2 := (hj j (by omega)).least R.P s (R.k - 1)
        show _ ≤ rall R σ.F s j + Sk.leastR (σ.F j) R.P s (R.k - 1)
        by_cases e : q = j
        · subst e; omega
        · have := ih (fun q hq => hj q (by omega)) q (by omega); omega
    have hrp := rall_pos (R := R) (s := s) (F := σ.F) R.n hg.ok
    rw [hf0]
    split
    · exact Int.le_trans (key R.n hg.ok _ hpl) hr
    · rw [least_zero]; omega
  have hu0 : ∀ r, r < R.k → f0 r (R.P r s) = Sk.leastR f0 R.P s (R.k - 1) := fun r hr => by
    rw [hf0]
    split
    · exact h.un _ r hpl hr
    · rw [least_zero]
  obtain ⟨a1, a2⟩ := add_un (c := c) hbase hk (by omega) (by omega) hu0
  have hadd : σ.add R s c = ⟨σ.t, updN σ.num (σ.pl R) (σ.now R), updN σ.F (σ.pl R) (Sk.add f0 R.P R.k s c)⟩ := by rw [hf0]; rfl
  have hv0 : (if σ.num (σ.pl R) = σ.now R then Sk.leastR (σ.F (σ.pl R)) R.P s (R.k - 1) else 0) = Sk.leastR f0 R.P s (R.k - 1) := by
    rw [hf0]
    split
    · rfl
    · rw [least_zero]
  rw [hadd]
  refine ⟨fun x hx => ?_, fun a b ha => ?_, fun i hi => ?_, fun i r hi hr => ?_⟩
  · rcases List.mem_append.1 hx with hx | hx
    · exact h.cs x hx
    · rw [List.mem_singleton.1 hx]; exact hc
  · have ha' : σ.now R - ((R.n : Int) - 1) ≤ a := ha
    have h0 := h.eq a b ha'
    rw [qsum_app]
    have hpt := rsum_pt_eq (R := R) (σ := σ) (τ := ⟨σ.t, updN σ.num (σ.pl R) (σ.now R), updN σ.F (σ.pl R) (Sk.add f0 R.P R.k s c)⟩) (s := s) (a := a) (b := b) (p := σ.pl R) (e := if a ≤ σ.now R ∧ σ.now R ≤ b then c else 0)
      (fun i hi => ⟨updN_ne _ _ hi, updN_ne _ _ hi⟩) (by
        show (if a ≤ updN σ.num (σ.pl R) (σ.now R) (σ.pl R) ∧ updN σ.num (σ.pl R) (σ.now R) (σ.pl R) ≤ b then Sk.leastR (updN σ.F (σ.pl R) _ (σ.pl R)) R.P s (R.k - 1) else 0) = _
        rw [updN_self, updN_self, a1]
        have hold : (if a ≤ σ.num (σ.pl R) ∧ σ.num (σ.pl R) ≤ b then Sk.leastR (σ.F (σ.pl R)) R.P s (R.k - 1) else 0) = (if a ≤ σ.now R ∧ σ.now R ≤ b then Sk.leastR f0 R.P s (R.k - 1) else 0) := by
          by_cases he : σ.num (σ.pl R) = σ.now R
          · rw [if_pos he] at hv0
            rw [he, hv0]
          · rw [if_neg he] at hv0
            have hle' := hf.now _ hpl
            rw [← hv0]
            have hz : (if a ≤ σ.now R ∧ σ.now R ≤ b then (0 : Int) else 0) = 0 := by split <;> rfl
            rw [hz]
            by_cases hw : a ≤ σ.num (σ.pl R) ∧ σ.num (σ.pl R) ≤ b
            · rw [if_pos hw]
              rcases h.pl (σ.pl R) hpl with hm | hz
              · have := mod_apart' (x := σ.num (σ.pl R)) (y := σ.now R) (n := (R.n : Int)) (by omega) (by rw [hm, hpm]) (by omega)
                omega
              · exact hz
            · rw [if_neg hw]
        rw [hold]
        split <;> omega) R.n
    rw [if_pos hpl] at hpt
    rw [hpt, h0]
    rfl
  · show updN σ.num (σ.pl R) (σ.now R) i % (R.n : Int) = (i : Int) ∨ Sk.leastR (updN σ.F (σ.pl R) _ i) R.P s (R.k - 1) = 0
    by_cases e : i = σ.pl R
    · left; rw [e, updN_self]; exact hpm
    · rw [updN_ne _ _ e, updN_ne _ _ e]; exact h.pl i hi
  · show updN σ.F (σ.pl R) _ i r (R.P r s) = Sk.leastR (updN σ.F (σ.pl R) _ i) R.P s (R.k - 1)
    by_cases e : i = σ.pl R
    · rw [e, updN_self, a1]; exact a2 r hr
    · rw [updN_ne _ _ e]; exact h.un i r hi hr
theorem msum_row (h : ExR R σ s l) {row : Nat} (hrow : row < R.k) {a b : Int} : ∀ j, j ≤ R.n → (∀ i, i < j → σ.num i ≤ b) → msum R σ (row : Int) s a j = lsum R σ s a b j
  | 0, _, _ => rfl
  | j + 1, hj, hb => by
    unfold msum lsum
    rw [msum_row h hrow j (by omega) (fun i hi => hb i (by omega))]
    have hbj := hb j (by omega)
    have e : cntZ R (σ.F j) (row : Int) s = Sk.leastR (σ.F j) R.P s (R.k - 1) := by
      unfold cntZ
      rw [if_pos ⟨by omega, by omega⟩]
      exact h.un j row (by omega) hrow
    rw [e]
    by_cases hc : a ≤ σ.num j
    · rw [if_pos hc, if_pos ⟨hc, hbj⟩]
    · rw [if_neg hc, if_neg (fun hh => hc hh.1)]
theorem msum_off {row : Int} (hrow : (R.k : Int) ≤ row) {a : Int} : ∀ j, msum R σ row s a j = 0
  | 0 => rfl
  | j + 1 => by
    unfold msum
    rw [msum_off hrow j]
    have e : cntZ R (σ.F j) row s = 0 := by unfold cntZ; rw [if_neg (fun hh => by omega)]
    rw [e]
    split
    · exact clamp_in (by omega)
    · rfl
/-- what such a ring tells. -/
theorem ex_tells {w : World} (h : ExR R σ s l) (hf : FewR R σ T) (hg : RgAt w R σ) (hT : T ≤ 9223372036854775807) {e q : Int} (he : e = σ.now R - ((R.n : Int) - 1)) (hq : q = σ.now R) :
    estZ R σ s = (if R.sm then leftZ R.s σ.t (qsum R.s e e l) else qsum R.s e e l) + qsum R.s (e + 1) q l ∧
    (∀ row : Nat, row < R.k → msum R σ (row : Int) s e R.n = qsum R.s e q l) := by
  obtain ⟨p1, p2, _, _⟩ := est_parts (s := s) hg hf hT
  have ha := hf.all s
  subst he hq
  refine ⟨?_, fun row hrow => ?_⟩
  · rw [p1, p2, h.eq _ _ (by omega), h.eq _ _ (by omega)]
  · rw [msum_row h hrow (b := σ.now R) R.n (Nat.le_refl _) hf.now, lsum_eq hg.ok (by omega), h.eq _ _ (by omega)]
end
end Go.Proofs.Ythfaeapodfgldaa
