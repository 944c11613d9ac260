/- Acts as bytes, with their contents: plain mathematics: what is written comes back. -/
import Derived.Test.YtodlgkpgpffpaaaScM
namespace Go.Proofs.Ytodlgkpgpffpaaa
structure ActC where
  kind : Int
  clock : Int
  conn : Int
  data : List Int
  n : Int
  seeds : List Int
/-- so many draws, eight bytes each. -/
def rdS : Nat → List Int → List Int
  | 0, _ => []
  | k + 1, q => preZ q 8 :: rdS k (q.drop 8)
theorem rdS_snoc : ∀ (k : Nat) (q : List Int), rdS (k + 1) q = rdS k q ++ [preZ (q.drop (8 * k)) 8]
  | 0, q => by simp [rdS]
  | k + 1, q => by
    show preZ q 8 :: rdS (k + 1) (q.drop 8) = (preZ q 8 :: rdS k (q.drop 8)) ++ _
    rw [rdS_snoc k, List.drop_drop, List.cons_append, show 8 * (k + 1) = 8 + 8 * k by omega]
theorem rdS_length : ∀ (k : Nat) (q : List Int), (rdS k q).length = k
  | 0, _ => rfl
  | k + 1, q => by rw [rdS, List.length_cons, rdS_length k]
def stepC (q : List Int) (now : Int) : ActC × List Int :=
  let what := preZ q 1
  let now' := laterZ now (preZ (q.drop 1) 2)
  let q2 := (q.drop 1).drop 2
  let x := preZ q2 1
  let q3 := q2.drop 1
  let kind := what % 5
  let conn := what / 5 % 16
  if kind = 2 then (⟨kind, now', conn, q3.take x.toNat, 0, []⟩, q3.drop x.toNat)
  else if kind = 3 then (⟨kind, now', conn, [], x, []⟩, q3)
  else if kind = 4 then (⟨kind, now', conn, [], 0, rdS (x % 4).toNat q3⟩, q3.drop (8 * (x % 4).toNat))
  else (⟨kind, now', conn, [], 0, []⟩, q2)
def decC : Nat → List Int → Int → List ActC
  | 0, _, _ => []
  | f + 1, q, now => if q = [] then [] else (stepC q now).1 :: decC f (stepC q now).2 (stepC q now).1.clock
def wr (x : Int) : Nat → List Int
  | 0 => []
  | n + 1 => x / 256 ^ n % 256 :: wr x n
theorem wr_length (x : Int) : ∀ n, (wr x n).length = n
  | 0 => rfl
  | n + 1 => by rw [wr, List.length_cons, wr_length x n]
theorem wr_getD (x : Int) (r : List Int) : ∀ (n j : Nat), j < n → (wr x n ++ r).getD j 0 = x / 256 ^ (n - 1 - j) % 256
  | n + 1, 0, _ => by simp [wr]
  | n + 1, j + 1, h => by
    have := wr_getD x r n j (by omega)
    rw [show n + 1 - 1 - (j + 1) = n - 1 - j by omega, ← this]
    simp [wr, List.getD]
theorem emod_step (y M : Int) (hM : 0 < M) : y / 256 % M * 256 + y % 256 = y % (M * 256) := by
  have h1 := Int.emod_add_mul_ediv y 256
  have h2 := Int.emod_add_mul_ediv (y / 256) M
  have h3 := Int.emod_nonneg (y / 256) (by omega : M ≠ 0)
  have h4 := Int.emod_lt_of_pos (y / 256) hM
  have h5 : 0 ≤ y % 256 ∧ y % 256 < 256 := by omega
  generalize y / 256 % M = a at *
  generalize y / 256 / M = b at *
  generalize y % 256 = r at *
  have e : y = (a * 256 + r) + M * 256 * b := by rw [Int.mul_right_comm M 256 b]; omega
  rw [e, Int.add_mul_emod_self_left, Int.emod_eq_of_lt (by omega) (by omega)]
theorem pre_wr (x : Int) (r : List Int) (n : Nat) : ∀ j, j ≤ n → preZ (wr x n ++ r) j = x / 256 ^ (n - j) % 256 ^ j
  | 0, _ => by simp [preZ]
  | j + 1, h => by
    rw [preZ, pre_wr x r n j (by omega), wr_getD x r n j (by omega), show n - 1 - j = n - (j + 1) by omega]
    have e : x / 256 ^ (n - j) = x / 256 ^ (n - (j + 1)) / 256 := by
      rw [Int.ediv_ediv_of_nonneg (Int.pow_nonneg (by decide)), show n - j = n - (j + 1) + 1 by omega, Int.pow_succ]
    rw [e, emod_step _ _ (Int.pow_pos (by decide)), Int.pow_succ]
theorem pre_wr_all (x : Int) (r : List Int) (n : Nat) (h : 0 ≤ x ∧ x < 256 ^ n) : preZ (wr x n ++ r) n = x := by
  rw [pre_wr x r n n (Nat.le_refl _), Nat.sub_self, Int.pow_zero, Int.ediv_one, Int.emod_eq_of_lt h.1 h.2]
theorem drop_wr (x : Int) (r : List Int) (n : Nat) : (wr x n ++ r).drop n = r := by
  rw [List.drop_append_of_le_length (by rw [wr_length]; exact Nat.le_refl _), List.drop_of_length_le (by rw [wr_length]; exact Nat.le_refl _), List.nil_append]
def wrS : List Int → List Int
  | [] => []
  | s :: r => wr s 8 ++ wrS r
theorem rdS_wrS : ∀ (l r : List Int), (∀ s ∈ l, 0 ≤ s ∧ s < 18446744073709551616) → rdS l.length (wrS l ++ r) = l ∧ (wrS l ++ r).drop (8 * l.length) = r
  | [], r, _ => ⟨rfl, by simp [wrS]⟩
  | s :: l, r, h => by
    have hs := h s (by simp)
    have ih := rdS_wrS l r (fun t ht => h t (by simp [ht]))
    rw [wrS, List.append_assoc, List.length_cons, rdS, pre_wr_all s _ 8 hs, drop_wr]
    refine ⟨by rw [ih.1], ?_⟩
    rw [show 8 * (l.length + 1) = 8 + 8 * l.length by omega, ← List.drop_drop, drop_wr]
    exact ih.2
def encA (a : ActC) (now : Int) : List Int :=
  (a.kind + 5 * a.conn) :: (wr (a.clock - now) 2 ++ (if a.kind = 2 then (a.data.length : Int) :: a.data else if a.kind = 3 then [a.n] else if a.kind = 4 then (a.seeds.length : Int) :: wrS a.seeds else []))
def encC : List ActC → Int → List Int
  | [], _ => []
  | a :: r, now => encA a now ++ encC r a.clock
structure TameC (a : ActC) (now : Int) : Prop where
  kind : 0 ≤ a.kind ∧ a.kind ≤ 4
  conn : 0 ≤ a.conn ∧ a.conn ≤ 15
  clock : now ≤ a.clock ∧ a.clock ≤ now + 4095 ∧ a.clock ≤ 9223372036854775807
  data : a.data.length ≤ 255
  data0 : a.kind ≠ 2 → a.data = []
  n0 : a.kind ≠ 3 → a.n = 0
  seeds : a.seeds.length ≤ 3
  seeds0 : a.kind ≠ 4 → a.seeds = []
  wf : ∀ s ∈ a.seeds, 0 ≤ s ∧ s < 18446744073709551616
theorem later_enc {now d : Int} (hd : 0 ≤ d ∧ d ≤ 4095) (h : now + d ≤ 9223372036854775807) : laterZ now d = now + d := by
  have e : byZ d = d := by
    unfold byZ
    rw [show d / 4096 = 0 by omega, show d % 4096 = d by omega]
    simp
  rw [laterZ, e, if_neg (by omega)]
theorem step_enc (a : ActC) (now : Int) (r : List Int) (h : TameC a now) : stepC (encA a now ++ r) now = (a, r) := by
  obtain ⟨kind, clock, conn, data, n, seeds⟩ := a
  obtain ⟨h1, h2, h3, h4, h5, h6, h7, h8, h9⟩ := h
  simp only at h1 h2 h3 h4 h5 h6 h7 h8 h9
  obtain ⟨tl, htl⟩ : ∃ tl, tl = (if kind = 2 then (data.length : Int) :: data else if kind = 3 then [n] else if kind = 4 then (seeds.length : Int) :: wrS seeds else []) ++ r := ⟨_, rfl⟩
  have hq : encA ⟨kind, clock, conn, data, n, seeds⟩ now ++ r = (kind + 5 * conn) :: (wr (clock - now) 2 ++ tl) := by
    rw [htl, encA, List.cons_append, List.append_assoc]
  rw [hq]
  have e0 : preZ ((kind + 5 * conn) :: (wr (clock - now) 2 ++ tl)) 1 = kind + 5 * conn := by simp [preZ]
  have e1 : preZ (wr (clock - now) 2 ++ tl) 2 = clock - now := pre_wr_all _ _ 2 (by omega)
  have e2 : laterZ now (clock - now) = clock := by rw [later_enc (by omega) (by omega)]; omega
  have e3 : (kind + 5 * conn) % 5 = kind := by omega
  have e4 : (kind + 5 * conn) / 5 % 16 = conn := by omega
  unfold stepC
  simp only [e0, List.drop_succ_cons, List.drop_zero, e1, e2, e3, e4, drop_wr]
  by_cases k2 : kind = 2
  · rw [if_pos k2, htl, if_pos k2]
    have e5 : preZ ((data.length : Int) :: data ++ r) 1 = data.length := by simp [preZ]
    rw [e5]
    have hn := h6 (by omega)
    have hs := h8 (by omega)
    subst hn hs
    simp
  · by_cases k3 : kind = 3
    · rw [if_neg k2, if_pos k3, htl, if_neg k2, if_pos k3]
      have hd := h5 k2
      have hs := h8 (by omega)
      subst hd hs
      simp [preZ]
    · by_cases k4 : kind = 4
      · rw [if_neg k2, if_neg k3, if_pos k4, htl, if_neg k2, if_neg k3, if_pos k4]
        have e5 : preZ ((seeds.length : Int) :: wrS seeds ++ r) 1 = seeds.length := by simp [preZ]
        rw [e5, show ((seeds.length : Int) % 4).toNat = seeds.length by omega]
        have hd := h5 k2
        have hn := h6 k3
        subst hd hn
        have := rdS_wrS seeds r h9
        simp only [List.cons_append, List.drop_succ_cons, List.drop_zero]
        rw [this.1, this.2]
      · rw [if_neg k2, if_neg k3, if_neg k4, htl, if_neg k2, if_neg k3, if_neg k4]
        have hd := h5 k2
        have hn := h6 k3
        have hs := h8 k4
        subst hd hn hs
        rfl
def tameC : List ActC → Int → Prop
  | [], _ => True
  | a :: r, now => TameC a now ∧ tameC r a.clock
theorem dec_enc : ∀ (l : List ActC) (f : Nat) (now : Int), tameC l now → l.length ≤ f → decC f (encC l now) now = l
  | [], f, now, _, _ => by cases f <;> simp [decC, encC]
  | a :: l, f, now, h, hf => by
    obtain ⟨f', rfl⟩ : ∃ f', f = f' + 1 := ⟨f - 1, by simp at hf; omega⟩
    rw [decC, if_neg (by simp [encC, encA]), encC, step_enc a now _ h.1]
    simp only
    rw [dec_enc l f' _ h.2 (by simp at hf; omega)]
end Go.Proofs.Ytodlgkpgpffpaaa
