/- The prime 2^61 - 1: 37 makes all numbers below it, so each to the power of the prime less 1 is 1. -/
namespace Go.Proofs.Ythhhmaibgaammaa.Fm
def P : Nat := 2305843009213693951
def N : Nat := 2305843009213693950
def pw : Nat → Nat → Nat → Nat → Nat
  | 0, _, _, acc => acc
  | f + 1, b, m, acc => if m = 0 then acc else pw f (b * b % P) (m / 2) (if m % 2 = 1 then acc * b % P else acc)
theorem pow_mod_base (b m p : Nat) : (b % p) ^ m % p = b ^ m % p := (Nat.pow_mod b m p).symm
theorem sq_even {acc b m p : Nat} (hm : m % 2 = 0) : acc * (b * b % p) ^ (m / 2) % p = acc * b ^ m % p := by
  have e : b ^ m = (b * b) ^ (m / 2) := by
    rw [← Nat.pow_two, ← Nat.pow_mul]
    have : 2 * (m / 2) = m := by omega
    rw [this]
  rw [e, Nat.mul_mod, pow_mod_base, ← Nat.mul_mod]
theorem sq_odd {acc b m p : Nat} (hm : m % 2 = 1) : (acc * b % p) * (b * b % p) ^ (m / 2) % p = acc * b ^ m % p := by
  have e : b ^ m = b * (b * b) ^ (m / 2) := by
    rw [← Nat.pow_two, ← Nat.pow_mul, Nat.mul_comm, ← Nat.pow_succ]
    have : (2 * (m / 2)).succ = m := by omega
    rw [this]
  rw [e, ← Nat.mul_assoc, Nat.mul_mod, pow_mod_base, Nat.mod_mod, ← Nat.mul_mod]
theorem pw_eq : ∀ (f b m acc : Nat), m < 2 ^ f → pw f b m acc % P = acc * b ^ m % P := by
  intro f
  induction f with
  | zero => intro b m acc h; have : m = 0 := by simpa using h
            subst this; simp [pw]
  | succ f ih =>
    intro b m acc h
    rw [pw]
    by_cases h0 : m = 0
    · subst h0; simp
    · rw [if_neg h0, ih _ _ _ (by rw [Nat.pow_succ] at h; omega)]
      rcases Nat.mod_two_eq_zero_or_one m with g | g
      · rw [if_neg (by omega), sq_even g]
      · rw [if_pos g, sq_odd g]
theorem pow_37 (k : Nat) (h : k < 2 ^ 62) : 37 ^ k % P = pw 62 37 k 1 % P := by rw [pw_eq 62 37 k 1 h, Nat.one_mul]
def E (k : Nat) : Prop := 37 ^ k % P = 1
theorem E_N : E N := by unfold E; rw [pow_37 N (by decide)]; decide +kernel
def L : List Nat := [2, 3, 5, 7, 11, 13, 31, 41, 61, 151, 331, 1321]
theorem not_E : ∀ q ∈ L, ¬ E (N / q) := by
  intro q hq
  have h : ∀ q ∈ L, N / q < 2 ^ 62 ∧ pw 62 37 (N / q) 1 % P ≠ 1 := by decide +kernel
  unfold E
  rw [pow_37 _ (h q hq).1]
  exact (h q hq).2
theorem E_mul {a : Nat} (h : E a) (q : Nat) : E (a * q) := by
  unfold E at *
  rw [Nat.pow_mul, Nat.pow_mod, h, Nat.one_pow]; decide
theorem E_mod {a b : Nat} (ha : E a) (hb : E b) : E (a % b) := by
  have h := E_mul hb (a / b)
  unfold E at *
  have e : a = b * (a / b) + a % b := (Nat.div_add_mod a b).symm
  rw [e, Nat.pow_add, Nat.mul_mod, h, Nat.one_mul, Nat.mod_mod] at ha
  exact ha
theorem E_gcd (a b : Nat) : E a → E b → E (Nat.gcd a b) := by
  induction a, b using Nat.gcd.induction with
  | H0 n => intro _ h; rw [Nat.gcd_zero_left]; exact h
  | H1 m n h0 ih => intro hm hn; rw [Nat.gcd_rec]; exact ih (E_mod hn hm) hm
theorem prime_small : ∀ q ∈ L, ∀ d, d < q → d ∣ q → d = 1 := by decide +kernel
theorem cop {q m : Nat} (hq : q ∈ L) (h : ¬ q ∣ m) : Nat.Coprime q m := by
  have hd := Nat.gcd_dvd_left q m
  have hm := Nat.gcd_dvd_right q m
  have q0 : ∀ q ∈ L, 0 < q := by decide
  have hle := Nat.le_of_dvd (q0 q hq) hd
  rcases Nat.lt_or_ge (Nat.gcd q m) q with g | g
  · exact prime_small q hq _ g hd
  · exact absurd ((Nat.le_antisymm hle g) ▸ hm) h
theorem N_eq : N = 2 * (3 * (3 * (5 * (5 * (7 * (11 * (13 * (31 * (41 * (61 * (151 * (331 * 1321)))))))))))) := by decide
theorem some_q {m : Nat} (hm : m ∣ N) (h1 : m ≠ 1) : ∃ q ∈ L, q ∣ m := by
  apply Classical.byContradiction
  intro h
  have hc : ∀ q ∈ L, Nat.Coprime q m := fun q hq => cop hq (fun g => h ⟨q, hq, g⟩)
  have c : Nat.Coprime N m := by
    rw [N_eq]
    iterate 13 (apply Nat.Coprime.mul_left; exact hc _ (by decide))
    exact hc _ (by decide)
  have : Nat.gcd N m = m := Nat.gcd_eq_right hm
  rw [c] at this
  exact h1 this.symm
theorem order {k : Nat} (hk : 0 < k) (hN : k < N) : ¬ E k := by
  intro h
  have g := E_gcd k N h E_N
  obtain ⟨m, hm⟩ := Nat.gcd_dvd_right k N
  have hle : Nat.gcd k N ≤ k := Nat.le_of_dvd hk (Nat.gcd_dvd_left k N)
  have hpos : 0 < Nat.gcd k N := Nat.gcd_pos_of_pos_left _ hk
  generalize Nat.gcd k N = d at *
  have hm1 : m ≠ 1 := by intro e; rw [e, Nat.mul_one] at hm; omega
  obtain ⟨q, hq, c, hc⟩ := some_q (m := m) ⟨d, by rw [hm, Nat.mul_comm]⟩ hm1
  have q0 : ∀ q ∈ L, 0 < q := by decide
  have : N / q = d * c := by
    rw [hm, hc, ← Nat.mul_assoc, Nat.mul_comm d q, Nat.mul_assoc, Nat.mul_div_cancel_left _ (q0 q hq)]
  exact not_E q hq (this ▸ E_mul g c)
theorem unit (k : Nat) (hk : k ≤ N) : 37 ^ k * 37 ^ (N - k) % P = 1 := by
  rw [← Nat.pow_add, Nat.add_sub_cancel' hk]; exact E_N
theorem inj {i j : Nat} (hij : i < j) (hj : j < N) : 37 ^ i % P ≠ 37 ^ j % P := by
  intro h
  have h1 := unit i (by omega)
  have h2 : 37 ^ j * 37 ^ (N - i) % P = 1 := by rw [Nat.mul_mod, ← h, ← Nat.mul_mod]; exact h1
  rw [← Nat.pow_add, show j + (N - i) = N + (j - i) by omega, Nat.pow_add, Nat.mul_mod, E_N, Nat.one_mul, Nat.mod_mod] at h2
  exact order (by omega) (by omega) h2
theorem nz (k : Nat) (hk : k < N) : 37 ^ k % P ≠ 0 := by
  intro h
  have h1 := unit k (by omega)
  rw [Nat.mul_mod, h, Nat.zero_mul] at h1
  exact absurd h1 (by decide)
theorem pigeon : ∀ (n : Nat) (f : Nat → Nat), (∀ i, i < n → f i < n) → (∀ i j, i < j → j < n → f i ≠ f j) → ∀ v, v < n → ∃ i, i < n ∧ f i = v := by
  intro n
  induction n with
  | zero => intro f _ _ v hv; omega
  | succ n ih =>
    intro f hf hi v hv
    -- the last one's value is swapped with n
    have hg1 : ∀ i, i < n → (if f i = n then f n else f i) < n := by
      intro i hin
      by_cases e : f i = n
      · rw [if_pos e]
        have := hf n (by omega)
        have h2 := hi i n hin (by omega)
        omega
      · rw [if_neg e]; have := hf i (by omega); omega
    have hg2 : ∀ i j, i < j → j < n → (if f i = n then f n else f i) ≠ (if f j = n then f n else f j) := by
      intro i j hij hjn
      have a := hi i j hij (by omega)
      have b := hi i n (by omega) (by omega)
      have c := hi j n hjn (by omega)
      by_cases e : f i = n <;> by_cases e2 : f j = n
      · omega
      · rw [if_pos e, if_neg e2]; omega
      · rw [if_neg e, if_pos e2]; omega
      · rw [if_neg e, if_neg e2]; exact a
    by_cases h0 : v = f n
    · exact ⟨n, by omega, h0.symm⟩
    · by_cases h1 : v = n
      · obtain ⟨i, hi1, hi2⟩ := ih _ hg1 hg2 (f n) (by have := hf n (by omega); omega)
        by_cases e : f i = n
        · exact ⟨i, by omega, by omega⟩
        · rw [if_neg e] at hi2; exact absurd hi2 (hi i n hi1 (by omega))
      · obtain ⟨i, hi1, hi2⟩ := ih _ hg1 hg2 v (by omega)
        by_cases e : f i = n
        · rw [if_pos e] at hi2; omega
        · rw [if_neg e] at hi2; exact ⟨i, by omega, hi2⟩
theorem gen (a : Nat) (h0 : 0 < a) (h : a < P) : ∃ k, 37 ^ k % P = a := by
  have hP : P = N + 1 := rfl
  obtain ⟨k, hk, he⟩ := pigeon N (fun k => 37 ^ k % P - 1) (fun i hi => by
      have := nz i hi
      have h2 : 37 ^ i % P < P := Nat.mod_lt _ (by decide)
      show 37 ^ i % P - 1 < N
      omega) (fun i j hij hj => by
      have a1 := nz i (by omega)
      have a2 := nz j hj
      have a3 := inj hij hj
      show 37 ^ i % P - 1 ≠ 37 ^ j % P - 1
      omega) (a - 1) (by omega)
  have a1 := nz k hk
  refine ⟨k, ?_⟩
  have : 37 ^ k % P - 1 = a - 1 := he
  omega
theorem fermat (a : Nat) (h0 : 0 < a) (h : a < P) : a ^ N % P = 1 := by
  obtain ⟨k, hk⟩ := gen a h0 h
  rw [← hk, ← Nat.pow_mod, ← Nat.pow_mul, Nat.mul_comm]
  exact E_mul E_N k
theorem inv_mul (a M : Nat) (hM : M + 1 = N) (h0 : 0 < a) (h : a < P) : a * (a ^ M % P) % P = 1 := by
  have := fermat a h0 h
  rw [← hM, Nat.pow_succ, Nat.mul_comm] at this
  rw [Nat.mul_mod_mod]; exact this
theorem inv_inv (a M : Nat) (hM : M + 1 = N) (h : a < P) : (a ^ M % P) ^ M % P = a := by
  rw [pow_mod_base, ← Nat.pow_mul]
  have hM1 : 1 < M := by unfold N at hM; omega
  rcases Nat.eq_zero_or_pos a with g | g
  · subst g; rw [Nat.zero_pow (Nat.mul_pos (by omega) (by omega)), Nat.zero_mod]
  · have e : M * M = N * (M - 1) + 1 := by
      rw [← hM, Nat.add_mul, Nat.one_mul, Nat.mul_sub, Nat.mul_one]
      have : M ≤ M * M := Nat.le_mul_of_pos_left M (by omega)
      omega
    rw [e, Nat.pow_add, Nat.pow_mul, Nat.mul_mod, Nat.pow_mod, fermat a g h, Nat.one_pow, Nat.pow_one, Nat.mod_eq_of_lt (show 1 < P by decide), Nat.one_mul, Nat.mod_mod, Nat.mod_eq_of_lt h]
theorem inv_prod (a b M : Nat) : (a * b % P) ^ M % P = (a ^ M % P) * (b ^ M % P) % P := by
  rw [pow_mod_base, Nat.mul_pow, ← Nat.mul_mod]
theorem inv_zero (M : Nat) (hM : M + 1 = N) : 0 ^ M % P = 0 := by rw [Nat.zero_pow (by unfold N at hM; omega), Nat.zero_mod]
end Go.Proofs.Ythhhmaibgaammaa.Fm
