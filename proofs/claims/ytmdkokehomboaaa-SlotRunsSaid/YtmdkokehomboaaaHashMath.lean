/- A key's number: the bytes seven by seven, as a polynomial modulo the prime. -/
namespace Go.Proofs.Ytmdkokehomboaaa.Ha
set_option linter.unusedSimpArgs false
set_option linter.unusedVariables false
set_option maxRecDepth 100000

def num (l : List UInt8) : Nat := l.foldl (fun n c => n * 256 + c.toNat) 0
theorem num_snoc (l : List UInt8) (c : UInt8) : num (l ++ [c]) = num l * 256 + c.toNat := by simp [num]
theorem num_lt : ∀ (n : Nat) (l : List UInt8), l.length = n → num l < 256 ^ n := by
  intro n
  induction n with
  | zero => intro l h; have : l = [] := List.eq_nil_of_length_eq_zero h
            subst this; decide
  | succ n ih =>
    intro l h
    have hl : l = l.dropLast ++ [l.getLast (by intro e; subst e; simp at h)] := (List.dropLast_concat_getLast _).symm
    have h1 := ih l.dropLast (by simp [h])
    generalize l.getLast _ = c at hl
    rw [hl, num_snoc, Nat.pow_succ]
    have := UInt8.toNat_lt c
    omega
theorem num_lt7 (l : List UInt8) (h : l.length ≤ 7) : num l < 72057594037927936 := by
  have := num_lt l.length l rfl
  have h2 : 256 ^ l.length ≤ 256 ^ 7 := Nat.pow_le_pow_right (by decide) h
  exact Nat.lt_of_lt_of_le this h2
def poly (X h : Nat) (l : List UInt8) : Nat :=
  if l = [] then h else poly X ((h * X % 2305843009213693951 + num (l.take 7)) % 2305843009213693951) (l.drop 7)
termination_by l.length
decreasing_by
  rename_i hl
  have : 0 < l.length := List.length_pos_iff.2 hl
  simp; omega
theorem poly_nil (X h : Nat) : poly X h [] = h := by rw [poly, if_pos rfl]
theorem poly_cons {X h : Nat} {l : List UInt8} (hl : l ≠ []) : poly X h l = poly X ((h * X % 2305843009213693951 + num (l.take 7)) % 2305843009213693951) (l.drop 7) := by rw [poly, if_neg hl]
theorem poly_lt (X : Nat) : ∀ (n : Nat) (h : Nat) (l : List UInt8), l.length ≤ n → h < 2305843009213693951 → poly X h l < 2305843009213693951 := by
  intro n
  induction n with
  | zero => intro h l hl hh; have : l = [] := List.eq_nil_of_length_eq_zero (by omega)
            subst this; rw [poly_nil]; exact hh
  | succ n ih =>
    intro h l hl hh
    by_cases e : l = []
    · subst e; rw [poly_nil]; exact hh
    · rw [poly_cons e]
      have : 0 < l.length := List.length_pos_iff.2 e
      exact ih _ _ (by simp; omega) (Nat.mod_lt _ (by omega))
/-- a key's number by a function X, A, B. -/
def hof (X A B : Nat) (l : List UInt8) : Nat := (poly X ((l.length + 1) % 2305843009213693951) l * A % 2305843009213693951 + B) % 2305843009213693951
theorem hof_lt (X A B : Nat) (l : List UInt8) : hof X A B l < 2305843009213693951 := Nat.mod_lt _ (by omega)
end Go.Proofs.Ytmdkokehomboaaa.Ha
