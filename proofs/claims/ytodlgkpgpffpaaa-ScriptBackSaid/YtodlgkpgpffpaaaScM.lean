/- Acts as bytes: plain mathematics. -/
namespace Go.Proofs.Ytodlgkpgpffpaaa
/-- the number of the first bytes. -/
def preZ (q : List Int) : Nat → Int
  | 0 => 0
  | j + 1 => preZ q j * 256 + q.getD j 0
def byt (q : List Int) : Prop := ∀ z ∈ q, 0 ≤ z ∧ z ≤ 255
theorem byt_getD {q : List Int} (h : byt q) (j : Nat) : 0 ≤ q.getD j 0 ∧ q.getD j 0 ≤ 255 := by
  by_cases hj : j < q.length
  · have := h _ (List.getElem_mem hj)
    simpa [List.getD, hj] using this
  · simp [List.getD, List.getElem?_eq_none (by omega : q.length ≤ j)]
theorem pre_bd {q : List Int} (h : byt q) : ∀ j, 0 ≤ preZ q j ∧ preZ q j < 256 ^ j
  | 0 => by simp [preZ]
  | j + 1 => by
    have h1 := pre_bd h j
    have h2 := byt_getD h j
    rw [preZ, Int.pow_succ]
    omega
theorem byt_drop {q : List Int} (h : byt q) (n : Nat) : byt (q.drop n) := fun z hz => h z (List.mem_of_mem_drop hz)
/-- what an act is, its bytes and draws by their lengths alone. -/
structure Act6 where
  kind : Int
  clock : Int
  conn : Int
  dl : Nat
  n : Int
  sl : Nat
/-- how much later a code says. -/
def byZ (code : Int) : Int := code % 4096 * 4 ^ (code / 4096).toNat
def laterZ (now code : Int) : Int := if 9223372036854775807 - now < byZ code then 9223372036854775807 else now + byZ code
/-- the first act of some bytes, what is left of them. -/
def stepA (q : List Int) (now : Int) : Act6 × List Int :=
  let what := preZ q 1
  let now' := laterZ now (preZ (q.drop 1) 2)
  let q2 := (q.drop 1).drop 2
  let x := preZ q2 1
  let q3 := q2.drop 1
  let kind := what % 5
  let conn := what / 5 % 16
  if kind = 2 then (⟨kind, now', conn, min x.toNat q3.length, 0, 0⟩, q3.drop (min x.toNat q3.length))
  else if kind = 3 then (⟨kind, now', conn, 0, x, 0⟩, q3)
  else if kind = 4 then (⟨kind, now', conn, 0, 0, (x % 4).toNat⟩, q3.drop (8 * (x % 4).toNat))
  else (⟨kind, now', conn, 0, 0, 0⟩, q2)
def decF : Nat → List Int → Int → List Act6
  | 0, _, _ => []
  | f + 1, q, now => if q = [] then [] else (stepA q now).1 :: decF f (stepA q now).2 (stepA q now).1.clock
theorem step_shorter {q : List Int} (now : Int) (h : q ≠ []) : (stepA q now).2.length < q.length := by
  have h0 : 0 < q.length := List.length_pos_iff.2 h
  unfold stepA
  simp only
  split
  · simp only [List.length_drop]; omega
  · split
    · simp only [List.length_drop]; omega
    · split <;> simp only [List.length_drop] <;> omega
theorem four_pow : ∀ k : Fin 16, (0 : Int) ≤ 4 ^ k.val ∧ (4 : Int) ^ k.val ≤ 4 ^ 15 := by decide
theorem by_bd (code : Int) (h : 0 ≤ code ∧ code < 65536) : 0 ≤ byZ code ∧ byZ code < 4398046511104 := by
  unfold byZ
  have h1 : 0 ≤ code % 4096 ∧ code % 4096 ≤ 4095 := by omega
  have h2 : (code / 4096).toNat ≤ 15 := by omega
  have h3 : (4 : Int) ^ (code / 4096).toNat ≤ 4 ^ 15 := (four_pow ⟨(code / 4096).toNat, by omega⟩).2
  have h4 : (0 : Int) ≤ 4 ^ (code / 4096).toNat := (four_pow ⟨(code / 4096).toNat, by omega⟩).1
  refine ⟨Int.mul_nonneg h1.1 h4, ?_⟩
  have h5 : code % 4096 * 4 ^ (code / 4096).toNat ≤ 4095 * 4 ^ 15 := Int.mul_le_mul h1.2 h3 h4 (by decide)
  have h6 : (4095 : Int) * 4 ^ 15 < 4398046511104 := by decide
  omega
end Go.Proofs.Ytodlgkpgpffpaaa
