
/- Keys' bytes in places: plain mathematics. -/
namespace Go.Proofs.YtannniobeanhlaaGreat
set_option linter.unusedSimpArgs false
set_option linter.unusedVariables false
set_option maxRecDepth 100000
/-- a key's bytes, as numbers. -/
def nums (s : ByteArray) : List Int := s.data.toList.map fun c => (c.toNat : Int)
/-- which places are free, in which order they were freed, and what the others have. -/
structure Places (n : Nat) (fl : List Nat) (K : Nat → Option ByteArray) : Prop where
  use : ∃ ul : List Nat, (fl ++ ul).Perm (List.range n) ∧ ∀ i, (K i).isSome = true ↔ i ∈ ul
theorem Places.lt {n : Nat} {fl : List Nat} {K : Nat → Option ByteArray} (h : Places n fl K) {i : Nat} (hi : (K i).isSome = true) : i < n ∧ fl.length < n := by
  obtain ⟨ul, hp, hu⟩ := h.use
  have h1 := (hu i).1 hi
  have h2 := hp.length_eq
  rw [List.length_append, List.length_range] at h2
  have h3 := List.length_pos_of_mem h1
  exact ⟨List.mem_range.1 (hp.mem_iff.1 (List.mem_append.2 (Or.inr h1))), by omega⟩
theorem Places.le {n : Nat} {fl : List Nat} {K : Nat → Option ByteArray} (h : Places n fl K) : fl.length ≤ n := by
  obtain ⟨ul, hp, hu⟩ := h.use
  have h2 := hp.length_eq
  rw [List.length_append, List.length_range] at h2
  omega
theorem Places.free {n : Nat} {fl : List Nat} {K : Nat → Option ByteArray} (h : Places n fl K) {i : Nat} (hi : i ∈ fl) : i < n ∧ K i = none := by
  obtain ⟨ul, hp, hu⟩ := h.use
  have hn : (fl ++ ul).Nodup := hp.nodup_iff.2 List.nodup_range
  refine ⟨List.mem_range.1 (hp.mem_iff.1 (List.mem_append.2 (Or.inl hi))), ?_⟩
  cases hk : K i with
  | none => rfl
  | some s =>
    have := (hu i).1 (by rw [hk]; rfl)
    exact absurd rfl ((List.nodup_append.1 hn).2.2 i hi i this)
theorem places_new (n : Nat) : Places n (List.range n).reverse (fun _ => none) := ⟨[], by rw [List.append_nil]; exact List.reverse_perm _, fun i => by simp⟩
theorem Places.put {n i : Nat} {fl : List Nat} {K : Nat → Option ByteArray} (h : Places n (fl ++ [i]) K) (s : ByteArray) : Places n fl (fun j => if j = i then some s else K j) := by
  obtain ⟨ul, hp, hu⟩ := h.use
  refine ⟨i :: ul, by simpa using hp, fun j => ?_⟩
  by_cases hj : j = i
  · subst hj; simp
  · rw [if_neg hj, hu]; simp [hj]
theorem Places.drop {n i : Nat} {fl : List Nat} {K : Nat → Option ByteArray} (h : Places n fl K) (hi : (K i).isSome = true) : Places n (fl ++ [i]) (fun j => if j = i then none else K j) := by
  obtain ⟨ul, hp, hu⟩ := h.use
  have hm := (hu i).1 hi
  have hn : (fl ++ ul).Nodup := hp.nodup_iff.2 List.nodup_range
  have hnu : ul.Nodup := (List.nodup_append.1 hn).2.1
  refine ⟨ul.erase i, ?_, fun j => ?_⟩
  · have h1 : ul.Perm (i :: ul.erase i) := List.perm_cons_erase hm
    have h2 : (fl ++ ul).Perm (fl ++ (i :: ul.erase i)) := List.Perm.append_left fl h1
    have h3 : fl ++ [i] ++ ul.erase i = fl ++ (i :: ul.erase i) := by simp
    rw [h3]
    exact h2.symm.trans hp
  · by_cases hj : j = i
    · subst hj
      simp only [if_true, Option.isSome_none, Bool.false_eq_true, false_iff]
      exact fun hx => by
        have := List.Nodup.mem_erase_iff hnu |>.1 hx
        exact this.1 rfl
    · rw [if_neg hj, hu, List.Nodup.mem_erase_iff hnu]
      simp [hj]
end Go.Proofs.YtannniobeanhlaaGreat
/- Numbers modulo a number, by bits. -/
namespace Go.Proofs.YtannniobeanhlaaGreat.Fp
set_option linter.unusedSimpArgs false
set_option linter.unusedVariables false
set_option maxRecDepth 100000

end Go.Proofs.YtannniobeanhlaaGreat.Fp
/- A key's number: the bytes seven by seven, as a polynomial modulo the prime. -/
namespace Go.Proofs.YtannniobeanhlaaGreat.Ha
set_option linter.unusedSimpArgs false
set_option linter.unusedVariables false
set_option maxRecDepth 100000

def num (l : List UInt8) : Nat := l.foldl (fun n c => n * 256 + c.toNat) 0
def poly (X h : Nat) (l : List UInt8) : Nat :=
  if l = [] then h else poly X ((h * X % 2305843009213693951 + num (l.take 7)) % 2305843009213693951) (l.drop 7)
termination_by l.length
decreasing_by
  rename_i hl
  have : 0 < l.length := List.length_pos_iff.2 hl
  simp; omega
/-- a key's number by a function X, A, B. -/
def hof (X A B : Nat) (l : List UInt8) : Nat := (poly X ((l.length + 1) % 2305843009213693951) l * A % 2305843009213693951 + B) % 2305843009213693951
end Go.Proofs.YtannniobeanhlaaGreat.Ha
/- Where keys are: a table of places side by side, plain mathematics. -/
namespace Go.Proofs.YtannniobeanhlaaGreat.Ix
set_option linter.unusedSimpArgs false
set_option linter.unusedVariables false
set_option maxRecDepth 100000
/-- how many steps lead from one place to another one. -/
def dst (m a b : Nat) : Nat := if b < a then b + m - a else b - a
section
variable {α : Type}
/-- a table that has all keys: each is found from its home on. -/
structure Tab (m n : Nat) (f : α → Nat) (K : Nat → Option α) (T : Nat → Nat) : Prop where
  sz : m = 2 * n + 1
  home : ∀ s, f s < m
  lt : ∀ i s, K i = some s → i < n
  ok : ∀ p, p < m → T p ≠ 0 → ∃ s, K (T p - 1) = some s ∧ ∀ q, q < m → dst m (f s) q < dst m (f s) p → T q ≠ 0
  has : ∀ i s, K i = some s → ∃ p, p < m ∧ T p = i + 1
  one : ∀ p q, p < m → q < m → T p ≠ 0 → T p = T q → p = q
  key : ∀ i j s, K i = some s → K j = some s → i = j
/-- the like with a hole, through which the ways to others may lead. -/
structure Jab (m n : Nat) (f : α → Nat) (K : Nat → Option α) (T : Nat → Nat) (h : Nat) : Prop where
  sz : m = 2 * n + 1
  home : ∀ s, f s < m
  lt : ∀ i s, K i = some s → i < n
  hl : h < m
  h0 : T h = 0
  ok : ∀ p, p < m → T p ≠ 0 → ∃ s, K (T p - 1) = some s ∧ ∀ q, q < m → dst m (f s) q < dst m (f s) p → T q ≠ 0 ∨ q = h
  has : ∀ i s, K i = some s → ∃ p, p < m ∧ T p = i + 1
  one : ∀ p q, p < m → q < m → T p ≠ 0 → T p = T q → p = q
  key : ∀ i j s, K i = some s → K j = some s → i = j
theorem tab_new (n : Nat) (f : α → Nat) (hf : ∀ s, f s < 2 * n + 1) : Tab (2 * n + 1) n f (fun _ => none) (fun _ => 0) :=
  ⟨rfl, hf, (fun i s h => by cases h), fun p _ h => absurd rfl h, (fun i s h => by cases h), fun p q _ _ h => absurd rfl h, (fun i j s h => by cases h)⟩
end
end Go.Proofs.YtannniobeanhlaaGreat.Ix
/- Requests as bytes: plain mathematics. -/
namespace Go.Proofs.YtannniobeanhlaaGreat
set_option linter.unusedSimpArgs false
set_option linter.unusedVariables false
set_option maxRecDepth 100000
structure Req where
  op : Int
  rule : Int
  cost : Int
  key : List Int
  k : Int
def byt (q : List Int) : Prop := ∀ z ∈ q, 0 ≤ z ∧ z ≤ 255
/-- the n lowest bytes of a number, the highest first. -/
def be : Nat → Int → List Int
  | 0, _ => []
  | n + 1, x => be n (x / 256) ++ [x % 256]
/-- the fault of byte i. -/
def fltZ (z : List Int) (rules : Int) (i : Nat) : Int :=
  let c := z.getD i 0
  let n := z.getD 3 0
  if i = 0 ∧ c ≠ 167 then 5
  else if i = 1 ∧ c ≠ 1 then 6
  else if (i = 2 ∧ c ≠ 0) ∨ (i = 3 ∧ (c < 2 ∨ (c > 3 ∧ c < 7) ∨ c > 71)) then 7
  else if i = 4 ∧ ¬ ((c = 3 ∧ n = 2) ∨ (c = 4 ∧ n = 3) ∨ ((c = 1 ∨ c = 2) ∧ n ≥ 7)) then 8
  else if i = 5 ∧ c ≥ rules then 9
  else if i = 10 ∧ c ≠ n - 7 then 10
  else 0
def wholeAt (z : List Int) (i : Nat) : Prop := 3 ≤ i ∧ (i : Int) + 1 = 4 + z.getD 3 0
instance (z : List Int) (i : Nat) : Decidable (wholeAt z i) := inferInstanceAs (Decidable (_ ∧ _))
/-- all bytes ahead of j neither have a fault nor end a request. -/
def cleanZ (z : List Int) (rules : Int) (j : Nat) : Prop := ∀ i < j, fltZ z rules i = 0 ∧ ¬ wholeAt z i
end Go.Proofs.YtannniobeanhlaaGreat
/- Requests as bytes: more plain mathematics. -/
namespace Go.Proofs.YtannniobeanhlaaGreat
set_option linter.unusedSimpArgs false
set_option linter.unusedVariables false
set_option maxRecDepth 100000
end Go.Proofs.YtannniobeanhlaaGreat
/- Streams of requests: plain mathematics. -/
namespace Go.Proofs.YtannniobeanhlaaGreat
set_option linter.unusedSimpArgs false
set_option linter.unusedVariables false
set_option maxRecDepth 100000
theorem clean_nil (rules : Int) : cleanZ [] rules 0 := fun i h => absurd h (by omega)
end Go.Proofs.YtannniobeanhlaaGreat
/- A ring of bytes: plain mathematics. -/
namespace Go.Proofs.YtannniobeanhlaaGreat
set_option linter.unusedSimpArgs false
set_option linter.unusedVariables false
set_option maxRecDepth 100000
/-- what waits in a ring. -/
def Ring (arr : List Int) (size first : Nat) (q : List Int) : Prop :=
  arr.length = size ∧ first < size ∧ q.length ≤ size ∧ (∀ i, i < q.length → arr.getD ((first + i) % size) 0 = q.getD i 0)
theorem ring_new (size : Nat) (h : 1 ≤ size) : Ring (List.replicate size 0) size 0 [] := ⟨by simp, by omega, by simp, fun i hi => by simp at hi⟩
theorem ring_clear {arr : List Int} {size first : Nat} {q : List Int} (h : Ring arr size first q) : Ring arr size 0 [] := ⟨h.1, by have := h.2.1; omega, by simp, fun i hi => by simp at hi⟩
end Go.Proofs.YtannniobeanhlaaGreat
/- Answers as bytes: plain mathematics. -/
namespace Go.Proofs.YtannniobeanhlaaGreat
set_option linter.unusedSimpArgs false
set_option linter.unusedVariables false
set_option maxRecDepth 100000
def i64P (x : Int) : Prop := -9223372036854775808 ≤ x ∧ x ≤ 9223372036854775807
/-- a key with what is told of it. -/
structure Cnt where
  key : List Int
  n : Int
  e : Int
def Cnt.ok (c : Cnt) : Prop := c.key.length ≤ 64 ∧ byt c.key ∧ i64P c.n ∧ i64P c.e
def Cnt.z (c : Cnt) : List Int := (c.key.length : Int) :: (c.key ++ (be 8 c.n ++ be 8 c.e))
/-- what an answer says. -/
structure Sd where
  op : Int
  rule : Int
  v : Int
  rem : Int
  ret : Int
  a : Int
  d : Int
  b : Int
  c : Int
  wt : Int
  list : List Cnt
  err : Int
end Go.Proofs.YtannniobeanhlaaGreat
