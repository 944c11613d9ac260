
/- What was let through in a window: plain mathematics. -/
namespace Go.Proofs.YtbgcpljekcagiaaGreat
set_option linter.unusedSimpArgs false
set_option linter.unusedVariables false
set_option maxRecDepth 100000
/-- what was let through behind a time. -/
def sumGt (T : Int) : List (Int × Int) → Int
  | [] => 0
  | x :: r => (if T < x.1 then x.2 else 0) + sumGt T r
theorem sumGt_snoc (T : Int) (x : Int × Int) : ∀ l, sumGt T (l ++ [x]) = sumGt T l + (if T < x.1 then x.2 else 0)
  | [] => by simp [sumGt]
  | y :: r => by rw [List.cons_append, sumGt, sumGt, sumGt_snoc T x r]; omega
def small (l : List (Int × Int)) : Prop := ∀ x ∈ l, 1 ≤ x.2 ∧ x.2 ≤ 32
theorem sumGt_bd (T : Int) : ∀ l, small l → 0 ≤ sumGt T l ∧ sumGt T l ≤ 32 * l.length
  | [], _ => by simp [sumGt]
  | x :: r, h => by
    have h1 := h x (List.mem_cons_self)
    have h2 := sumGt_bd T r (fun y hy => h y (List.mem_cons_of_mem _ hy))
    rw [sumGt, List.length_cons]
    split <;> omega
theorem sumGt_zero (T : Int) : ∀ l, (∀ x ∈ l, x.1 ≤ T) → sumGt T l = 0
  | [], _ => rfl
  | x :: r, h => by
    have h1 := h x (List.mem_cons_self)
    rw [sumGt, sumGt_zero T r (fun y hy => h y (List.mem_cons_of_mem _ hy)), if_neg (by omega)]; rfl
/-- what a full-time stands for: what was let through behind any time took that much of it. -/
structure Taken (F t U : Int) (l : List (Int × Int)) : Prop where
  sm : small l
  le : ∀ x ∈ l, x.1 ≤ t
  up : ∀ T, 0 < sumGt T l → T + 1 + sumGt T l * U ≤ F
theorem taken_nil (F t U : Int) : Taken F t U [] := ⟨(fun x hx => by cases hx), (fun x hx => by cases hx), (fun T h => by simp [sumGt] at h)⟩
theorem Taken.later {F t U : Int} {l : List (Int × Int)} (h : Taken F t U l) {t' : Int} (ht : t ≤ t') : Taken F t' U l := ⟨h.sm, fun x hx => Int.le_trans (h.le x hx) ht, h.up⟩
theorem Taken.take {F t U : Int} {l : List (Int × Int)} (h : Taken F t U l) (hU : 1 ≤ U) {c : Int} (hc : 1 ≤ c ∧ c ≤ 32) {t' : Int} (ht : t ≤ t') : Taken (max F t' + c * U) t' U (l ++ [(t', c)]) := by
  have h1 := h.later ht
  have hcU : 0 ≤ c * U := Int.mul_nonneg (by omega) (by omega)
  refine ⟨fun x hx => ?_, fun x hx => ?_, fun T hT => ?_⟩
  · rcases List.mem_append.1 hx with g | g
    · exact h.sm x g
    · rw [List.mem_singleton.1 g]; exact hc
  · rcases List.mem_append.1 hx with g | g
    · exact h1.le x g
    · rw [List.mem_singleton.1 g]; exact Int.le_refl _
  · rw [sumGt_snoc] at hT ⊢
    have hb := sumGt_bd T l h.sm
    by_cases hg : T < t'
    · rw [if_pos hg] at hT ⊢
      show T + 1 + (sumGt T l + c) * U ≤ _
      rw [Int.add_mul]
      rcases Int.lt_or_le 0 (sumGt T l) with g | g
      · have := h.up T g; omega
      · have : sumGt T l = 0 := by omega
        rw [this]; omega
    · rw [if_neg hg] at hT ⊢
      have : sumGt T l = 0 := sumGt_zero T l (fun x hx => by have := h1.le x hx; omega)
      omega
/-- no more than the limit in a window. -/
theorem Taken.limit {F t U B L W : Int} {l : List (Int × Int)} (h : Taken F t U l) (hU : 1 ≤ U) (hF : F ≤ t + B * U) (hW : W ≤ U * (L + 1 - B)) (hL : 0 ≤ L) : sumGt (t - W) l ≤ L := by
  have hb := sumGt_bd (t - W) l h.sm
  rcases Int.lt_or_le 0 (sumGt (t - W) l) with g | g
  · have h1 := h.up _ g
    rcases Int.lt_or_le L (sumGt (t - W) l) with g2 | g2
    · have h2 : (L + 1) * U ≤ sumGt (t - W) l * U := Int.mul_le_mul_of_nonneg_right (by omega) (by omega)
      have h3 : U * (L + 1 - B) = (L + 1) * U - B * U := by rw [Int.mul_sub, Int.mul_comm U, Int.mul_comm U]
      omega
    · exact g2
  · omega
end Go.Proofs.YtbgcpljekcagiaaGreat
/- Keys' bytes in places: plain mathematics. -/
namespace Go.Proofs.YtbgcpljekcagiaaGreat
set_option linter.unusedSimpArgs false
set_option linter.unusedVariables false
set_option maxRecDepth 100000
theorem getD_set' (l : List Int) (i j : Nat) (v : Int) (hi : i < l.length) : (l.set i v).getD j 0 = if j = i then v else l.getD j 0 := by
  simp only [List.getD, List.getElem?_set]
  by_cases h : i = j
  · subst h; simp [hi]
  · rw [if_neg h, if_neg (fun e => h e.symm)]
/-- so many numbers laid over others from a place on. -/
def splice : List Int → Nat → List Int → List Int
  | l, _, [] => l
  | l, o, v :: r => splice (l.set o v) (o + 1) r
theorem splice_length : ∀ (vs l : List Int) (o : Nat), (splice l o vs).length = l.length
  | [], _, _ => rfl
  | v :: r, l, o => by rw [splice, splice_length r]; simp
theorem splice_getD : ∀ (vs l : List Int) (o k : Nat), o + vs.length ≤ l.length → (splice l o vs).getD k 0 = if o ≤ k ∧ k < o + vs.length then vs.getD (k - o) 0 else l.getD k 0
  | [], l, o, k, _ => by rw [splice, if_neg (by simp)]
  | v :: r, l, o, k, h => by
    simp only [List.length_cons] at h
    rw [splice, splice_getD r _ _ _ (by simp; omega), getD_set' _ _ _ _ (by omega)]
    simp only [List.length_cons]
    by_cases h1 : k = o
    · subst h1
      rw [if_neg (by omega), if_pos rfl, if_pos (by omega), Nat.sub_self]; rfl
    · by_cases h2 : o + 1 ≤ k ∧ k < o + 1 + r.length
      · rw [if_pos h2, if_pos (by omega), show k - o = (k - (o + 1)) + 1 by omega]; generalize k - (o + 1) = m; rfl
      · rw [if_neg h2, if_neg h1, if_neg (by omega)]
/-- a key's bytes, as numbers. -/
def nums (s : ByteArray) : List Int := s.data.toList.map fun c => (c.toNat : Int)
theorem nums_length (s : ByteArray) : (nums s).length = s.size := by unfold nums; rw [List.length_map]; rfl
theorem nums_bd (s : ByteArray) : ∀ z ∈ nums s, 0 ≤ z ∧ z ≤ 255 := by
  intro z hz
  obtain ⟨c, _, rfl⟩ := List.mem_map.1 hz
  have := c.toNat_lt
  omega
/-- which places are free, in which order they were freed, and what the others have. -/
structure Places (n : Nat) (fl : List Nat) (K : Nat → Option ByteArray) : Prop where
  use : ∃ ul : List Nat, (fl ++ ul).Perm (List.range n) ∧ ∀ i, (K i).isSome = true ↔ i ∈ ul
theorem Places.lt {n : Nat} {fl : List Nat} {K : Nat → Option ByteArray} (h : Places n fl K) {i : Nat} (hi : (K i).isSome = true) : i < n ∧ fl.length < n := by
  obtain ⟨ul, hp, hu⟩ := h.use
  have h1 := (hu i).1 hi
  have h2 := hp.length_eq
  rw [List.length_append, List.length_range] at h2
  have h3 := List.length_pos_of_mem h1
  exact ⟨List.mem_range.1 (hp.mem_iff.1 (List.mem_append.2 (Or.inr h1))), by omega⟩
theorem Places.le {n : Nat} {fl : List Nat} {K : Nat → Option ByteArray} (h : Places n fl K) : fl.length ≤ n := by
  obtain ⟨ul, hp, hu⟩ := h.use
  have h2 := hp.length_eq
  rw [List.length_append, List.length_range] at h2
  omega
theorem Places.free {n : Nat} {fl : List Nat} {K : Nat → Option ByteArray} (h : Places n fl K) {i : Nat} (hi : i ∈ fl) : i < n ∧ K i = none := by
  obtain ⟨ul, hp, hu⟩ := h.use
  have hn : (fl ++ ul).Nodup := hp.nodup_iff.2 List.nodup_range
  refine ⟨List.mem_range.1 (hp.mem_iff.1 (List.mem_append.2 (Or.inl hi))), ?_⟩
  cases hk : K i with
  | none => rfl
  | some s =>
    have := (hu i).1 (by rw [hk]; rfl)
    exact absurd rfl ((List.nodup_append.1 hn).2.2 i hi i this)
theorem places_new (n : Nat) : Places n (List.range n).reverse (fun _ => none) := ⟨[], by rw [List.append_nil]; exact List.reverse_perm _, fun i => by simp⟩
theorem Places.put {n i : Nat} {fl : List Nat} {K : Nat → Option ByteArray} (h : Places n (fl ++ [i]) K) (s : ByteArray) : Places n fl (fun j => if j = i then some s else K j) := by
  obtain ⟨ul, hp, hu⟩ := h.use
  refine ⟨i :: ul, by simpa using hp, fun j => ?_⟩
  by_cases hj : j = i
  · subst hj; simp
  · rw [if_neg hj, hu]; simp [hj]
theorem Places.drop {n i : Nat} {fl : List Nat} {K : Nat → Option ByteArray} (h : Places n fl K) (hi : (K i).isSome = true) : Places n (fl ++ [i]) (fun j => if j = i then none else K j) := by
  obtain ⟨ul, hp, hu⟩ := h.use
  have hm := (hu i).1 hi
  have hn : (fl ++ ul).Nodup := hp.nodup_iff.2 List.nodup_range
  have hnu : ul.Nodup := (List.nodup_append.1 hn).2.1
  refine ⟨ul.erase i, ?_, fun j => ?_⟩
  · have h1 : ul.Perm (i :: ul.erase i) := List.perm_cons_erase hm
    have h2 : (fl ++ ul).Perm (fl ++ (i :: ul.erase i)) := List.Perm.append_left fl h1
    have h3 : fl ++ [i] ++ ul.erase i = fl ++ (i :: ul.erase i) := by simp
    rw [h3]
    exact h2.symm.trans hp
  · by_cases hj : j = i
    · subst hj
      simp only [if_true, Option.isSome_none, Bool.false_eq_true, false_iff]
      exact fun hx => by
        have := List.Nodup.mem_erase_iff hnu |>.1 hx
        exact this.1 rfl
    · rw [if_neg hj, hu, List.Nodup.mem_erase_iff hnu]
      simp [hj]
end Go.Proofs.YtbgcpljekcagiaaGreat
/- Numbers modulo a number, by bits. -/
namespace Go.Proofs.YtbgcpljekcagiaaGreat.Fp
set_option linter.unusedSimpArgs false
set_option linter.unusedVariables false
set_option maxRecDepth 100000

theorem rem_two (hi lo y : Nat) : (hi % y * 18446744073709551616 + lo) % y = (hi * 18446744073709551616 + lo) % y := by
  rw [Nat.add_mod, Nat.mod_mul_mod, ← Nat.add_mod]
end Go.Proofs.YtbgcpljekcagiaaGreat.Fp
/- A key's number: the bytes seven by seven, as a polynomial modulo the prime. -/
namespace Go.Proofs.YtbgcpljekcagiaaGreat.Ha
set_option linter.unusedSimpArgs false
set_option linter.unusedVariables false
set_option maxRecDepth 100000

def num (l : List UInt8) : Nat := l.foldl (fun n c => n * 256 + c.toNat) 0
theorem num_snoc (l : List UInt8) (c : UInt8) : num (l ++ [c]) = num l * 256 + c.toNat := by simp [num]
theorem num_lt : ∀ (n : Nat) (l : List UInt8), l.length = n → num l < 256 ^ n := by
  intro n
  induction n with
  | zero => intro l h; have : l = [] := List.eq_nil_of_length_eq_zero h
            subst this; decide
  | succ n ih =>
    intro l h
    have hl : l = l.dropLast ++ [l.getLast (by intro e; subst e; simp at h)] := (List.dropLast_concat_getLast _).symm
    have h1 := ih l.dropLast (by simp [h])
    generalize l.getLast _ = c at hl
    rw [hl, num_snoc, Nat.pow_succ]
    have := UInt8.toNat_lt c
    omega
theorem num_lt7 (l : List UInt8) (h : l.length ≤ 7) : num l < 72057594037927936 := by
  have := num_lt l.length l rfl
  have h2 : 256 ^ l.length ≤ 256 ^ 7 := Nat.pow_le_pow_right (by decide) h
  exact Nat.lt_of_lt_of_le this h2
def poly (X h : Nat) (l : List UInt8) : Nat :=
  if l = [] then h else poly X ((h * X % 2305843009213693951 + num (l.take 7)) % 2305843009213693951) (l.drop 7)
termination_by l.length
decreasing_by
  rename_i hl
  have : 0 < l.length := List.length_pos_iff.2 hl
  simp; omega
theorem poly_nil (X h : Nat) : poly X h [] = h := by rw [poly, if_pos rfl]
theorem poly_cons {X h : Nat} {l : List UInt8} (hl : l ≠ []) : poly X h l = poly X ((h * X % 2305843009213693951 + num (l.take 7)) % 2305843009213693951) (l.drop 7) := by rw [poly, if_neg hl]
/-- a key's number by a function X, A, B. -/
def hof (X A B : Nat) (l : List UInt8) : Nat := (poly X ((l.length + 1) % 2305843009213693951) l * A % 2305843009213693951 + B) % 2305843009213693951
theorem hof_lt (X A B : Nat) (l : List UInt8) : hof X A B l < 2305843009213693951 := Nat.mod_lt _ (by omega)
end Go.Proofs.YtbgcpljekcagiaaGreat.Ha
/- Where keys are: a table of places side by side, plain mathematics. -/
namespace Go.Proofs.YtbgcpljekcagiaaGreat.Ix
set_option linter.unusedSimpArgs false
set_option linter.unusedVariables false
set_option maxRecDepth 100000
/-- how many steps lead from one place to another one. -/
def dst (m a b : Nat) : Nat := if b < a then b + m - a else b - a
/-- the next place. -/
def nxt (m a : Nat) : Nat := if a + 1 = m then 0 else a + 1
theorem dst_or (m a b : Nat) : (b < a ∧ dst m a b = b + m - a) ∨ (a ≤ b ∧ dst m a b = b - a) := by
  unfold dst; split
  · exact Or.inl ⟨‹_›, rfl⟩
  · exact Or.inr ⟨by omega, rfl⟩
theorem nxt_or (m a : Nat) : (a + 1 = m ∧ nxt m a = 0) ∨ (a + 1 ≠ m ∧ nxt m a = a + 1) := by
  unfold nxt; split
  · exact Or.inl ⟨‹_›, rfl⟩
  · exact Or.inr ⟨‹_›, rfl⟩
theorem nxt_lt {m a : Nat} (h : a < m) : nxt m a < m := by have := nxt_or m a; omega
theorem dst_lt {m a b : Nat} (ha : a < m) (hb : b < m) : dst m a b < m := by have := dst_or m a b; omega
theorem dst_self (m a : Nat) : dst m a a = 0 := by have := dst_or m a a; omega
theorem dst_inj {m a b c : Nat} (ha : a < m) (hb : b < m) (hc : c < m) (h : dst m a b = dst m a c) : b = c := by
  have := dst_or m a b; have := dst_or m a c; omega
theorem dst_nxt {m a b : Nat} (ha : a < m) (hb : b < m) (h : dst m a b + 1 < m) : dst m a (nxt m b) = dst m a b + 1 := by
  have := dst_or m a b; have := dst_or m a (nxt m b); have := nxt_or m b; omega
/-- pigeons. -/
theorem php : ∀ (n m : Nat) (g : Nat → Nat), (∀ p, p < m → g p < n) → (∀ p q, p < m → q < m → g p = g q → p = q) → m ≤ n
  | 0, m, g, h, _ => by
    rcases Nat.eq_zero_or_pos m with h0 | h0
    · omega
    · have := h 0 h0; omega
  | n + 1, 0, _, _, _ => Nat.zero_le _
  | n + 1, m + 1, g, h, hi => by
    have := php n m (fun p => if g p = n then g m else g p) (fun p hp => by
      have h1 := h p (by omega); have h2 := h m (by omega)
      have h3 : g p ≠ g m := fun e => by have := hi p m (by omega) (by omega) e; omega
      show (if g p = n then g m else g p) < n
      split <;> omega) (fun p q hp hq e => by
      have h3 : g p ≠ g m := fun e => by have := hi p m (by omega) (by omega) e; omega
      have h4 : g q ≠ g m := fun e => by have := hi q m (by omega) (by omega) e; omega
      have e' : (if g p = n then g m else g p) = (if g q = n then g m else g q) := e
      apply hi p q (by omega) (by omega)
      split at e' <;> split at e' <;> omega)
    omega
section
variable {α : Type}
/-- a table that has all keys: each is found from its home on. -/
structure Tab (m n : Nat) (f : α → Nat) (K : Nat → Option α) (T : Nat → Nat) : Prop where
  sz : m = 2 * n + 1
  home : ∀ s, f s < m
  lt : ∀ i s, K i = some s → i < n
  ok : ∀ p, p < m → T p ≠ 0 → ∃ s, K (T p - 1) = some s ∧ ∀ q, q < m → dst m (f s) q < dst m (f s) p → T q ≠ 0
  has : ∀ i s, K i = some s → ∃ p, p < m ∧ T p = i + 1
  one : ∀ p q, p < m → q < m → T p ≠ 0 → T p = T q → p = q
  key : ∀ i j s, K i = some s → K j = some s → i = j
/-- the like with a hole, through which the ways to others may lead. -/
structure Jab (m n : Nat) (f : α → Nat) (K : Nat → Option α) (T : Nat → Nat) (h : Nat) : Prop where
  sz : m = 2 * n + 1
  home : ∀ s, f s < m
  lt : ∀ i s, K i = some s → i < n
  hl : h < m
  h0 : T h = 0
  ok : ∀ p, p < m → T p ≠ 0 → ∃ s, K (T p - 1) = some s ∧ ∀ q, q < m → dst m (f s) q < dst m (f s) p → T q ≠ 0 ∨ q = h
  has : ∀ i s, K i = some s → ∃ p, p < m ∧ T p = i + 1
  one : ∀ p q, p < m → q < m → T p ≠ 0 → T p = T q → p = q
  key : ∀ i j s, K i = some s → K j = some s → i = j
/-- some place other than one is free. -/
theorem two_free {m n : Nat} {f : α → Nat} {K : Nat → Option α} {T : Nat → Nat} (hs : m = 2 * n + 1) (hn : 1 ≤ n) (hl : ∀ i s, K i = some s → i < n)
    (ok : ∀ p, p < m → T p ≠ 0 → ∃ s, K (T p - 1) = some s) (one : ∀ p q, p < m → q < m → T p ≠ 0 → T p = T q → p = q) (h : Nat) : ∃ z, z < m ∧ z ≠ h ∧ T z = 0 := by
  apply Classical.byContradiction
  intro hno
  have hnz : ∀ z, z < m → z ≠ h → T z ≠ 0 := fun z h1 h2 h3 => hno ⟨z, h1, h2, h3⟩
  have := php n (m - 1) (fun p => T (if p < h then p else p + 1) - 1) (fun p hp => by
    have hx : (if p < h then p else p + 1) < m := by split <;> omega
    have hy : (if p < h then p else p + 1) ≠ h := by split <;> omega
    obtain ⟨s, hk⟩ := ok _ hx (hnz _ hx hy)
    exact hl _ s hk) (fun p q hp hq e => by
    have hx : (if p < h then p else p + 1) < m := by split <;> omega
    have hy : (if p < h then p else p + 1) ≠ h := by split <;> omega
    have hx' : (if q < h then q else q + 1) < m := by split <;> omega
    have hy' : (if q < h then q else q + 1) ≠ h := by split <;> omega
    have n1 := hnz _ hx hy
    have n2 := hnz _ hx' hy'
    have e' : T (if p < h then p else p + 1) = T (if q < h then q else q + 1) := by
      have : T (if p < h then p else p + 1) - 1 = T (if q < h then q else q + 1) - 1 := e
      omega
    have := one _ _ hx hx' n1 e'
    split at this <;> split at this <;> omega)
  omega
theorem one_free {m n : Nat} {f : α → Nat} {K : Nat → Option α} {T : Nat → Nat} (t : Tab m n f K T) : ∃ z, z < m ∧ T z = 0 := by
  rcases Nat.eq_zero_or_pos n with h | h
  · have hm := t.sz
    by_cases h0 : T 0 = 0
    · exact ⟨0, by omega, h0⟩
    · obtain ⟨s, hk, _⟩ := t.ok 0 (by omega) h0
      have := t.lt _ s hk; omega
  · obtain ⟨z, h1, _, h2⟩ := two_free (f := f) t.sz h t.lt (fun p hp h0 => by obtain ⟨s, hk, _⟩ := t.ok p hp h0; exact ⟨s, hk⟩) t.one 0
    exact ⟨z, h1, h2⟩
/-- how far a search has come: nothing free and not the key up to a place. -/
def Far (m : Nat) (f : α → Nat) (K : Nat → Option α) (T : Nat → Nat) (s : α) (d : Nat) : Prop := ∀ q, q < m → dst m (f s) q < d → T q ≠ 0 ∧ K (T q - 1) ≠ some s
theorem far_zero (m : Nat) (f : α → Nat) (K : Nat → Option α) (T : Nat → Nat) (s : α) : Far m f K T s 0 := fun _ _ h => by omega
theorem far_step {m n : Nat} {f : α → Nat} {K : Nat → Option α} {T : Nat → Nat} {s : α} (t : Tab m n f K T) {p : Nat} (hp : p < m) (h : Far m f K T s (dst m (f s) p)) (h0 : T p ≠ 0) (hk : K (T p - 1) ≠ some s) : Far m f K T s (dst m (f s) p + 1) := by
  intro q hq hd
  by_cases he : dst m (f s) q = dst m (f s) p
  · have := dst_inj (t.home s) hq hp he
    subst this; exact ⟨h0, hk⟩
  · exact h q hq (by omega)
/-- the search does not go all the way round. -/
theorem far_more {m n : Nat} {f : α → Nat} {K : Nat → Option α} {T : Nat → Nat} {s : α} (t : Tab m n f K T) {d : Nat} (h : Far m f K T s d) : d < m := by
  obtain ⟨z, hz, h0⟩ := one_free t
  apply Classical.byContradiction
  intro hd
  exact (h z hz (by have := dst_lt (t.home s) hz; omega)).1 h0
/-- what is found free is not in the table. -/
theorem far_none {m n : Nat} {f : α → Nat} {K : Nat → Option α} {T : Nat → Nat} {s : α} (t : Tab m n f K T) {p : Nat} (hp : p < m) (h : Far m f K T s (dst m (f s) p)) (h0 : T p = 0) (i : Nat) : K i ≠ some s := by
  intro hk
  obtain ⟨q, hq, hT⟩ := t.has i s hk
  obtain ⟨s', hk', hw⟩ := t.ok q hq (by omega)
  have : T q - 1 = i := by omega
  rw [this, hk] at hk'
  injection hk' with e
  subst e
  by_cases hd : dst m (f s) p < dst m (f s) q
  · exact hw p hp hd h0
  · by_cases he : dst m (f s) q = dst m (f s) p
    · have := dst_inj (t.home s) hq hp he
      subst this; omega
    · have := (h q hq (by omega)).2
      rw [‹T q - 1 = i›] at this
      exact this hk
def upN (T : Nat → Nat) (p v : Nat) : Nat → Nat := fun q => if q = p then v else T q
theorem tab_put {m n : Nat} {f : α → Nat} {K : Nat → Option α} {T : Nat → Nat} {s : α} (t : Tab m n f K T) {p : Nat} (hp : p < m) (h : Far m f K T s (dst m (f s) p)) (h0 : T p = 0) {i : Nat} (hi : i < n) (hKi : K i = none) :
    Tab m n f (fun j => if j = i then some s else K j) (upN T p (i + 1)) := by
  have hns := far_none t hp h h0
  refine ⟨t.sz, t.home, ?_, ?_, ?_, ?_, ?_⟩
  · intro j s' hj
    by_cases hji : j = i
    · omega
    · have hj : (if j = i then some s else K j) = some s' := hj
      rw [if_neg hji] at hj; exact t.lt j s' hj
  · intro q hq hT
    unfold upN at hT ⊢
    by_cases hqp : q = p
    · rw [if_pos hqp] at hT ⊢
      refine ⟨s, by simp, fun r hr hd => ?_⟩
      by_cases hrp : r = p
      · rw [if_pos hrp]; omega
      · rw [if_neg hrp]; rw [hqp] at hd; exact (h r hr hd).1
    · rw [if_neg hqp] at hT ⊢
      obtain ⟨s', hk', hw⟩ := t.ok q hq hT
      refine ⟨s', ?_, fun r hr hd => ?_⟩
      · show (if T q - 1 = i then some s else K (T q - 1)) = some s'
        rw [if_neg (fun e => by rw [e, hKi] at hk'; cases hk')]
        exact hk'
      · by_cases hrp : r = p
        · rw [if_pos hrp]; omega
        · rw [if_neg hrp]; exact hw r hr hd
  · intro j s' hj
    have hj : (if j = i then some s else K j) = some s' := hj
    by_cases hji : j = i
    · exact ⟨p, hp, by unfold upN; rw [if_pos rfl, hji]⟩
    · rw [if_neg hji] at hj
      obtain ⟨q, hq, hT⟩ := t.has j s' hj
      refine ⟨q, hq, ?_⟩
      unfold upN
      rw [if_neg (fun e => by rw [e] at hT; omega)]
      exact hT
  · intro a b ha hb hT e
    unfold upN at hT e
    by_cases hap : a = p
    · by_cases hbp : b = p
      · omega
      · rw [if_pos hap, if_neg hbp] at e
        obtain ⟨s', hk', _⟩ := t.ok b hb (by omega)
        rw [show T b - 1 = i by omega, hKi] at hk'; cases hk'
    · rw [if_neg hap] at e hT
      by_cases hbp : b = p
      · rw [if_pos hbp] at e
        obtain ⟨s', hk', _⟩ := t.ok a ha hT
        rw [show T a - 1 = i by omega, hKi] at hk'; cases hk'
      · rw [if_neg hbp] at e
        exact t.one a b ha hb hT e
  · intro a b s' ha hb
    have ha : (if a = i then some s else K a) = some s' := ha
    have hb : (if b = i then some s else K b) = some s' := hb
    by_cases hai : a = i
    · by_cases hbi : b = i
      · omega
      · rw [if_pos hai] at ha; rw [if_neg hbi] at hb
        injection ha with e; subst e
        exact absurd hb (hns b)
    · rw [if_neg hai] at ha
      by_cases hbi : b = i
      · rw [if_pos hbi] at hb
        injection hb with e; subst e
        exact absurd ha (hns a)
      · rw [if_neg hbi] at hb; exact t.key a b s' ha hb
/-- a key is taken out: a hole. -/
theorem jab_new {m n : Nat} {f : α → Nat} {K : Nat → Option α} {T : Nat → Nat} (t : Tab m n f K T) {p i : Nat} (hp : p < m) (hT : T p = i + 1) : Jab m n f (fun j => if j = i then none else K j) (upN T p 0) p := by
  refine ⟨t.sz, t.home, ?_, hp, by unfold upN; rw [if_pos rfl], ?_, ?_, ?_, ?_⟩
  · intro j s hj
    have hj : (if j = i then none else K j) = some s := hj
    by_cases hji : j = i
    · rw [if_pos hji] at hj; cases hj
    · rw [if_neg hji] at hj; exact t.lt j s hj
  · intro q hq h0
    unfold upN at h0 ⊢
    by_cases hqp : q = p
    · rw [if_pos hqp] at h0; omega
    · rw [if_neg hqp] at h0 ⊢
      obtain ⟨s, hk, hw⟩ := t.ok q hq h0
      refine ⟨s, ?_, fun r hr hd => ?_⟩
      · show (if T q - 1 = i then none else K (T q - 1)) = some s
        rw [if_neg (fun e => hqp (t.one q p hq hp h0 (by omega)))]
        exact hk
      · by_cases hrp : r = p
        · exact Or.inr hrp
        · rw [if_neg hrp]; exact Or.inl (hw r hr hd)
  · intro j s hj
    have hj : (if j = i then none else K j) = some s := hj
    by_cases hji : j = i
    · rw [if_pos hji] at hj; cases hj
    · rw [if_neg hji] at hj
      obtain ⟨q, hq, hTq⟩ := t.has j s hj
      exact ⟨q, hq, by unfold upN; rw [if_neg (fun e => by rw [e] at hTq; omega)]; exact hTq⟩
  · intro a b ha hb h0 e
    unfold upN at h0 e
    by_cases hap : a = p
    · rw [if_pos hap] at h0; omega
    · rw [if_neg hap] at h0 e
      by_cases hbp : b = p
      · rw [if_pos hbp] at e; omega
      · rw [if_neg hbp] at e; exact t.one a b ha hb h0 e
  · intro a b s ha hb
    have ha : (if a = i then none else K a) = some s := ha
    have hb : (if b = i then none else K b) = some s := hb
    by_cases hai : a = i
    · rw [if_pos hai] at ha; cases ha
    · by_cases hbi : b = i
      · rw [if_pos hbi] at hb; cases hb
      · rw [if_neg hai] at ha; rw [if_neg hbi] at hb; exact t.key a b s ha hb
/-- how far the look for what would fill a hole has come. -/
def Past (m : Nat) (f : α → Nat) (K : Nat → Option α) (T : Nat → Nat) (h d : Nat) : Prop := ∀ q, q < m → 0 < dst m h q → dst m h q < d → T q ≠ 0 ∧ ∀ s, K (T q - 1) = some s → dst m (f s) q < dst m h q
theorem past_one (m : Nat) (f : α → Nat) (K : Nat → Option α) (T : Nat → Nat) (h : Nat) : Past m f K T h 1 := fun _ _ _ _ => by omega
theorem past_step {m n : Nat} {f : α → Nat} {K : Nat → Option α} {T : Nat → Nat} {h : Nat} (j : Jab m n f K T h) {p : Nat} (hp : p < m) (hP : Past m f K T h (dst m h p)) (h0 : T p ≠ 0) {s : α} (hk : K (T p - 1) = some s) (hd : dst m (f s) p < dst m h p) : Past m f K T h (dst m h p + 1) := by
  intro q hq h1 h2
  by_cases he : dst m h q = dst m h p
  · have := dst_inj j.hl hq hp he
    subst this
    refine ⟨h0, fun s' hk' => ?_⟩
    rw [hk] at hk'; injection hk' with e; subst e; exact hd
  · exact hP q hq h1 (by omega)
theorem jab_end {m n : Nat} {f : α → Nat} {K : Nat → Option α} {T : Nat → Nat} {h : Nat} (j : Jab m n f K T h) {p : Nat} (hp : p < m) (hph : p ≠ h) (hP : Past m f K T h (dst m h p)) (h0 : T p = 0) : Tab m n f K T := by
  refine ⟨j.sz, j.home, j.lt, ?_, j.has, j.one, j.key⟩
  intro q hq hT
  obtain ⟨s, hk, hw⟩ := j.ok q hq hT
  refine ⟨s, hk, fun r hr hd => ?_⟩
  rcases hw r hr hd with h1 | h1
  · exact h1
  · exfalso
    subst h1
    have hl := j.hl
    have hf := j.home s
    have hqr : q ≠ r := fun e => hT (by rw [e]; exact j.h0)
    have hqp : q ≠ p := fun e => hT (by rw [e]; exact h0)
    have a1 := dst_or m (f s) r
    have a2 := dst_or m (f s) q
    have a3 := dst_or m r q
    have a4 := dst_or m r p
    have a5 := dst_or m (f s) p
    by_cases hlt : dst m r q < dst m r p
    · have := (hP q hq (by omega) hlt).2 s hk
      omega
    · have := hw p hp (by omega)
      rcases this with h2 | h2
      · exact h2 h0
      · exact hph h2
theorem jab_move {m n : Nat} {f : α → Nat} {K : Nat → Option α} {T : Nat → Nat} {h : Nat} (j : Jab m n f K T h) {p : Nat} (hp : p < m) (hT : T p ≠ 0) {s : α} (hk : K (T p - 1) = some s) (hd : dst m h p ≤ dst m (f s) p) :
    Jab m n f K (upN (upN T h (T p)) p 0) p := by
  have hl := j.hl
  have hph : p ≠ h := fun e => hT (by rw [e]; exact j.h0)
  have hat : ∀ q, upN (upN T h (T p)) p 0 q = if q = p then 0 else if q = h then T p else T q := fun q => rfl
  refine ⟨j.sz, j.home, j.lt, hp, by rw [hat, if_pos rfl], ?_, ?_, ?_, j.key⟩
  · intro q hq h0
    rw [hat] at h0 ⊢
    by_cases hqp : q = p
    · rw [if_pos hqp] at h0; omega
    · rw [if_neg hqp] at h0 ⊢
      by_cases hqh : q = h
      · rw [if_pos hqh]
        obtain ⟨s', hk', hw⟩ := j.ok p hp hT
        rw [hk] at hk'; injection hk' with e; subst e
        refine ⟨s, hk, fun r hr hdr => ?_⟩
        rw [hat]
        subst hqh
        have a1 := dst_or m (f s) q
        have a2 := dst_or m (f s) p
        have a3 := dst_or m q p
        have a4 := dst_or m (f s) r
        have hf := j.home s
        by_cases hrp : r = p
        · exact Or.inr hrp
        · rw [if_neg hrp]
          have hrq : r ≠ q := fun e => by subst e; omega
          rw [if_neg hrq]
          rcases hw r hr (by omega) with h1 | h1
          · exact Or.inl h1
          · exact absurd h1 hrq
      · rw [if_neg hqh] at h0 ⊢
        obtain ⟨s', hk', hw⟩ := j.ok q hq h0
        refine ⟨s', hk', fun r hr hdr => ?_⟩
        rw [hat]
        by_cases hrp : r = p
        · exact Or.inr hrp
        · rw [if_neg hrp]
          by_cases hrh : r = h
          · rw [if_pos hrh]; exact Or.inl hT
          · rw [if_neg hrh]
            rcases hw r hr hdr with h1 | h1
            · exact Or.inl h1
            · exact absurd h1 hrh
  · intro i s' hki
    obtain ⟨q, hq, hTq⟩ := j.has i s' hki
    by_cases hqp : q = p
    · exact ⟨h, hl, by rw [hat, if_neg (Ne.symm hph), if_pos rfl, ← hqp]; exact hTq⟩
    · exact ⟨q, hq, by rw [hat, if_neg hqp, if_neg (fun e => by rw [e, j.h0] at hTq; omega)]; exact hTq⟩
  · intro a b ha hb h0 e
    rw [hat] at h0
    rw [hat, hat] at e
    by_cases hap : a = p
    · rw [if_pos hap] at h0; omega
    · rw [if_neg hap] at h0 e
      by_cases hbp : b = p
      · rw [if_pos hbp] at e; omega
      · rw [if_neg hbp] at e
        by_cases hah : a = h
        · by_cases hbh : b = h
          · omega
          · rw [if_pos hah, if_neg hbh] at e
            exact absurd (j.one p b hp hb hT e).symm hbp
        · rw [if_neg hah] at h0 e
          by_cases hbh : b = h
          · rw [if_pos hbh] at e
            exact absurd (j.one a p ha hp h0 e) hap
          · rw [if_neg hbh] at e; exact j.one a b ha hb h0 e
theorem jab_free {m n : Nat} {f : α → Nat} {K : Nat → Option α} {T : Nat → Nat} {h : Nat} (j : Jab m n f K T h) (hn : 1 ≤ n) : ∃ z, z < m ∧ z ≠ h ∧ T z = 0 :=
  two_free (f := f) j.sz hn j.lt (fun p hp h0 => by obtain ⟨s, hk, _⟩ := j.ok p hp h0; exact ⟨s, hk⟩) j.one h
theorem tab_new (n : Nat) (f : α → Nat) (hf : ∀ s, f s < 2 * n + 1) : Tab (2 * n + 1) n f (fun _ => none) (fun _ => 0) :=
  ⟨rfl, hf, (fun i s h => by cases h), fun p _ h => absurd rfl h, (fun i s h => by cases h), fun p q _ _ h => absurd rfl h, (fun i j s h => by cases h)⟩
end
end Go.Proofs.YtbgcpljekcagiaaGreat.Ix
