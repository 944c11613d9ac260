/- Sketches as plain mathematics: rows of counters, of which a key has one in each row. -/
import Derived.Test.YtmdkokehomboaaaArSum
namespace Go.Proofs.Ytmdkokehomboaaa.Sk
set_option linter.unusedSimpArgs false
set_option linter.unusedVariables false
set_option maxRecDepth 100000
open Ar (inR)
/-- the least counter of a key in the rows 0 to r. -/
def leastR (f : Nat → Nat → Int) (P : Nat → ByteArray → Nat) (s : ByteArray) : Nat → Int
  | 0 => f 0 (P 0 s)
  | r + 1 => min (leastR f P s r) (f (r + 1) (P (r + 1) s))
theorem leastR_le (f : Nat → Nat → Int) (P : Nat → ByteArray → Nat) (s : ByteArray) : ∀ (r j : Nat), j ≤ r → leastR f P s r ≤ f j (P j s)
  | 0, j, h => by have : j = 0 := by omega
                  subst this; exact Int.le_refl _
  | r + 1, j, h => by
    have e : leastR f P s (r + 1) = min (leastR f P s r) (f (r + 1) (P (r + 1) s)) := rfl
    by_cases hj : j = r + 1
    · subst hj; omega
    · have := leastR_le f P s r j (by omega); omega
theorem leastR_is (f : Nat → Nat → Int) (P : Nat → ByteArray → Nat) (s : ByteArray) : ∀ r : Nat, ∃ j, j ≤ r ∧ leastR f P s r = f j (P j s)
  | 0 => ⟨0, Nat.le_refl _, rfl⟩
  | r + 1 => by
    have e : leastR f P s (r + 1) = min (leastR f P s r) (f (r + 1) (P (r + 1) s)) := rfl
    obtain ⟨j, hj, he⟩ := leastR_is f P s r
    by_cases h : leastR f P s r ≤ f (r + 1) (P (r + 1) s)
    · exact ⟨j, by omega, by omega⟩
    · exact ⟨r + 1, Nat.le_refl _, by omega⟩
theorem leastR_ge {f : Nat → Nat → Int} {P : Nat → ByteArray → Nat} {s : ByteArray} {r : Nat} {z : Int} (h : ∀ j, j ≤ r → z ≤ f j (P j s)) : z ≤ leastR f P s r := by
  obtain ⟨j, hj, he⟩ := leastR_is f P s r
  rw [he]; exact h j hj
/-- the rows below r have a key's counter at least at a floor. -/
def raise (f : Nat → Nat → Int) (P : Nat → ByteArray → Nat) (s : ByteArray) (fl : Int) (r : Nat) : Nat → Nat → Int := fun j p => if j < r ∧ p = P j s then max (f j p) fl else f j p
/-- what a key has more, in k rows. -/
def add (f : Nat → Nat → Int) (P : Nat → ByteArray → Nat) (k : Nat) (s : ByteArray) (c : Int) : Nat → Nat → Int :=
  if c < 1 then f else raise f P s (clamp (leastR f P s (k - 1) + c)) k
theorem raise_zero (f : Nat → Nat → Int) (P : Nat → ByteArray → Nat) (s : ByteArray) (fl : Int) : raise f P s fl 0 = f := by
  funext j p
  unfold raise
  rw [if_neg (by omega)]
theorem raise_up (f : Nat → Nat → Int) (P : Nat → ByteArray → Nat) (s : ByteArray) (fl : Int) (r : Nat) :
    (fun j q => if j = r ∧ q = P r s then max (f r (P r s)) fl else raise f P s fl r j q) = raise f P s fl (r + 1) := by
  funext j q
  unfold raise
  by_cases h : j = r ∧ q = P r s
  · obtain ⟨rfl, rfl⟩ := h
    rw [if_pos ⟨rfl, rfl⟩, if_pos ⟨by omega, rfl⟩]
  · rw [if_neg h]
    by_cases h2 : j < r ∧ q = P j s
    · rw [if_pos h2, if_pos ⟨by omega, h2.2⟩]
    · rw [if_neg h2, if_neg (fun e => by
        by_cases hj : j = r
        · subst hj; exact h ⟨rfl, e.2⟩
        · exact h2 ⟨by omega, e.2⟩)]
theorem raise_at (f : Nat → Nat → Int) (P : Nat → ByteArray → Nat) (s : ByteArray) (fl : Int) (r : Nat) : raise f P s fl r r (P r s) = f r (P r s) := by
  unfold raise; rw [if_neg (by omega)]
/-- the counters, row behind row. -/
def tab (f : Nat → Nat → Int) (k W : Nat) : List Int := (List.range (k * W)).map fun i => f (i / W) (i % W)
theorem tab_len (f : Nat → Nat → Int) (k W : Nat) : (tab f k W).length = k * W := by simp [tab]
theorem at_lt {k W j p : Nat} (hj : j < k) (hp : p < W) : j * W + p < k * W := by
  have : (j + 1) * W ≤ k * W := Nat.mul_le_mul_right _ hj
  rw [Nat.succ_mul] at this
  omega
theorem div_at {W j p : Nat} (hp : p < W) : (j * W + p) / W = j := by
  rw [Nat.mul_comm, Nat.mul_add_div (by omega), Nat.div_eq_of_lt hp]; rfl
theorem mod_at {W j p : Nat} (hp : p < W) : (j * W + p) % W = p := by
  rw [Nat.mul_comm, Nat.mul_add_mod, Nat.mod_eq_of_lt hp]
theorem tab_get {f : Nat → Nat → Int} {k W j p : Nat} (hj : j < k) (hp : p < W) : (tab f k W)[j * W + p]? = some (f j p) := by
  unfold tab
  rw [List.getElem?_map, List.getElem?_range (at_lt hj hp), Option.map_some, div_at hp, mod_at hp]
theorem tab_set {f : Nat → Nat → Int} {k W i p : Nat} (hi : i < k) (hp : p < W) (z : Int) : (tab f k W).set (i * W + p) z = tab (fun j q => if j = i ∧ q = p then z else f j q) k W := by
  have hl := at_lt hi hp
  apply List.ext_getElem?
  intro n
  by_cases hn : n < k * W
  · have hW : 0 < W := by omega
    have hn2 : n = (n / W) * W + n % W := by rw [Nat.mul_comm]; exact (Nat.div_add_mod n W).symm
    have hm := Nat.mod_lt n hW
    have hd : n / W < k := Nat.div_lt_of_lt_mul (by rw [Nat.mul_comm]; exact hn)
    rw [List.getElem?_set]
    by_cases e : i * W + p = n
    · rw [if_pos e, if_pos (by rw [tab_len]; omega)]
      have h1 : n / W = i := by rw [← e]; exact div_at hp
      have h2 : n % W = p := by rw [← e]; exact mod_at hp
      rw [hn2, tab_get hd hm, h1, h2, if_pos ⟨rfl, rfl⟩]
    · rw [if_neg e, hn2, tab_get hd hm, tab_get hd hm, if_neg (fun h => e (by rw [hn2, h.1, h.2]))]
  · rw [List.getElem?_eq_none (by rw [List.length_set, tab_len]; omega), List.getElem?_eq_none (by rw [tab_len]; omega)]
theorem tab_zero (k W : Nat) : tab (fun _ _ => 0) k W = List.replicate (k * W) 0 := by
  unfold tab
  apply List.ext_getElem
  · simp
  · intro i h1 h2; simp
/-- counters are from 0 on, and int64. -/
def okC (f : Nat → Nat → Int) : Prop := ∀ j p, 0 ≤ f j p ∧ f j p ≤ 9223372036854775807
theorem okC.least {f : Nat → Nat → Int} (h : okC f) (P : Nat → ByteArray → Nat) (s : ByteArray) (r : Nat) : 0 ≤ leastR f P s r ∧ leastR f P s r ≤ 9223372036854775807 := by
  obtain ⟨j, _, he⟩ := leastR_is f P s r
  rw [he]; exact h _ _
theorem clamp_pos {a c : Int} (h : 0 ≤ a ∧ a ≤ 9223372036854775807) (hc : 1 ≤ c ∧ c ≤ 9223372036854775807) : a ≤ clamp (a + c) ∧ clamp (a + c) ≤ 9223372036854775807 ∧ (a + c ≤ 9223372036854775807 → clamp (a + c) = a + c) ∧ (9223372036854775807 ≤ a + c → clamp (a + c) = 9223372036854775807) := by
  unfold clamp
  split
  · omega
  · split <;> omega
theorem okC.raise {f : Nat → Nat → Int} (h : okC f) (P : Nat → ByteArray → Nat) (s : ByteArray) {fl : Int} (hf : fl ≤ 9223372036854775807) (r : Nat) : okC (raise f P s fl r) := by
  intro j p
  have := h j p
  unfold Sk.raise
  split <;> omega
theorem okC.add {f : Nat → Nat → Int} (h : okC f) (P : Nat → ByteArray → Nat) (k : Nat) (s : ByteArray) {c : Int} (hc : c ≤ 9223372036854775807) : okC (add f P k s c) := by
  unfold Sk.add
  split
  · exact h
  · exact h.raise P s (clamp_pos (h.least P s (k - 1)) (by omega)).2.1 k
/-- counters only rise. -/
theorem add_ge (f : Nat → Nat → Int) (P : Nat → ByteArray → Nat) (k : Nat) (s : ByteArray) (c : Int) (j p : Nat) : f j p ≤ add f P k s c j p := by
  unfold Sk.add
  split
  · exact Int.le_refl _
  · unfold Sk.raise
    split <;> omega
theorem least_mono {f g : Nat → Nat → Int} (h : ∀ j p, f j p ≤ g j p) (P : Nat → ByteArray → Nat) (s : ByteArray) (r : Nat) : leastR f P s r ≤ leastR g P s r := by
  obtain ⟨j, hj, he⟩ := leastR_is g P s r
  rw [he]
  exact Int.le_trans (leastR_le f P s r j hj) (h _ _)
/-- the key that was added is told just what it was, and that more. -/
theorem add_self {f : Nat → Nat → Int} (h : okC f) (P : Nat → ByteArray → Nat) {k : Nat} (hk : 1 ≤ k) (s : ByteArray) {c : Int} (hc : 1 ≤ c ∧ c ≤ 9223372036854775807) : leastR (add f P k s c) P s (k - 1) = clamp (leastR f P s (k - 1) + c) := by
  have hl := h.least P s (k - 1)
  have hp := clamp_pos hl hc
  obtain ⟨fl, hfl⟩ : ∃ fl, fl = clamp (leastR f P s (k - 1) + c) := ⟨_, rfl⟩
  rw [← hfl] at hp ⊢
  have e : add f P k s c = raise f P s fl k := by unfold Sk.add; rw [if_neg (by omega), hfl]
  rw [e]
  apply Int.le_antisymm
  · obtain ⟨j, hj, he⟩ := leastR_is f P s (k - 1)
    refine Int.le_trans (leastR_le _ _ _ _ j hj) ?_
    unfold Sk.raise
    rw [if_pos ⟨by omega, rfl⟩, ← he]
    omega
  · refine leastR_ge (fun j hj => ?_)
    unfold Sk.raise
    rw [if_pos ⟨by omega, rfl⟩]
    omega
/-- the counters of other places stay. -/
theorem add_off (f : Nat → Nat → Int) (P : Nat → ByteArray → Nat) (k : Nat) (s : ByteArray) (c : Int) {j p : Nat} (h : p ≠ P j s) : add f P k s c j p = f j p := by
  unfold Sk.add
  split
  · rfl
  · unfold Sk.raise; rw [if_neg (fun e => h e.2)]
theorem add_off2 (f : Nat → Nat → Int) (P : Nat → ByteArray → Nat) (k : Nat) (s : ByteArray) (c : Int) {j p : Nat} (h : k ≤ j) : add f P k s c j p = f j p := by
  unfold Sk.add
  split
  · rfl
  · unfold Sk.raise; rw [if_neg (fun e => by omega)]
/-- a counter rises by no more than what came. -/
theorem add_le {f : Nat → Nat → Int} (h : okC f) (P : Nat → ByteArray → Nat) {k : Nat} (s : ByteArray) {c : Int} (hc : 0 ≤ c ∧ c ≤ 9223372036854775807) (j p : Nat) : add f P k s c j p ≤ f j p + c := by
  unfold Sk.add
  split
  · omega
  · unfold Sk.raise
    split
    · rename_i h1 h2
      have hl := leastR_le f P s (k - 1) j (by omega)
      have hp := clamp_pos (h.least P s (k - 1)) (c := c) (by omega)
      rw [← h2.2] at hl
      have h0 := h j p
      by_cases hb : leastR f P s (k - 1) + c ≤ 9223372036854775807
      · rw [hp.2.2.1 hb]; omega
      · rw [hp.2.2.2 (by omega)]; omega
    · omega
end Go.Proofs.Ytmdkokehomboaaa.Sk
