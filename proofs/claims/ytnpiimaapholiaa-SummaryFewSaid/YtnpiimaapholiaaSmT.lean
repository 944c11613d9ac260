/- The law SummaryEpochs of layer 8: the plain side. -/
import Derived.Test.YtnpiimaapholiaaSmW
namespace Go.Proofs.Ytnpiimaapholiaa
set_option linter.unusedSimpArgs false
set_option linter.unusedVariables false
open Go.ChangeShapes Go.WideShapes Go.ChangeAt Go.RowKit
/-- what Count tells. -/
def tellM (M : List Tri) (s : ByteArray) : Int × Int × Bool := match M.find? (fun t => decide (t.1 = s)) with
  | some t => (t.2.1, t.2.2, true)
  | none => (0, 0, false)
section
variable {w W : World} {Q : SmN} {M : List Tri} {tot : Int}
theorem smcountM_any (s : ByteArray) (hs : s.size ≤ maxLen) (w : World) (h : SmM w Q M tot) : Calls Try.prog 21 #[.pointer (some ⟨Q.s, 0, none⟩), .string s] w fun e w' => e = .returned (.tuple #[.int .i64 (tellM M s).1, .int .i64 (tellM M s).2.1, .bool (tellM M s).2.2]) ∧ Below w.heap.size w w' := by
  unfold tellM
  cases hf : M.find? (fun t => decide (t.1 = s)) with
  | none =>
    rw [List.find?_eq_none] at hf
    exact smcountM_no s hs w h (fun t ht e => hf t ht (decide_eq_true e))
  | some t =>
    have h1 := List.find?_some hf
    have h2 := List.mem_of_find?_eq_some hf
    have h3 : t.1 = s := of_decide_eq_true h1
    obtain ⟨j, hj⟩ := List.getElem?_of_mem h2
    subst h3
    exact smcountM_yes j t hs w h hj
end
abbrev sX : ByteArray := ⟨#[120]⟩
abbrev sY : ByteArray := ⟨#[121]⟩
theorem sXY : sX ≠ sY := by decide
theorem off_one (n : Nat) (hn : 1 ≤ n) (s : ByteArray) (hs : s.size ≤ 64) (a : Int) (ha : 1 ≤ a ∧ a < 4611686018427387904) : offerM n [] 0 s a = ([(s, a, 0)], a) := by
  unfold offerM
  rw [if_neg (by omega)]
  have hb : begM [] 0 a = ([], 0) := by unfold begM; split <;> rfl
  rw [hb]
  have hp : preM n [] s = ([(s, 0, 0)], 0) := by
    unfold preM cutM leastM
    simp only [List.findIdx?_nil, List.length_nil]
    rw [if_neg (by omega), if_pos (by omega)]
    rfl
  rw [hp]
  simp [incM, riseM]
theorem off_not (n : Nat) (M : List Tri) (t : Int) (s : ByteArray) (a : Int) (ha : a < 1) : offerM n M t s a = (M, t) := by
  unfold offerM
  rw [if_pos (Or.inl ha)]
theorem off_two (a b : Int) (ha : 1 ≤ a ∧ a < 4611686018427387904) (hb : 1 ≤ b ∧ b < 4611686018427387904) : offerM 2 [(sX, a, 0)] a sY b = if 4611686018427387904 - b ≤ a then ([(sY, b, 0)], b) else (if a < b then [(sY, b, 0), (sX, a, 0)] else [(sX, a, 0), (sY, b, 0)], a + b) := by
  by_cases hc : 4611686018427387904 - b ≤ a
  · rw [if_pos hc, ← off_one 2 (by omega) sY (by decide) b hb]
    unfold offerM
    have h1 : begM [(sX, a, 0)] a b = ([], 0) := by unfold begM; rw [if_pos hc]
    have h2 : begM [] 0 b = ([], 0) := by unfold begM; split <;> rfl
    rw [h1, h2]
    have hz : sY.size = 1 := rfl
    rw [if_neg (by omega), if_neg (by omega)]
  · rw [if_neg hc]
    unfold offerM
    rw [if_neg (by have : sY.size = 1 := rfl; omega)]
    have h1 : begM [(sX, a, 0)] a b = ([(sX, a, 0)], a) := by unfold begM; rw [if_neg hc]
    rw [h1]
    have hp : preM 2 [(sX, a, 0)] sY = ([(sX, a, 0), (sY, 0, 0)], 1) := by
      unfold preM cutM leastM
      have hf : [((sX, a, 0) : Tri)].findIdx? (fun x => decide (x.1 = sY)) = none := by
        rw [List.findIdx?_eq_none_iff]
        intro x hx
        rw [List.mem_singleton.1 hx]
        exact decide_eq_false sXY
      rw [hf]
      rfl
    rw [hp]
    have hi : incM [((sX, a, 0) : Tri), (sY, 0, 0)] 1 b = [(sX, a, 0), (sY, b, 0)] := by
      show [((sX, a, 0) : Tri), (sY, 0 + b, 0)] = _
      rw [Int.zero_add]
    rw [hi]
    show (riseM [((sX, a, 0) : Tri), (sY, b, 0)] 1, a + b) = _
    have hr : riseM [((sX, a, 0) : Tri), (sY, b, 0)] 1 = if a < b then [(sY, b, 0), (sX, a, 0)] else [(sX, a, 0), (sY, b, 0)] := by
      show (if a < b then riseM [((sY, b, 0) : Tri), (sX, a, 0)] 0 else _) = _
      rfl
    rw [hr]
def twoM (a b : Int) : List Tri × Int := offerM 2 (offerM 2 [] 0 sX a).1 (offerM 2 [] 0 sX a).2 sY b
theorem two_00 (a b : Int) (ha : a < 1) (hb : b < 1) : twoM a b = ([], 0) := by unfold twoM; rw [off_not _ _ _ _ _ ha, off_not _ _ _ _ _ hb]
theorem two_01 (a b : Int) (ha : a < 1) (hb : 1 ≤ b ∧ b < 4611686018427387904) : twoM a b = ([(sY, b, 0)], b) := by unfold twoM; rw [off_not _ _ _ _ _ ha]; exact off_one 2 (by omega) sY (by decide) b hb
theorem two_10 (a b : Int) (ha : 1 ≤ a ∧ a < 4611686018427387904) (hb : b < 1) : twoM a b = ([(sX, a, 0)], a) := by unfold twoM; rw [off_one 2 (by omega) sX (by decide) a ha, off_not _ _ _ _ _ hb]
theorem two_11 (a b : Int) (ha : 1 ≤ a ∧ a < 4611686018427387904) (hb : 1 ≤ b ∧ b < 4611686018427387904) : twoM a b = if 4611686018427387904 - b ≤ a then ([(sY, b, 0)], b) else (if a < b then [(sY, b, 0), (sX, a, 0)] else [(sX, a, 0), (sY, b, 0)], a + b) := by unfold twoM; rw [off_one 2 (by omega) sX (by decide) a ha]; exact off_two a b ha hb
theorem tell_X (a b : Int) : tellM [(sX, a, 0)] sX = (a, 0, true) ∧ tellM [(sX, a, 0)] sY = (0, 0, false) ∧ tellM [(sY, b, 0)] sX = (0, 0, false) ∧ tellM [(sY, b, 0)] sY = (b, 0, true) ∧ tellM [(sY, b, 0), (sX, a, 0)] sX = (a, 0, true) ∧ tellM [(sY, b, 0), (sX, a, 0)] sY = (b, 0, true) ∧ tellM [(sX, a, 0), (sY, b, 0)] sX = (a, 0, true) ∧ tellM [(sX, a, 0), (sY, b, 0)] sY = (b, 0, true) := ⟨rfl, rfl, rfl, rfl, rfl, rfl, rfl, rfl⟩
/-- what is told of both. -/
theorem two_tells (a b : Int) (ha : 0 ≤ a ∧ a < 4611686018427387904) (hb : 0 ≤ b ∧ b < 4611686018427387904) :
    (a = 0 ∧ b = 0 ∧ tellM (twoM a b).1 sX = (0, 0, false) ∧ tellM (twoM a b).1 sY = (0, 0, false) ∧ (twoM a b).2 = 0) ∨
    (a = 0 ∧ 1 ≤ b ∧ tellM (twoM a b).1 sX = (0, 0, false) ∧ tellM (twoM a b).1 sY = (b, 0, true) ∧ (twoM a b).2 = b) ∨
    (1 ≤ a ∧ b = 0 ∧ tellM (twoM a b).1 sX = (a, 0, true) ∧ tellM (twoM a b).1 sY = (0, 0, false) ∧ (twoM a b).2 = a) ∨
    (1 ≤ a ∧ 1 ≤ b ∧ 4611686018427387904 - b ≤ a ∧ tellM (twoM a b).1 sX = (0, 0, false) ∧ tellM (twoM a b).1 sY = (b, 0, true) ∧ (twoM a b).2 = b ∧ (twoM a b).1.length = 1) ∨
    (1 ≤ a ∧ 1 ≤ b ∧ ¬ 4611686018427387904 - b ≤ a ∧ tellM (twoM a b).1 sX = (a, 0, true) ∧ tellM (twoM a b).1 sY = (b, 0, true) ∧ (twoM a b).2 = a + b) := by
  obtain ⟨t1, t2, t3, t4, t5, t6, t7, t8⟩ := tell_X a b
  by_cases h1 : a < 1
  · by_cases h2 : b < 1
    · rw [two_00 a b h1 h2]; exact Or.inl ⟨by omega, by omega, rfl, rfl, rfl⟩
    · rw [two_01 a b h1 (by omega)]; exact Or.inr (Or.inl ⟨by omega, by omega, t3, t4, rfl⟩)
  · by_cases h2 : b < 1
    · rw [two_10 a b (by omega) h2]; exact Or.inr (Or.inr (Or.inl ⟨by omega, by omega, t1, t2, rfl⟩))
    · rw [two_11 a b (by omega) (by omega)]
      by_cases h3 : 4611686018427387904 - b ≤ a
      · rw [if_pos h3]; exact Or.inr (Or.inr (Or.inr (Or.inl ⟨by omega, by omega, h3, t3, t4, rfl, rfl⟩)))
      · rw [if_neg h3]
        refine Or.inr (Or.inr (Or.inr (Or.inr ⟨by omega, by omega, h3, ?_, ?_, rfl⟩)))
        · show tellM (if a < b then _ else _) sX = _
          split
          · exact t5
          · exact t7
        · show tellM (if a < b then _ else _) sY = _
          split
          · exact t6
          · exact t8
end Go.Proofs.Ytnpiimaapholiaa
