/- The contracts of layer 13 (frame): what may be a request. -/
import Derived.Test.YtfpknklnbgmflaaFrN
namespace Go.Proofs.Ytfpknklnbgmflaa
set_option linter.unusedSimpArgs false
set_option linter.unusedVariables false
open Go.ChangeShapes Go.WideShapes Go.ChangeAt Go.RowKit
abbrev reqC (op rule cost : Int) (s : ByteArray) (k : Int) : Array Value := #[.int .i64 op, .int .i64 rule, .int .u32 cost, .string s, .int .i64 k]
abbrev reqV (op rule cost : Int) (s : ByteArray) (k : Int) : Value := .agg (reqC op rule cost s k)
def mkR (op rule cost : Int) (s : ByteArray) (k : Int) : Req := ⟨op, rule, cost, nums s, k⟩
theorem str_ne {s : ByteArray} (h : s.size ≠ 0) : s.toList.isEmpty = false ∧ (!s.toList.isEmpty) = true := by
  have : s.toList ≠ [] := by
    rw [ByteArray.toList_eq]
    intro e
    exact h (by rw [← nums_length]; unfold nums; rw [e]; rfl)
  constructor <;> simp [this]
theorem nums_e : nums ⟨#[]⟩ = [] := rfl
set_option maxHeartbeats 4000000 in
theorem fright_any (op rule cost k rules : Int) (s : ByteArray) (w : World) (hs : s.size ≤ maxLen) :
    (rightP (mkR op rule cost s k) rules → Calls Try.prog 20 #[reqV op rule cost s k, .int .i64 rules] w fun e w' => e = .returned (.bool true) ∧ Below w.heap.size w w') ∧
    (¬ rightP (mkR op rule cost s k) rules → Calls Try.prog 20 #[reqV op rule cost s k, .int .i64 rules] w fun e w' => e = .returned (.bool false) ∧ Below w.heap.size w w') := by
  unfold maxLen at hs
  have hl := nums_length s
  have hn : nums s = [] ↔ s.size = 0 := nums_nil s
  by_cases r1 : rule < 0
  · refine ⟨fun h => absurd h (by unfold rightP mkR; simp [hl, hn] <;> omega), fun _ => ?_⟩
    clear hl hn
    go_enter Try.func20, Try.ntmps20
    go_wp2
    all_goals
      go_ret
      exact ⟨rfl, (Below.refl _ _).alloc (Nat.le_refl _) _⟩
  · by_cases r2 : rules ≤ rule
    · refine ⟨fun h => absurd h (by unfold rightP mkR; simp [hl, hn] <;> omega), fun _ => ?_⟩
      clear hl hn
      go_enter Try.func20, Try.ntmps20
      go_wp2
      all_goals
        go_ret
        exact ⟨rfl, (Below.refl _ _).alloc (Nat.le_refl _) _⟩
    · by_cases r3 : 255 < rule
      · refine ⟨fun h => absurd h (by unfold rightP mkR; simp [hl, hn] <;> omega), fun _ => ?_⟩
        clear hl hn
        go_enter Try.func20, Try.ntmps20
        go_wp2
        all_goals
          go_ret
          exact ⟨rfl, (Below.refl _ _).alloc (Nat.le_refl _) _⟩
      · by_cases o1 : op = 1
        · subst o1
          by_cases z : s.size ≤ 64
          · by_cases kk : k = 0
            · subst kk
              refine ⟨fun _ => ?_, fun h => absurd (by unfold rightP mkR; simp [hl, hn] <;> omega) h⟩
              clear hl hn
              go_enter Try.func20, Try.ntmps20
              go_wp2
              all_goals
                go_ret
                exact ⟨rfl, (Below.refl _ _).alloc (Nat.le_refl _) _⟩
            · refine ⟨fun h => absurd h (by unfold rightP mkR; simp [hl, hn] <;> omega), fun _ => ?_⟩
              clear hl hn
              have d1 : (k == 0) = false := by simpa using kk
              go_enter Try.func20, Try.ntmps20
              go_wp2
              all_goals
                go_ret
                exact ⟨rfl, (Below.refl _ _).alloc (Nat.le_refl _) _⟩
          · refine ⟨fun h => absurd h (by unfold rightP mkR; simp [hl, hn] <;> omega), fun _ => ?_⟩
            clear hl hn
            go_enter Try.func20, Try.ntmps20
            go_wp2
            all_goals
              go_ret
              exact ⟨rfl, (Below.refl _ _).alloc (Nat.le_refl _) _⟩
        · by_cases o2 : op = 2
          · subst o2
            by_cases z : s.size ≤ 64
            · by_cases kk : k = 0
              · subst kk
                refine ⟨fun _ => ?_, fun h => absurd (by unfold rightP mkR; simp [hl, hn] <;> omega) h⟩
                clear hl hn
                go_enter Try.func20, Try.ntmps20
                go_wp2
                all_goals
                  go_ret
                  exact ⟨rfl, (Below.refl _ _).alloc (Nat.le_refl _) _⟩
              · refine ⟨fun h => absurd h (by unfold rightP mkR; simp [hl, hn] <;> omega), fun _ => ?_⟩
                clear hl hn
                have d1 : (k == 0) = false := by simpa using kk
                go_enter Try.func20, Try.ntmps20
                go_wp2
                all_goals
                  go_ret
                  exact ⟨rfl, (Below.refl _ _).alloc (Nat.le_refl _) _⟩
            · refine ⟨fun h => absurd h (by unfold rightP mkR; simp [hl, hn] <;> omega), fun _ => ?_⟩
              clear hl hn
              go_enter Try.func20, Try.ntmps20
              go_wp2
              all_goals
                go_ret
                exact ⟨rfl, (Below.refl _ _).alloc (Nat.le_refl _) _⟩
          · by_cases o3 : op = 3
            · subst o3
              by_cases kk : k = 0
              · subst kk
                by_cases cc : cost = 0
                · subst cc
                  by_cases h0 : s.size = 0
                  · obtain rfl := size0 h0
                    refine ⟨fun _ => ?_, fun h => absurd (by unfold rightP mkR; simp [nums_e] <;> omega) h⟩
                    clear hl hn
                    go_enter Try.func20, Try.ntmps20
                    go_wp2
                    all_goals
                      go_ret
                      exact ⟨rfl, (Below.refl _ _).alloc (Nat.le_refl _) _⟩
                  · obtain ⟨q1, q2⟩ := str_ne h0
                    refine ⟨fun h => absurd h (by unfold rightP mkR; simp [show nums s ≠ [] from fun e => h0 (hn.1 e)] <;> omega), fun _ => ?_⟩
                    clear hl hn
                    go_enter Try.func20, Try.ntmps20
                    go_wp2
                    all_goals
                      go_ret
                      exact ⟨rfl, (Below.refl _ _).alloc (Nat.le_refl _) _⟩
                · refine ⟨fun h => absurd h (by unfold rightP mkR; simp [hl, hn] <;> omega), fun _ => ?_⟩
                  clear hl hn
                  go_enter Try.func20, Try.ntmps20
                  go_wp2
                  all_goals
                    go_ret
                    exact ⟨rfl, (Below.refl _ _).alloc (Nat.le_refl _) _⟩
              · refine ⟨fun h => absurd h (by unfold rightP mkR; simp [hl, hn] <;> omega), fun _ => ?_⟩
                clear hl hn
                have d1 : (k == 0) = false := by simpa using kk
                go_enter Try.func20, Try.ntmps20
                go_wp2
                all_goals
                  go_ret
                  exact ⟨rfl, (Below.refl _ _).alloc (Nat.le_refl _) _⟩
            · by_cases o4 : op = 4
              · subst o4
                by_cases cc : cost = 0
                · subst cc
                  by_cases h0 : s.size = 0
                  · obtain rfl := size0 h0
                    by_cases k0 : k < 0
                    · refine ⟨fun h => absurd h (by unfold rightP mkR; simp [nums_e] <;> omega), fun _ => ?_⟩
                      clear hl hn
                      go_enter Try.func20, Try.ntmps20
                      go_wp2
                      all_goals
                        go_ret
                        exact ⟨rfl, (Below.refl _ _).alloc (Nat.le_refl _) _⟩
                    · by_cases k1 : 255 < k
                      · refine ⟨fun h => absurd h (by unfold rightP mkR; simp [nums_e] <;> omega), fun _ => ?_⟩
                        clear hl hn
                        have d1 : decide (k ≤ 255) = false := by simp; omega
                        go_enter Try.func20, Try.ntmps20
                        go_wp2
                        all_goals
                          go_ret
                          exact ⟨rfl, (Below.refl _ _).alloc (Nat.le_refl _) _⟩
                      · refine ⟨fun _ => ?_, fun h => absurd (by unfold rightP mkR; simp [nums_e] <;> omega) h⟩
                        clear hl hn
                        have d1 : decide (k ≤ 255) = true := by simp; omega
                        go_enter Try.func20, Try.ntmps20
                        go_wp2
                        all_goals
                          go_ret
                          exact ⟨rfl, (Below.refl _ _).alloc (Nat.le_refl _) _⟩
                  · obtain ⟨q1, q2⟩ := str_ne h0
                    refine ⟨fun h => absurd h (by unfold rightP mkR; simp [show nums s ≠ [] from fun e => h0 (hn.1 e)] <;> omega), fun _ => ?_⟩
                    clear hl hn
                    go_enter Try.func20, Try.ntmps20
                    go_wp2
                    all_goals
                      go_ret
                      exact ⟨rfl, (Below.refl _ _).alloc (Nat.le_refl _) _⟩
                · refine ⟨fun h => absurd h (by unfold rightP mkR; simp [hl, hn] <;> omega), fun _ => ?_⟩
                  clear hl hn
                  go_enter Try.func20, Try.ntmps20
                  go_wp2
                  all_goals
                    go_ret
                    exact ⟨rfl, (Below.refl _ _).alloc (Nat.le_refl _) _⟩
              · refine ⟨fun h => absurd h (by unfold rightP mkR; simp [hl, hn] <;> omega), fun _ => ?_⟩
                clear hl hn
                go_enter Try.func20, Try.ntmps20
                go_wp2
                all_goals
                  go_ret
                  exact ⟨rfl, (Below.refl _ _).alloc (Nat.le_refl _) _⟩
end Go.Proofs.Ytfpknklnbgmflaa
