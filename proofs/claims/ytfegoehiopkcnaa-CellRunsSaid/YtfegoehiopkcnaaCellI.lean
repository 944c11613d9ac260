/- The contracts of layer 9 (cell): Idle. -/
import Derived.Test.YtfegoehiopkcnaaCellG
import Derived.Test.YtfegoehiopkcnaaBlk
import Derived.Test.YtfegoehiopkcnaaRowF
namespace Go.Proofs.Ytfegoehiopkcnaa
set_option linter.unusedSimpArgs false
set_option linter.unusedVariables false
set_option maxRecDepth 100000
open Go.ChangeShapes Go.WideShapes Go.ChangeAt Go.RowKit
open Ar (inR)
/-- has it nothing that a new one hasn't? -/
def idleP (F S W t : Int) : Bool := !(decide (t < S + W)) && decide (F ≤ t - W)
theorem two_blk (w : World) (A B : Array Value) (tA tB : TypeId) : ∃ w2, (w.alloc (.cells A tA)).alloc (.cells B tB) = w2 ∧ Blk w2 w.heap.size tA A ∧ Blk w2 (w.heap.size + 1) tB B ∧ Below w.heap.size w w2 := by
  obtain ⟨w2, h1, h2, h3, h4⟩ := two_allocs w A B tA tB
  exact ⟨w2, h1, h2, h3, h4⟩
section
variable {F S C D U W B L t : Int}
set_option maxHeartbeats 1000000 in
theorem idle_rng (h : Rng F S C D U W B L t) (w : World) :
    Calls Try.prog 24 #[cv F S C D, pv U W B L, .int .i64 t] w fun e w' => e = .returned (.bool (idleP F S W t)) ∧ Below w.heap.size w w' := by
  have c4 := fun w => young_rng h w
  obtain ⟨hF, hS, hC, hD, hU, hW, hB, hL, ht⟩ := h
  obtain ⟨s, hs⟩ : ∃ s, s = t - W := ⟨_, rfl⟩
  have e1 : IntKind.i64.wrap (t - W) = s := by rw [IntKind.wrap_i64]; omega
  have e2 : t - W = s := hs.symm
  have hsb : -9223372036854775808 ≤ t - W ∧ t - W ≤ 9223372036854775807 := by omega
  obtain ⟨y, hy⟩ : ∃ y, y = decide (t < S + W) := ⟨_, rfl⟩
  obtain ⟨z, hz⟩ : ∃ z, z = decide (F ≤ s) := ⟨_, rfl⟩
  have e3 : decide (F ≤ s) = z := hz.symm
  rw [← hy] at c4
  have e : idleP F S W t = (!y && z) := by unfold idleP; rw [hz, hy, hs]
  rw [e]
  have C4 := Lib.hid c4
  clear c4 e hs hF hS hC hD hU hW hB hL ht hy hz
  cases y
  all_goals
    go_enter Try.func24, Try.ntmps24
    go_upto_region 1 with (fail)
    obtain ⟨w2, ew, n1, n2, bw⟩ := two_blk w #[.int .i64 F, .int .i64 S, .int .i64 C, .int .i64 D] #[.int .i64 U, .int .i64 W, .int .i64 B, .int .i64 L] 36 31
    rw [ew]
    have Q2 := Lib.hid (And.intro n1 n2)
    have B2 := Lib.hid bw
    have r1 := n1.rd
    have r2 := n2.rd
    clear ew n1 n2 bw
    go_wp2_with (go_at_call 29; ((with_reducible refine (C4.out _).mono ?_); rintro e w3 ⟨rfl, b3⟩; have Q3 := keep2 Q2.out b3; have r3 := Q3.1.rd; have r4 := Q3.2.rd; have B3 := Lib.hid (below_from B2.out b3); clear Q3 b3))
    go_ret
    exact ⟨rfl, B3.out⟩
theorem shift_facts (d : Int) : roomP (F + d) (S + d) C D U W B L (t + d) = roomP F S C D U W B L t ∧ (∀ cost, waitP (F + d) (S + d) C D U W B L (t + d) cost = waitP F S C D U W B L t cost) ∧
    boundP (F + d) (S + d) D U W L (t + d) = boundP F S D U W L t ∧ idleP (F + d) (S + d) W (t + d) = idleP F S W t ∧ (∀ x, max (F + d) (t + d) + x = max F t + x + d) := by
  have e1 : max (F + d) (t + d) = max F t + d := by omega
  have e2 : (t + d < S + d + W) ↔ (t < S + W) := by omega
  refine ⟨?_, ?_, ?_, ?_, fun x => by omega⟩
  · unfold roomP baseP
    rw [e1, show t + d + B * U - (max F t + d) = t + B * U - max F t by omega]
    by_cases h : t < S + W
    · rw [if_pos h, if_pos (e2.2 h)]
    · rw [if_neg h, if_neg (fun g => h (e2.1 g))]
  · intro cost
    unfold waitP
    have e3 : max (t + d) (F + d - (B - cost) * U) = max t (F - (B - cost) * U) + d := by omega
    rw [e3]
    generalize max t (F - (B - cost) * U) = m
    by_cases h : m < S + W ∧ restP C D L < cost
    · rw [if_pos h, if_pos ⟨by omega, h.2⟩]; omega
    · rw [if_neg h, if_neg (fun g => h ⟨by omega, g.2⟩)]; omega
  · unfold boundP
    rw [show F + d - (t + d - W) = F - (t - W) by omega]
    by_cases h : t < S + W
    · rw [if_pos h, if_pos (e2.2 h)]
    · rw [if_neg h, if_neg (fun g => h (e2.1 g))]
  · unfold idleP
    have e4 : (F + d ≤ t + d - W) ↔ (F ≤ t - W) := by omega
    simp only [e2, e4]
end
end Go.Proofs.Ytfegoehiopkcnaa
