/- The contracts of layer 9 (cell): New, Of, Wait, Take, and a plan's rule. -/
import Derived.Test.YtfegoehiopkcnaaCell
import Derived.StillTailTactics
import Derived.Laws.CopyOwn
import Derived.Test.YtfegoehiopkcnaaBits
namespace Go.Proofs.Ytfegoehiopkcnaa
set_option linter.unusedSimpArgs false
set_option linter.unusedVariables false
set_option maxRecDepth 100000
open Go.ChangeShapes Go.WideShapes Go.ChangeAt Go.RowKit
open Ar (inR)

theorem two_allocs (w : World) (A B : Array Value) (tA tB : TypeId) : ∃ w2, (w.alloc (.cells A tA)).alloc (.cells B tB) = w2 ∧ w2.heap[w.heap.size]? = some (.cells A tA (0, 0)) ∧ w2.heap[w.heap.size + 1]? = some (.cells B tB (0, 0)) ∧ Below w.heap.size w w2 := by
  have h0 := heap_alloc_new w (.cells A tA)
  have b1 : Below w.heap.size w (w.alloc (.cells A tA)) := (Below.refl _ _).alloc (Nat.le_refl _) _
  have hs : (w.alloc (.cells A tA)).heap.size = w.heap.size + 1 := by simp
  generalize w.alloc (.cells A tA) = w1 at *
  have h1 := heap_alloc_new w1 (.cells B tB)
  have b2 : Below w1.heap.size w1 (w1.alloc (.cells B tB)) := (Below.refl _ _).alloc (Nat.le_refl _) _
  have hlt : w.heap.size < w1.heap.size := by omega
  rw [← b2.block _ hlt] at h0
  rw [hs] at h1
  exact ⟨_, rfl, h0, h1, below_from b1 b2⟩
theorem new_any (now carry : Int) (w : World) :
    Calls Try.prog 15 #[.int .i64 now, .int .i64 carry] w fun e w' => e = .returned (cv now now carry 0) ∧ Below w.heap.size w w' := by
  go_enter Try.func15, Try.ntmps15
  go_wp2
  (try simp only [Exit.inBlock, Exit.then])
  refine bodyPost_ret (results_cell_row rfl _ _ w.heap.size _ _ (0, 0) _ rfl (heap_alloc_new w _) Try.underlying36 rfl (by kernel_rfl)) rfl ?_
  exact ⟨rfl, (Below.refl _ _).alloc (Nat.le_refl _) _⟩
/-- how long it is till there is room for a cost. -/
def waitZ (F S C D U W B L now cost : Int) : Int :=
  (if max now (F - (B - cost) * U) < clamp (S + W) ∧ restZ C D L < cost then clamp (S + W) else max now (F - (B - cost) * U)) - now
set_option maxHeartbeats 1000000 in
theorem wait_any (F S C D U W B L now cost : Int) (hS : inR S) (hC : inR C) (hD : inR D) (hW : inR W) (hL : inR L) (hnow : inR now)
    (hn : inR (-clamp (C + D))) (h1 : inR (B - cost)) (h2 : inR ((B - cost) * U)) (h3 : inR (F - (B - cost) * U)) (h4 : inR (waitZ F S C D U W B L now cost)) (w : World) :
    Calls Try.prog 19 #[cv F S C D, pv U W B L, .int .i64 now, .int .i64 cost] w fun e w' => e = .returned (.int .i64 (waitZ F S C D U W B L now cost)) ∧ Below w.heap.size w w' := by
  obtain ⟨k, hk⟩ : ∃ z, z = B - cost := ⟨_, rfl⟩
  have e0 : IntKind.i64.wrap (B - cost) = k := by rw [IntKind.wrap_i64]; unfold inR at h1; omega
  rw [← hk] at h2 h3
  obtain ⟨p, hp⟩ : ∃ z, z = k * U := ⟨_, rfl⟩
  have e1 : IntKind.i64.wrap (k * U) = p := by rw [← hp] at h2; rw [IntKind.wrap_i64, ← hp]; unfold inR at h2; omega
  rw [← hp] at h3
  obtain ⟨v, hv⟩ : ∃ z, z = F - p := ⟨_, rfl⟩
  have e2 : IntKind.i64.wrap (F - p) = v := by rw [IntKind.wrap_i64]; unfold inR at h3; omega
  obtain ⟨rd, hrd⟩ : ∃ z, z = max now v := ⟨_, rfl⟩
  have c4 := fun w => young_any F S C D U W B L rd hS hW w
  obtain ⟨gr, hgr⟩ : ∃ z, z = clamp (S + W) := ⟨_, rfl⟩
  have c3 := fun w => grown_any F S C D U W B L hS hW w
  rw [← hgr] at c4 c3
  have c5 := fun w => rest_any F S C D U W B L hC hD hL hn w
  obtain ⟨r, hr⟩ : ∃ z, z = restZ C D L := ⟨_, rfl⟩
  rw [← hr] at c5
  have e : waitZ F S C D U W B L now cost = (if rd < gr ∧ r < cost then gr else rd) - now := by
    unfold waitZ; rw [← hk, ← hp, ← hv, ← hrd, ← hgr, ← hr]
  rw [e] at h4 ⊢
  have m1 : now < v → v = rd := by rw [hrd]; intro h; rw [Int.max_def]; split <;> omega
  have m2 : v ≤ now → now = rd := by rw [hrd]; intro h; rw [Int.max_def]; split <;> omega
  have T : Hid ((decide (rd < gr) = true ∧ decide (r < cost) = true ∧ (if rd < gr ∧ r < cost then gr else rd) = gr) ∨ (decide (rd < gr) = true ∧ decide (r < cost) = false ∧ (if rd < gr ∧ r < cost then gr else rd) = rd) ∨ (decide (rd < gr) = false ∧ (if rd < gr ∧ r < cost then gr else rd) = rd)) := by
    by_cases a : rd < gr <;> by_cases b : r < cost <;> exact Lib.hid (by simp [a, b])
  have M1 := Lib.hid m1
  have M2 := Lib.hid m2
  have C3 := Lib.hid c3
  have C4 := Lib.hid c4
  have C5 := Lib.hid c5
  clear c3 c4 c5 e hk hp hv hrd hgr hr hS hC hD hW hL hnow hn h1 h2 h3 m1 m2
  rcases Int.lt_or_le now v with g | g
  all_goals
    first | (have q := M1.out g; subst q) | (have q := M2.out g; subst q)
    clear M1 M2
    rcases T.out with ⟨t1, t2, t3⟩ | ⟨t1, t2, t3⟩ | ⟨t1, t3⟩
    all_goals
      rw [t3] at h4 ⊢
      unfold inR at h4
      clear T t3
      go_enter Try.func19, Try.ntmps19
      go_upto_region 2 with (fail)
      obtain ⟨f0, f1, f2, f3, f4, f5, f6, f7, fb⟩ := boxes_at w F S C D U W B L
      unfold boxes at *
      generalize (w.alloc (.cells #[.int .i64 F, .int .i64 S, .int .i64 C, .int .i64 D] 36)).alloc (.cells #[.int .i64 U, .int .i64 W, .int .i64 B, .int .i64 L] 31) = w2 at *
      have FB := Lib.hid fb
      have Z := Lib.hid (Below.refl w2.heap.size w2)
      have F0 := Lib.hid f0
      have F1 := Lib.hid f1
      have F2 := Lib.hid f2
      have F3 := Lib.hid f3
      have F4 := Lib.hid f4
      have F5 := Lib.hid f5
      have F6 := Lib.hid f6
      have F7 := Lib.hid f7
      clear fb
      generalize w.heap.size = b0 at f0 f1 f2 f3 f4 f5 f6 f7 F0 F1 F2 F3 F4 F5 F6 F7 ⊢
      go_wp2_with (first
        | (go_at_call 29; ((with_reducible refine (Calls.heldC C4.out _ Z.out).mono ?_); rintro e w3 ⟨rfl, y⟩; have g0 := cell_kept y F0.out; have g1 := cell_kept y F1.out; have g2 := cell_kept y F2.out; have g3 := cell_kept y F3.out; have g4 := cell_kept y F4.out; have g5 := cell_kept y F5.out; have g6 := cell_kept y F6.out; have g7 := cell_kept y F7.out; have Y := Lib.hid y; clear y))
        | (go_at_call 30; ((with_reducible refine (Calls.heldC C5.out _ Y.out).mono ?_); rintro e w4 ⟨rfl, y⟩; have g0 := cell_kept y F0.out; have g1 := cell_kept y F1.out; have g2 := cell_kept y F2.out; have g3 := cell_kept y F3.out; have g4 := cell_kept y F4.out; have g5 := cell_kept y F5.out; have g6 := cell_kept y F6.out; have g7 := cell_kept y F7.out; have Y2 := Lib.hid y; clear y))
        | (go_at_call 33; ((with_reducible refine (Calls.heldC C3.out _ Y2.out).mono ?_); rintro e w5 ⟨rfl, y⟩; have Y3 := Lib.hid y; clear y)))
      go_ret
      first
        | exact ⟨ret_i (by first | rfl | omega), below_from FB.out Y3.out⟩
        | exact ⟨ret_i (by first | rfl | omega), below_from FB.out Y2.out⟩
        | exact ⟨ret_i (by first | rfl | omega), below_from FB.out Y.out⟩
/-- the pace of a rule. -/
def unitZ (W n : Int) : Int := if W < 0 ∨ n < 1 then 0 else if W % n = 0 then W / n else W / n + 1
set_option maxRecDepth 100000 in
set_option maxHeartbeats 4000000 in
theorem of_any (L W B s1 s2 s3 s4 s5 : Int) (sm : Bool) (hW : inR W) (h1 : inR (L + 1)) (h2 : inR (L + 1 - B)) (w : World) :
    Calls Try.prog 13 #[.agg #[.int .i64 L, .int .i64 W, .int .i64 B, .int .i64 s1, .int .i64 s2, .int .i64 s3, .int .i64 s4, .int .i64 s5, .bool sm]] w fun e w' => e = .returned (pv (unitZ W (L + 1 - B)) W B L) ∧ Below w.heap.size w w' := by
  have e1 : IntKind.i64.wrap (L + 1) = L + 1 := by rw [IntKind.wrap_i64]; unfold inR at h1; omega
  have e2 : IntKind.i64.wrap (L + 1 - B) = L + 1 - B := by rw [IntKind.wrap_i64]; unfold inR at h2; omega
  have c1 := fun w => ceil_any W (IntKind.i64.wrap (IntKind.i64.wrap (L + 1) - B)) hW (by rw [e1, e2]; exact h2) w
  rw [e1, e2] at c1
  change ∀ w, Calls Try.prog 25 #[.int .i64 W, .int .i64 (L + 1 - B)] w fun e w' => e = .returned (.int .i64 (unitZ W (L + 1 - B))) ∧ w = w' at c1
  obtain ⟨U, hU⟩ : ∃ z, z = unitZ W (L + 1 - B) := ⟨_, rfl⟩
  rw [← hU] at c1 ⊢
  have c2 := c1
  rw [← e2, ← e1] at c2
  have C1 := Lib.hid c1
  have C2 := Lib.hid c2
  clear c1 c2 hU
  go_enter Try.func13, Try.ntmps13
  go_wp2_with (fail)
  have h0 := heap_alloc_new w (.cells #[.int .i64 L, .int .i64 W, .int .i64 B, .int .i64 s1, .int .i64 s2, .int .i64 s3, .int .i64 s4, .int .i64 s5, .bool sm] 28)
  have b1 : Below w.heap.size w (w.alloc (.cells #[.int .i64 L, .int .i64 W, .int .i64 B, .int .i64 s1, .int .i64 s2, .int .i64 s3, .int .i64 s4, .int .i64 s5, .bool sm] 28)) := (Below.refl _ _).alloc (Nat.le_refl _) _
  have hs : (w.alloc (.cells #[.int .i64 L, .int .i64 W, .int .i64 B, .int .i64 s1, .int .i64 s2, .int .i64 s3, .int .i64 s4, .int .i64 s5, .bool sm] 28)).heap.size = w.heap.size + 1 := by simp
  generalize w.alloc (.cells #[.int .i64 L, .int .i64 W, .int .i64 B, .int .i64 s1, .int .i64 s2, .int .i64 s3, .int .i64 s4, .int .i64 s5, .bool sm] 28) = w1 at *
  have h1 := heap_alloc_new w1 (.cells #[.int .i64 0, .int .i64 0, .int .i64 0, .int .i64 0] 31)
  have b2 : Below w1.heap.size w1 (w1.alloc (.cells #[.int .i64 0, .int .i64 0, .int .i64 0, .int .i64 0] 31)) := (Below.refl _ _).alloc (Nat.le_refl _) _
  have hlt : w.heap.size < w1.heap.size := by omega
  rw [← b2.block _ hlt] at h0
  have b3 := below_from b1 b2
  rw [hs] at h1
  generalize w1.alloc (.cells #[.int .i64 0, .int .i64 0, .int .i64 0, .int .i64 0] 31) = w2 at *
  have B3 := Lib.hid b3
  have H1 := Lib.hid h1
  have HL := Lib.hid (lt_of_block h1)
  have HS := Lib.hid hs
  clear b1 b2 b3 hs hlt
  obtain ⟨b0, hb0⟩ : ∃ z, z = w.heap.size := ⟨_, rfl⟩
  rw [← hb0] at h0 h1 H1 HL ⊢
  have HB := Lib.hid hb0
  clear hb0
  have d0 : w2.cell? ⟨b0, 0, none⟩ = some (.int .i64 L) := cell_at h0
  have d1 : w2.cell? ⟨b0, 1, none⟩ = some (.int .i64 W) := cell_at h0
  have d2 : w2.cell? ⟨b0, 2, none⟩ = some (.int .i64 B) := cell_at h0
  clear h0 h1
  go_still_tail 16, (by kernel_rfl)
  still_call ((C1.out _).mono fun _ _ h => ⟨h.1, h.2.symm⟩)
  repeat still_step
  refine wpStill_nil ?_
  change wpList _ _ _ _ _ w2.drew
  refine wpList_store_row rfl _ _ _ rfl (b0 + 1) _ rfl rfl _ _ H1.out (by kernel_rfl) rfl (by simp [Value.oneCell']) ?_
  go_wp2
  (try simp only [Exit.inBlock, Exit.then])
  refine bodyPost_ret (results_cell_row rfl _ _ (b0 + 1) _ _ (0, 0) _ rfl (setRow_heap w2.drew (b0 + 1) _ _ _ _ H1.out) Try.underlying31 rfl (by kernel_rfl)) rfl ?_
  exact ⟨rfl, below_setRow (below_draws B3.out 1) (by have := HB.out; omega) _⟩
/-- a plan's rule. -/
def planL (a : Int) : Int := a % 32 + 1
def planW (b : Int) : Int := b % 256 + 1
def planB (a c : Int) : Int := c % 32 % planL a + 1
abbrev rv (L W B : Int) : Value := .agg #[.int .i64 L, .int .i64 W, .int .i64 B, .int .i64 0, .int .i64 0, .int .i64 0, .int .i64 0, .int .i64 0, .bool false]
set_option maxHeartbeats 1000000 in
theorem rule_any (a b c : Int) (ha : inR a) (hb : inR b) (hc : inR c) (w : World) :
    Calls Try.prog 12 #[.agg #[.int .i64 a, .int .i64 b, .int .i64 c]] w fun e w' => e = .returned (rv (planL a) (planW b) (planB a c)) ∧ Below w.heap.size w w' := by
  obtain ⟨l0, hl0⟩ : ∃ z, z = a % 32 := ⟨_, rfl⟩
  obtain ⟨w0, hw0⟩ : ∃ z, z = b % 256 := ⟨_, rfl⟩
  obtain ⟨c0, hc0⟩ : ∃ z, z = c % 32 := ⟨_, rfl⟩
  have e1 : bits .and .i64 a 31 = l0 := by rw [hl0]; exact i64_mask5 a
  have e2 : bits .and .i64 b 255 = w0 := by rw [hw0]; exact i64_mask8 b
  have e3 : bits .and .i64 c 31 = c0 := by rw [hc0]; exact i64_mask5 c
  obtain ⟨l, hl⟩ : ∃ z, z = l0 + 1 := ⟨_, rfl⟩
  have r1 : 1 ≤ l ∧ l ≤ 32 := by omega
  have r2 : 0 ≤ w0 ∧ w0 < 256 := by omega
  have r3 : 0 ≤ c0 ∧ c0 < 32 := by omega
  have p1 : planL a = l := by unfold planL; omega
  have p2 : planW b = w0 + 1 := by unfold planW; omega
  have p3 : planB a c = c0 % l + 1 := by unfold planB; rw [p1, ← hc0]
  rw [p1, p2, p3]
  have e4 : c0.tmod l = c0 % l := Int.tmod_eq_emod_of_nonneg r3.1
  obtain ⟨m, hm⟩ : ∃ z, z = c0 % l := ⟨_, rfl⟩
  rw [← hm] at e4 ⊢
  have r4 : 0 ≤ m ∧ m < 32 := by
    have := Int.emod_nonneg c0 (by omega : l ≠ 0)
    have := Int.emod_lt_of_pos c0 (by omega : 0 < l)
    omega
  have e5 : IntKind.i64.wrap (w0 + 1) = w0 + 1 := by rw [IntKind.wrap_i64]; omega
  have e6 : IntKind.i64.wrap (m + 1) = m + 1 := by rw [IntKind.wrap_i64]; omega
  have e7 : l0 + 1 = l := hl.symm
  have e8 : (l == 0) = false := by rw [beq_eq_false_iff_ne]; omega
  have e9 : ¬ l = 0 := by omega
  have hlb : l0 < 9223372036854775807 ∧ 0 ≤ l0 := by omega
  clear hl hl0 hw0 hc0 hm p1 p2 p3 ha hb hc
  go_enter Try.func12, Try.ntmps12
  go_wp2
  obtain ⟨w2, hw2, h0, h1, b3⟩ := two_allocs w #[.int .i64 a, .int .i64 b, .int .i64 c] #[.int .i64 0, .int .i64 0, .int .i64 0, .int .i64 0, .int .i64 0, .int .i64 0, .int .i64 0, .int .i64 0, .bool false] 23 28
  rw [hw2]
  have B3 := Lib.hid b3
  have H1 := Lib.hid h1
  clear b3 hw2
  obtain ⟨b0, hb0⟩ : ∃ z, z = w.heap.size := ⟨_, rfl⟩
  rw [← hb0] at h0 h1 H1 ⊢
  have HB := Lib.hid hb0
  clear hb0
  have d1 : w2.cell? ⟨b0, 1, none⟩ = some (.int .i64 b) := cell_at h0
  have d2 : w2.cell? ⟨b0, 2, none⟩ = some (.int .i64 c) := cell_at h0
  clear h0 h1
  go_still_tail 12, (by kernel_rfl)
  change wpList _ _ _ _ _ w2.drew
  refine wpList_store_row rfl _ _ _ rfl (b0 + 1) _ rfl rfl _ _ H1.out (by kernel_rfl) rfl (by simp [Value.oneCell']) ?_
  go_wp2
  (try simp only [Exit.inBlock, Exit.then])
  refine bodyPost_ret (results_cell_row rfl _ _ (b0 + 1) _ _ (0, 0) _ rfl (setRow_heap w2.drew (b0 + 1) _ _ _ _ H1.out) Try.underlying28 rfl (by kernel_rfl)) rfl ?_
  exact ⟨rfl, below_setRow (below_draws B3.out 1) (by have := HB.out; omega) _⟩
end Go.Proofs.Ytfegoehiopkcnaa
