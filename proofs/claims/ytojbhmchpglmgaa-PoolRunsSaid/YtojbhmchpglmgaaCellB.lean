/- The contracts of layer 9 (cell): New, Of, Wait, Take, and a plan's rule. -/
import Derived.Test.YtojbhmchpglmgaaCell
import Derived.StillTailTactics
import Derived.Laws.CopyOwn
import Derived.Test.YtojbhmchpglmgaaBits
namespace Go.Proofs.Ytojbhmchpglmgaa
set_option linter.unusedSimpArgs false
set_option linter.unusedVariables false
open Go.ChangeShapes Go.WideShapes Go.ChangeAt Go.RowKit
open Ar (inR)

theorem two_allocs (w : World) (A B : Array Value) (tA tB : TypeId) : ∃ w2, (w.alloc (.cells A tA)).alloc (.cells B tB) = w2 ∧ w2.heap[w.heap.size]? = some (.cells A tA (0, 0)) ∧ w2.heap[w.heap.size + 1]? = some (.cells B tB (0, 0)) ∧ Below w.heap.size w w2 := by
  have h0 := heap_alloc_new w (.cells A tA)
  have b1 : Below w.heap.size w (w.alloc (.cells A tA)) := (Below.refl _ _).alloc (Nat.le_refl _) _
  have hs : (w.alloc (.cells A tA)).heap.size = w.heap.size + 1 := by simp
  generalize w.alloc (.cells A tA) = w1 at *
  have h1 := heap_alloc_new w1 (.cells B tB)
  have b2 : Below w1.heap.size w1 (w1.alloc (.cells B tB)) := (Below.refl _ _).alloc (Nat.le_refl _) _
  have hlt : w.heap.size < w1.heap.size := by omega
  rw [← b2.block _ hlt] at h0
  rw [hs] at h1
  exact ⟨_, rfl, h0, h1, below_from b1 b2⟩
theorem new_any (now carry : Int) (w : World) :
    Calls Try.prog 11 #[.int .i64 now, .int .i64 carry] w fun e w' => e = .returned (cv now now carry 0) ∧ Below w.heap.size w w' := by
  go_enter Try.func11, Try.ntmps11
  go_wp2
  (try simp only [Exit.inBlock, Exit.then])
  refine bodyPost_ret (results_cell_row rfl _ _ w.heap.size _ _ (0, 0) _ rfl (heap_alloc_new w _) Try.underlying38 rfl (by kernel_rfl)) rfl ?_
  exact ⟨rfl, (Below.refl _ _).alloc (Nat.le_refl _) _⟩
/-- how long it is till there is room for a cost. -/
def waitZ (F S C D U W B L now cost : Int) : Int :=
  (if max now (F - (B - cost) * U) < clamp (S + W) ∧ restZ C D L < cost then clamp (S + W) else max now (F - (B - cost) * U)) - now
/-- the pace of a rule. -/
def unitZ (W n : Int) : Int := if W < 0 ∨ n < 1 then 0 else if W % n = 0 then W / n else W / n + 1
set_option maxRecDepth 100000 in
set_option maxHeartbeats 4000000 in
theorem of_any (L W B s1 s2 s3 s4 s5 : Int) (sm : Bool) (hW : inR W) (h1 : inR (L + 1)) (h2 : inR (L + 1 - B)) (w : World) :
    Calls Try.prog 17 #[.agg #[.int .i64 L, .int .i64 W, .int .i64 B, .int .i64 s1, .int .i64 s2, .int .i64 s3, .int .i64 s4, .int .i64 s5, .bool sm]] w fun e w' => e = .returned (pv (unitZ W (L + 1 - B)) W B L) ∧ Below w.heap.size w w' := by
  have e1 : IntKind.i64.wrap (L + 1) = L + 1 := by rw [IntKind.wrap_i64]; unfold inR at h1; omega
  have e2 : IntKind.i64.wrap (L + 1 - B) = L + 1 - B := by rw [IntKind.wrap_i64]; unfold inR at h2; omega
  have c1 := fun w => ceil_any W (IntKind.i64.wrap (IntKind.i64.wrap (L + 1) - B)) hW (by rw [e1, e2]; exact h2) w
  rw [e1, e2] at c1
  change ∀ w, Calls Try.prog 31 #[.int .i64 W, .int .i64 (L + 1 - B)] w fun e w' => e = .returned (.int .i64 (unitZ W (L + 1 - B))) ∧ w = w' at c1
  obtain ⟨U, hU⟩ : ∃ z, z = unitZ W (L + 1 - B) := ⟨_, rfl⟩
  rw [← hU] at c1 ⊢
  have c2 := c1
  rw [← e2, ← e1] at c2
  have C1 := Lib.hid c1
  have C2 := Lib.hid c2
  clear c1 c2 hU
  go_enter Try.func17, Try.ntmps17
  go_wp2_with (fail)
  have h0 := heap_alloc_new w (.cells #[.int .i64 L, .int .i64 W, .int .i64 B, .int .i64 s1, .int .i64 s2, .int .i64 s3, .int .i64 s4, .int .i64 s5, .bool sm] 55)
  have b1 : Below w.heap.size w (w.alloc (.cells #[.int .i64 L, .int .i64 W, .int .i64 B, .int .i64 s1, .int .i64 s2, .int .i64 s3, .int .i64 s4, .int .i64 s5, .bool sm] 55)) := (Below.refl _ _).alloc (Nat.le_refl _) _
  have hs : (w.alloc (.cells #[.int .i64 L, .int .i64 W, .int .i64 B, .int .i64 s1, .int .i64 s2, .int .i64 s3, .int .i64 s4, .int .i64 s5, .bool sm] 55)).heap.size = w.heap.size + 1 := by simp
  generalize w.alloc (.cells #[.int .i64 L, .int .i64 W, .int .i64 B, .int .i64 s1, .int .i64 s2, .int .i64 s3, .int .i64 s4, .int .i64 s5, .bool sm] 55) = w1 at *
  have h1 := heap_alloc_new w1 (.cells #[.int .i64 0, .int .i64 0, .int .i64 0, .int .i64 0] 52)
  have b2 : Below w1.heap.size w1 (w1.alloc (.cells #[.int .i64 0, .int .i64 0, .int .i64 0, .int .i64 0] 52)) := (Below.refl _ _).alloc (Nat.le_refl _) _
  have hlt : w.heap.size < w1.heap.size := by omega
  rw [← b2.block _ hlt] at h0
  have b3 := below_from b1 b2
  rw [hs] at h1
  generalize w1.alloc (.cells #[.int .i64 0, .int .i64 0, .int .i64 0, .int .i64 0] 52) = w2 at *
  have B3 := Lib.hid b3
  have H1 := Lib.hid h1
  have HL := Lib.hid (lt_of_block h1)
  have HS := Lib.hid hs
  clear b1 b2 b3 hs hlt
  obtain ⟨b0, hb0⟩ : ∃ z, z = w.heap.size := ⟨_, rfl⟩
  rw [← hb0] at h0 h1 H1 HL ⊢
  have HB := Lib.hid hb0
  clear hb0
  have d0 : w2.cell? ⟨b0, 0, none⟩ = some (.int .i64 L) := cell_at h0
  have d1 : w2.cell? ⟨b0, 1, none⟩ = some (.int .i64 W) := cell_at h0
  have d2 : w2.cell? ⟨b0, 2, none⟩ = some (.int .i64 B) := cell_at h0
  clear h0 h1
  go_still_tail 16, (by kernel_rfl)
  still_call ((C1.out _).mono fun _ _ h => ⟨h.1, h.2.symm⟩)
  repeat still_step
  refine wpStill_nil ?_
  change wpList _ _ _ _ _ w2.drew
  refine wpList_store_row rfl _ _ _ rfl (b0 + 1) _ rfl rfl _ _ H1.out (by kernel_rfl) rfl (by simp [Value.oneCell']) ?_
  go_wp2
  (try simp only [Exit.inBlock, Exit.then])
  refine bodyPost_ret (results_cell_row rfl _ _ (b0 + 1) _ _ (0, 0) _ rfl (setRow_heap w2.drew (b0 + 1) _ _ _ _ H1.out) Try.underlying52 rfl (by kernel_rfl)) rfl ?_
  exact ⟨rfl, below_setRow (below_draws B3.out 1) (by have := HB.out; omega) _⟩
/-- a plan's rule. -/
def planL (a : Int) : Int := a % 32 + 1
def planW (b : Int) : Int := b % 256 + 1
def planB (a c : Int) : Int := c % 32 % planL a + 1
abbrev rv (L W B : Int) : Value := .agg #[.int .i64 L, .int .i64 W, .int .i64 B, .int .i64 0, .int .i64 0, .int .i64 0, .int .i64 0, .int .i64 0, .bool false]
end Go.Proofs.Ytojbhmchpglmgaa
