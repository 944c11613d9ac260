/- The contracts of layer 9 (cell): the pure functions. -/
import Derived.Test.YtojbhmchpglmgaaArMul
import Derived.Test.YtojbhmchpglmgaaArCeil
import Derived.Test.YtojbhmchpglmgaaObj
import Derived.Test.YtojbhmchpglmgaaLift
import Derived.Deep.RegionHeld3
import Derived.BigQuiet
import Derived.Deep.Cut
import Derived.Below
import Derived.Deep.LoopGhost
import Derived.Deep.QuietTactic
import Derived.Outline
namespace Go.Proofs.Ytojbhmchpglmgaa
set_option linter.unusedSimpArgs false
set_option linter.unusedVariables false
open Go.ChangeShapes Go.WideShapes Go.ChangeAt Go.RowKit
open Ar (inR)

/-- a pace, a cell, as values. -/
abbrev pv (U W B L : Int) : Value := .agg #[.int .i64 U, .int .i64 W, .int .i64 B, .int .i64 L]
abbrev cv (F S C D : Int) : Value := .agg #[.int .i64 F, .int .i64 S, .int .i64 C, .int .i64 D]
theorem max_if (a b : Int) : (if a < b then b else a) = max a b := by rw [Int.max_def]; split <;> split <;> omega
theorem min_if (a b : Int) : (if b < a then b else a) = min a b := by rw [Int.min_def]; split <;> split <;> omega
theorem clamp_in {n : Int} (h : inR n) : clamp n = n := by unfold inR at h; unfold clamp; rw [if_neg (by omega), if_neg (by omega)]
theorem cell_kept {W w : World} (hb : Below W.heap.size W w) {a : Addr} {v : Value} (h : W.cell? a = some v) : w.cell? a = some v := (hb.cell (lt_of_cell h)).trans h
theorem below_from {W0 w w' : World} (h : Below W0.heap.size W0 w) (b : Below w.heap.size w w') : Below W0.heap.size W0 w' := h.trans (b.mono h.size)

theorem Calls.heldC {W2 : World} {f : Nat} {args : Array Value} {v : Value} (h : ∀ w, Calls Try.prog f args w fun e w' => e = .returned v ∧ Below w.heap.size w w') (w : World) (hb : Below W2.heap.size W2 w) :
    Calls Try.prog f args w fun e w' => e = .returned v ∧ Below W2.heap.size W2 w' := by
  refine (h w).mono ?_
  rintro e w' ⟨rfl, b⟩
  exact ⟨rfl, below_from hb b⟩
/-- two boxes: a cell and a pace. -/
def boxes (w : World) (F S C D U W B L : Int) : World := (w.alloc (.cells #[.int .i64 F, .int .i64 S, .int .i64 C, .int .i64 D] 38)).alloc (.cells #[.int .i64 U, .int .i64 W, .int .i64 B, .int .i64 L] 52)
theorem boxes_at (w : World) (F S C D U W B L : Int) : (boxes w F S C D U W B L).cell? ⟨w.heap.size, 0, none⟩ = some (.int .i64 F) ∧ (boxes w F S C D U W B L).cell? ⟨w.heap.size, 1, none⟩ = some (.int .i64 S) ∧
    (boxes w F S C D U W B L).cell? ⟨w.heap.size, 2, none⟩ = some (.int .i64 C) ∧ (boxes w F S C D U W B L).cell? ⟨w.heap.size, 3, none⟩ = some (.int .i64 D) ∧
    (boxes w F S C D U W B L).cell? ⟨w.heap.size + 1, 0, none⟩ = some (.int .i64 U) ∧ (boxes w F S C D U W B L).cell? ⟨w.heap.size + 1, 1, none⟩ = some (.int .i64 W) ∧
    (boxes w F S C D U W B L).cell? ⟨w.heap.size + 1, 2, none⟩ = some (.int .i64 B) ∧ (boxes w F S C D U W B L).cell? ⟨w.heap.size + 1, 3, none⟩ = some (.int .i64 L) ∧ Below w.heap.size w (boxes w F S C D U W B L) := by
  unfold boxes
  have h0 := heap_alloc_new w (.cells #[.int .i64 F, .int .i64 S, .int .i64 C, .int .i64 D] 38)
  have h1 := heap_alloc_new (w.alloc (.cells #[.int .i64 F, .int .i64 S, .int .i64 C, .int .i64 D] 38)) (.cells #[.int .i64 U, .int .i64 W, .int .i64 B, .int .i64 L] 52)
  generalize hw1 : w.alloc (.cells #[.int .i64 F, .int .i64 S, .int .i64 C, .int .i64 D] 38) = w1 at h0 h1
  have hs : w1.heap.size = w.heap.size + 1 := by rw [← hw1]; simp
  have b1 : Below w.heap.size w w1 := by rw [← hw1]; exact (Below.refl _ _).alloc (Nat.le_refl _) _
  have b2 : Below w1.heap.size w1 (w1.alloc (.cells #[.int .i64 U, .int .i64 W, .int .i64 B, .int .i64 L] 52)) := (Below.refl _ _).alloc (Nat.le_refl _) _
  rw [hs] at h1
  have hlt : w.heap.size < w1.heap.size := by omega
  rw [← b2.block _ hlt] at h0
  exact ⟨cell_at h0, cell_at h0, cell_at h0, cell_at h0, cell_at h1, cell_at h1, cell_at h1, cell_at h1, below_from b1 b2⟩

theorem grown_any (F S C D U W B L : Int) (hS : inR S) (hW : inR W) (w : World) :
    Calls Try.prog 48 #[cv F S C D, pv U W B L] w fun e w' => e = .returned (.int .i64 (clamp (S + W))) ∧ Below w.heap.size w w' := by
  have C1 := Lib.hid (fun w => sum_any S W hS hW w)
  unfold inR at hS hW
  go_enter Try.func48, Try.ntmps48
  go_wp2_with (go_at_call 51; ((with_reducible refine (C1.out _).mono ?_); rintro e w' ⟨rfl, rfl⟩))
  go_ret
  exact ⟨rfl, ((Below.refl _ _).alloc (Nat.le_refl _) _).alloc (by simp) _⟩
theorem young_any (F S C D U W B L t : Int) (hS : inR S) (hW : inR W) (w : World) :
    Calls Try.prog 42 #[cv F S C D, pv U W B L, .int .i64 t] w fun e w' => e = .returned (.bool (decide (t < clamp (S + W)))) ∧ Below w.heap.size w w' := by
  have C1 := Lib.hid (fun w => grown_any F S C D U W B L hS hW w)
  go_enter Try.func42, Try.ntmps42
  go_wp2_with (go_at_call 48; ((with_reducible refine (C1.out _).mono ?_); rintro e w1 ⟨rfl, b1⟩; have B1 := Lib.hid b1; clear b1))
  go_ret
  exact ⟨rfl, below_from (((Below.refl _ _).alloc (Nat.le_refl _) _).alloc (by simp) _) B1.out⟩
/-- how much a young one may be allowed at most. -/
def restZ (C D L : Int) : Int := max 0 (clamp (L + -clamp (C + D)))
theorem clamp_inR (n : Int) : inR (clamp n) := by
  unfold inR clamp; split
  · omega
  · split <;> omega
/-- how much it may be allowed now. -/
def roomZ (F S C D U W B L now : Int) : Int :=
  if now < clamp (S + W) then min (max 0 (min ((clamp (now + clamp (B * U)) - max F now).tdiv U) B)) (restZ C D L) else max 0 (min ((clamp (now + clamp (B * U)) - max F now).tdiv U) B)
end Go.Proofs.Ytojbhmchpglmgaa
