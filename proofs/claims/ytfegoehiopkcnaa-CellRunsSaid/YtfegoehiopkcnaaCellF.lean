/- The law's example of layer 9 (cell). -/
import Derived.Test.YtfegoehiopkcnaaCellT
namespace Go.Proofs.Ytfegoehiopkcnaa
set_option linter.unusedSimpArgs false
set_option linter.unusedVariables false
set_option maxRecDepth 100000
open Go.ChangeShapes Go.WideShapes Go.ChangeAt Go.RowKit
open Ar (inR)
/-- a pace in its block. -/
def PaceAt (w : World) (b : Nat) (U W B L : Int) : Prop := w.heap[b]? = some (.cells #[.int .i64 U, .int .i64 W, .int .i64 B, .int .i64 L] 31 (0, 0))
theorem PaceAt.lt {w : World} {b : Nat} {U W B L : Int} (h : PaceAt w b U W B L) : b < w.heap.size := lt_of_block h
theorem PaceAt.below {W0 w : World} {b : Nat} {U W B L : Int} (h : PaceAt W0 b U W B L) (hb : Below W0.heap.size W0 w) : PaceAt w b U W B L := by
  unfold PaceAt; rw [hb.block b h.lt]; exact h
theorem PaceAt.fr {W0 w : World} {F : Nat → Prop} {b : Nat} {U W B L : Int} (h : PaceAt W0 b U W B L) (hf : Fr F W0 w) (hb : ¬ F b) : PaceAt w b U W B L := by
  unfold PaceAt; rw [hf.block b h.lt hb]; exact h
set_option maxHeartbeats 1000000 in
theorem fit_any (w : World) : Calls Try.prog 11 #[] w fun e w' => e = .returned (.bool true) ∧ Below w.heap.size w w' := by
  have c1 : ∀ w, Calls Try.prog 13 #[rv 10 10 1] w fun e w' => e = .returned (pv 1 10 1 10) ∧ Below w.heap.size w w' := by
    intro w
    have := of_any 10 10 1 0 0 0 0 0 false (by decide) (by decide) (by decide) w
    rw [show unitZ 10 (10 + 1 - 1) = 1 by decide] at this
    exact this
  have c2 : ∀ w, Calls Try.prog 15 #[.int .i64 5, .int .i64 0] w fun e w' => e = .returned (cv 5 5 0 0) ∧ Below w.heap.size w w' := fun w => new_any 5 0 w
  have c3 : ∀ (w : World) (bc : Nat), CellAt w bc 5 5 0 0 → Calls Try.prog 21 #[.pointer (some ⟨bc, 0, none⟩), pv 1 10 1 10, .int .i64 5, .int .i64 1] w fun e w' => e = .returned (.bool true) ∧ CellAt w' bc 6 5 0 1 ∧ Fr (fun k => k = bc) w w' := by
    intro w bc hc
    have := take_yes 5 5 0 0 1 10 1 10 5 1 (by decide) (by decide) (by decide) (by decide) (by decide) (by decide) (by decide) (by decide) (by decide) (by decide) (by decide) (by decide) (by decide) (by decide) w bc hc
    rw [show clamp (max 5 5 + clamp (1 * 1)) = 6 by decide, show (0 : Int) + 1 = 1 by decide] at this
    exact this
  have c4 : ∀ (w : World) (bc : Nat), CellAt w bc 6 5 0 1 → Calls Try.prog 21 #[.pointer (some ⟨bc, 0, none⟩), pv 1 10 1 10, .int .i64 5, .int .i64 1] w fun e w' => e = .returned (.bool false) ∧ Below w.heap.size w w' := by
    intro w bc hc
    exact take_no 6 5 0 1 1 10 1 10 5 1 (by decide) (by decide) (by decide) (by decide) (by decide) (by decide) (by decide) (by decide) (by decide) (by decide) (by decide) (by decide) w bc hc
  have c5 : ∀ w, Calls Try.prog 19 #[cv 6 5 0 1, pv 1 10 1 10, .int .i64 5, .int .i64 1] w fun e w' => e = .returned (.int .i64 1) ∧ Below w.heap.size w w' := by
    intro w
    have := wait_any 6 5 0 1 1 10 1 10 5 1 (by decide) (by decide) (by decide) (by decide) (by decide) (by decide) (by decide) (by decide) (by decide) (by decide) (by decide) w
    rw [show waitZ 6 5 0 1 1 10 1 10 5 1 = 1 by decide] at this
    exact this
  have C1 := Lib.hid c1
  have C2 := Lib.hid c2
  have C3 := Lib.hid c3
  have C4 := Lib.hid c4
  have C5 := Lib.hid c5
  clear c1 c2 c3 c4 c5
  go_enter Try.func11, Try.ntmps11
  go_upto_region 3 with (first
    | (go_at_call 13; ((with_reducible refine (C1.out _).mono ?_); rintro e w1 ⟨rfl, b1⟩; have B1 := Lib.hid b1; clear b1))
    | (go_at_call 15; ((with_reducible refine (C2.out _).mono ?_); rintro e w2 ⟨rfl, b2⟩; have B2 := Lib.hid b2; clear b2)))
  have hp0 : PaceAt (w1.alloc (.cells #[.int .i64 1, .int .i64 10, .int .i64 1, .int .i64 10] 31)) w1.heap.size 1 10 1 10 := heap_alloc_new w1 _
  have b1 : Below w.heap.size w (w1.alloc (.cells #[.int .i64 1, .int .i64 10, .int .i64 1, .int .i64 10] 31)) := B1.out.alloc B1.out.size _
  have hp1 := hp0.below B2.out
  have b2 := below_from b1 B2.out
  have hb3 : Below w2.heap.size w2 (w2.alloc (.cells #[.int .i64 5, .int .i64 5, .int .i64 0, .int .i64 0] 36)) := (Below.refl _ _).alloc (Nat.le_refl _) _
  have hp := hp1.below hb3
  have hc : CellAt (w2.alloc (.cells #[.int .i64 5, .int .i64 5, .int .i64 0, .int .i64 0] 36)) w2.heap.size 5 5 0 0 := heap_alloc_new w2 _
  have b3 := below_from b2 hb3
  have hne : w1.heap.size ≠ w2.heap.size := Nat.ne_of_lt hp1.lt
  have hlt : w.heap.size ≤ w2.heap.size := b2.size
  generalize w2.alloc (.cells #[.int .i64 5, .int .i64 5, .int .i64 0, .int .i64 0] 36) = wx at hp hc b3 ⊢
  clear hp0 b1 hp1 b2 hb3 B1 B2
  generalize w1.heap.size = pb at hp hne ⊢
  generalize w2.heap.size = bc at hc hne hlt ⊢
  have p0 : wx.cell? ⟨pb, 0, none⟩ = some (.int .i64 1) := cell_at hp
  have p1 : wx.cell? ⟨pb, 1, none⟩ = some (.int .i64 10) := cell_at hp
  have p2 : wx.cell? ⟨pb, 2, none⟩ = some (.int .i64 1) := cell_at hp
  have p3 : wx.cell? ⟨pb, 3, none⟩ = some (.int .i64 10) := cell_at hp
  have HP := Lib.hid hp
  have HC := Lib.hid hc
  have BX := Lib.hid b3
  have NE := Lib.hid hne
  have HL := Lib.hid hlt
  clear hp hc b3 hne hlt
  go_wp2_with (first
    | (go_at_call 21; first
        | ((with_reducible refine (C3.out _ _ HC.out).mono ?_); rintro e w3 ⟨rfl, hc3, f3⟩; have hp3 := HP.out.fr f3 NE.out; have p0 : w3.cell? ⟨pb, 0, none⟩ = some (.int .i64 1) := cell_at hp3; have p1 : w3.cell? ⟨pb, 1, none⟩ = some (.int .i64 10) := cell_at hp3; have p2 : w3.cell? ⟨pb, 2, none⟩ = some (.int .i64 1) := cell_at hp3; have p3 : w3.cell? ⟨pb, 3, none⟩ = some (.int .i64 10) := cell_at hp3; have HC3 := Lib.hid hc3; have HP3 := Lib.hid hp3; have F3 := Lib.hid f3; clear hp3 hc3 f3)
        | ((with_reducible refine (C4.out _ _ HC3.out).mono ?_); rintro e w4 ⟨rfl, b4⟩; have hp4 := HP3.out.below b4; have hc4 := HC3.out.below b4; have p0 : w4.cell? ⟨pb, 0, none⟩ = some (.int .i64 1) := cell_at hp4; have p1 : w4.cell? ⟨pb, 1, none⟩ = some (.int .i64 10) := cell_at hp4; have p2 : w4.cell? ⟨pb, 2, none⟩ = some (.int .i64 1) := cell_at hp4; have p3 : w4.cell? ⟨pb, 3, none⟩ = some (.int .i64 10) := cell_at hp4; have q0 : w4.cell? ⟨bc, 0, none⟩ = some (.int .i64 6) := cell_at hc4; have q1 : w4.cell? ⟨bc, 1, none⟩ = some (.int .i64 5) := cell_at hc4; have q2 : w4.cell? ⟨bc, 2, none⟩ = some (.int .i64 0) := cell_at hc4; have q3 : w4.cell? ⟨bc, 3, none⟩ = some (.int .i64 1) := cell_at hc4; have B4 := Lib.hid b4; clear hp4 hc4 b4))
    | (go_at_call 19; ((with_reducible refine (C5.out _).mono ?_); rintro e w5 ⟨rfl, b5⟩; have B5 := Lib.hid b5; clear b5)))
  go_ret
  refine ⟨rfl, ?_⟩
  have f := F3.out.below (B := w.heap.size) BX.out.size (fun k hk => by subst hk; exact HL.out)
  exact (((BX.out.trans f).trans (B4.out.mono (Nat.le_trans BX.out.size F3.out.size))).trans (B5.out.mono (Nat.le_trans (Nat.le_trans BX.out.size F3.out.size) B4.out.size)))
end Go.Proofs.Ytfegoehiopkcnaa
