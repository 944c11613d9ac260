/- The contracts of layer 11 (clock). -/
import Derived.Test.YtofcindehoghjaaArSum
import Derived.Test.YtofcindehoghjaaObj
import Derived.Outline
import Derived.Deep.QuietTactic
import Derived.BigQuiet
namespace Go.Proofs.Ytofcindehoghjaa
open Go.ChangeShapes Go.WideShapes Go.ChangeAt Go.RowKit
open Ar (inR)

/-- a clock's cells. -/
def clk (now first : Int) (rd rs : Bool) : Array Value := #[.int .i64 now, .int .i64 first, .bool rd, .bool rs]

theorem clk_eq {a b c d : Int} {r s : Bool} (h : a = b) (g : c = d) : clk a c r s = clk b d r s := by rw [h, g]
theorem clamp_in (n : Int) : inR (clamp n) := by unfold inR clamp; split <;> (try split) <;> omega
theorem now_any (b : Nat) (now first : Int) (rd rs : Bool) (w : World) (h : w.heap[b]? = some (.cells (clk now first rd rs) 26 (0, 0))) :
    Calls Try.prog 9 #[.pointer (some ⟨b, 0, none⟩)] w fun e w' => e = .returned (.int .i64 now) ∧ w = w' := by
  have c0 : w.cell? ⟨b, 0, none⟩ = some (.int .i64 now) := cell_at h
  clear h
  go_enter Try.func9, Try.ntmps9
  go_wp2
  go_ret
  exact ⟨rfl, rfl⟩
theorem over_any (b : Nat) (now first : Int) (rd rs : Bool) (w : World) (h : w.heap[b]? = some (.cells (clk now first rd rs) 26 (0, 0))) :
    Calls Try.prog 12 #[.pointer (some ⟨b, 0, none⟩)] w fun e w' => e = .returned (.bool (decide (4611686018427387904 ≤ now))) ∧ w = w' := by
  have c0 : w.cell? ⟨b, 0, none⟩ = some (.int .i64 now) := cell_at h
  clear h
  go_enter Try.func12, Try.ntmps12
  go_wp2
  go_ret
  exact ⟨rfl, rfl⟩
theorem restart_any (b : Nat) (now first : Int) (rd rs : Bool) (w : World) (h : w.heap[b]? = some (.cells (clk now first rd rs) 26 (0, 0))) :
    Calls Try.prog 8 #[.pointer (some ⟨b, 0, none⟩)] w fun e w' => e = .returned (.tuple #[]) ∧ setObj w b (.cells (clk 0 0 false true) 26 (0, 0)) = w' := by
  have c0 : w.cell? ⟨b, 0, none⟩ = some (.int .i64 now) := cell_at h
  have c1 : w.cell? ⟨b, 1, none⟩ = some (.int .i64 first) := cell_at h
  have c2 : w.cell? ⟨b, 2, none⟩ = some (.bool rd) := cell_at h
  have c3 : w.cell? ⟨b, 3, none⟩ = some (.bool rs) := cell_at h
  have f0 : w.frozen? ⟨b, 0, none⟩ = false := free_at h
  have f1 : w.frozen? ⟨b, 1, none⟩ = false := free_at h
  have f2 : w.frozen? ⟨b, 2, none⟩ = false := free_at h
  have f3 : w.frozen? ⟨b, 3, none⟩ = false := free_at h
  have H := Lib.hid h
  clear h
  go_enter Try.func8, Try.ntmps8
  go_wp2
  go_end0
  have h := H.out
  exact ⟨rfl, by rw [setCell_obj h, setCell_in (lt_of_block h), setCell_in (lt_of_block h), setCell_in (lt_of_block h)]; rfl⟩
theorem read_any (b : Nat) (now first r : Int) (rd rs : Bool) (hn : inR now) (hr : inR r) (w : World) (h : w.heap[b]? = some (.cells (clk now first rd rs) 26 (0, 0))) :
    Calls Try.prog 11 #[.pointer (some ⟨b, 0, none⟩), .int .i64 r] w fun e w' => e = .returned (.int .i64 (max now r)) ∧ setObj w b (.cells (clk (max now r) (if rd then first else max now r) true rs) 26 (0, 0)) = w' := by
  have c0 : w.cell? ⟨b, 0, none⟩ = some (.int .i64 now) := cell_at h
  have c1 : w.cell? ⟨b, 1, none⟩ = some (.int .i64 first) := cell_at h
  have c2 : w.cell? ⟨b, 2, none⟩ = some (.bool rd) := cell_at h
  have c3 : w.cell? ⟨b, 3, none⟩ = some (.bool rs) := cell_at h
  have f0 : w.frozen? ⟨b, 0, none⟩ = false := free_at h
  have f1 : w.frozen? ⟨b, 1, none⟩ = false := free_at h
  have f2 : w.frozen? ⟨b, 2, none⟩ = false := free_at h
  have f3 : w.frozen? ⟨b, 3, none⟩ = false := free_at h
  have H := Lib.hid h
  clear h
  unfold inR at hn hr
  cases rd
  all_goals
    go_enter Try.func11, Try.ntmps11
    go_wp2
  all_goals
    go_ret
    have h := H.out
    refine ⟨ret_i (by omega), ?_⟩
    rw [setCell_obj h]
    try rw [setCell_in (lt_of_block h), setCell_in (lt_of_block h)]
    exact congrArg (fun c => setObj w b (.cells c 26 (0, 0))) (clk_eq (by omega) (by first | rfl | omega))
/-- what a clock is held. -/
def heldV (now first win : Int) (rs : Bool) : Int := if rs then max 0 (clamp (first + win) - now) else 0
theorem held_any (b : Nat) (now first win : Int) (rd rs : Bool) (hn : 0 ≤ now ∧ now ≤ 9223372036854775807) (hf : 0 ≤ first ∧ first ≤ 9223372036854775807) (hw : 0 ≤ win ∧ win ≤ 9223372036854775807) (w : World) (h : w.heap[b]? = some (.cells (clk now first rd rs) 26 (0, 0))) :
    Calls Try.prog 10 #[.pointer (some ⟨b, 0, none⟩), .int .i64 win] w fun e w' => e = .returned (.int .i64 (heldV now first win rs)) ∧ ∃ n, w' = w.drewN n := by
  have c0 : w.cell? ⟨b, 0, none⟩ = some (.int .i64 now) := cell_at h
  have c1 : w.cell? ⟨b, 1, none⟩ = some (.int .i64 first) := cell_at h
  have c3 : w.cell? ⟨b, 3, none⟩ = some (.bool rs) := cell_at h
  clear h
  cases rs
  · go_enter Try.func10, Try.ntmps10
    go_wp2
    go_ret
    exact ⟨rfl, 0, rfl⟩
  · have hc : inR (clamp (first + win)) := clamp_in _
    obtain ⟨s, hs⟩ : ∃ s, s = clamp (first + win) := ⟨_, rfl⟩
    have cs := fun w => sum_any first win ⟨by omega, hf.2⟩ ⟨by omega, hw.2⟩ w
    rw [← hs] at cs hc
    have e : heldV now first win true = max 0 (s - now) := by unfold heldV; rw [hs]; rfl
    rw [e]
    have CS := Lib.hid cs
    have hlo : 0 ≤ s := by rw [hs]; unfold clamp; split <;> (try split) <;> omega
    unfold inR at hc
    clear cs hs e
    go_enter Try.func10, Try.ntmps10
    go_wp2
    go_quiet ((go_at_call 13; exact Calls.quiet_of_same ((CS.out _).mono fun _ _ h => ⟨h.1, h.2.symm⟩)))
    go_wp2
    all_goals go_ret
    all_goals exact ⟨ret_i (by first | omega | (split <;> omega)), nq, rfl⟩

/-- A clock at a block, whose times are no less than 0. -/
structure Clk (w : World) (b : Nat) (now first : Int) (rd rs : Bool) : Prop where
  blk : w.heap[b]? = some (.cells (clk now first rd rs) 26 (0, 0))
  now0 : 0 ≤ now
  nowM : now ≤ 9223372036854775807
  fst0 : 0 ≤ first
  fstM : first ≤ 9223372036854775807
theorem Clk.new (w : World) : Clk (w.alloc (.cells (clk 0 0 false false) 26)) w.heap.size 0 0 false false := ⟨heap_alloc_new w _, by omega, by omega, by omega, by omega⟩
theorem Clk.drewN {w : World} {b : Nat} {now first : Int} {rd rs : Bool} (h : Clk w b now first rd rs) (n : Nat) : Clk (w.drewN n) b now first rd rs := ⟨h.blk, h.now0, h.nowM, h.fst0, h.fstM⟩
theorem now_c {b : Nat} {now first : Int} {rd rs : Bool} {w : World} (h : Clk w b now first rd rs) :
    Calls Try.prog 9 #[.pointer (some ⟨b, 0, none⟩)] w fun e w' => e = .returned (.int .i64 now) ∧ w = w' := now_any b now first rd rs w h.blk
theorem over_c {b : Nat} {now first : Int} {rd rs : Bool} {w : World} (h : Clk w b now first rd rs) :
    Calls Try.prog 12 #[.pointer (some ⟨b, 0, none⟩)] w fun e w' => e = .returned (.bool (decide (4611686018427387904 ≤ now))) ∧ w = w' := over_any b now first rd rs w h.blk
theorem restart_c {b : Nat} {now first : Int} {rd rs : Bool} {w : World} (h : Clk w b now first rd rs) :
    Calls Try.prog 8 #[.pointer (some ⟨b, 0, none⟩)] w fun e w' => e = .returned (.tuple #[]) ∧ Clk w' b 0 0 false true ∧ Fr (fun k => k = b) w w' :=
  (restart_any b now first rd rs w h.blk).mono fun e w' ⟨he, hw⟩ => ⟨he, by rw [← hw]; exact ⟨setObj_at (lt_of_block h.blk) _, by omega, by omega, by omega, by omega⟩, by rw [← hw]; exact (Fr.refl (fun k => k = b) w).setObj rfl _⟩
theorem read_c {b : Nat} {now first : Int} {rd rs : Bool} {w : World} (h : Clk w b now first rd rs) (r : Int) (hr : inR r) :
    Calls Try.prog 11 #[.pointer (some ⟨b, 0, none⟩), .int .i64 r] w fun e w' => e = .returned (.int .i64 (max now r)) ∧ Clk w' b (max now r) (if rd then first else max now r) true rs ∧ Fr (fun k => k = b) w w' :=
  (read_any b now first r rd rs ⟨by have := h.now0; omega, h.nowM⟩ hr w h.blk).mono fun e w' ⟨he, hw⟩ => ⟨he, by
    rw [← hw]
    have h1 := h.now0
    have h2 := h.nowM
    have h3 := h.fst0
    have h4 := h.fstM
    unfold inR at hr
    exact ⟨setObj_at (lt_of_block h.blk) _, by omega, by omega, by split <;> omega, by split <;> omega⟩, by rw [← hw]; exact (Fr.refl (fun k => k = b) w).setObj rfl _⟩
theorem held_c {b : Nat} {now first : Int} {rd rs : Bool} {w : World} (h : Clk w b now first rd rs) (win : Int) (hw : 0 ≤ win ∧ win ≤ 9223372036854775807) :
    Calls Try.prog 10 #[.pointer (some ⟨b, 0, none⟩), .int .i64 win] w fun e w' => e = .returned (.int .i64 (heldV now first win rs)) ∧ ∃ n, w' = w.drewN n :=
  held_any b now first win rd rs ⟨h.now0, h.nowM⟩ ⟨h.fst0, h.fstM⟩ hw w h.blk
end Go.Proofs.Ytofcindehoghjaa
