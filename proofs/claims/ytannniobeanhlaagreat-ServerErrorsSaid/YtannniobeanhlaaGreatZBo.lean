import Derived.Test.YtannniobeanhlaaGreatByt
import Derived.Test.YtannniobeanhlaaGreatZKyMath
import Derived.Deep.RegionHeld3
import Derived.StillTailTactics
import Derived.BigQuiet
import Derived.Below
import Derived.Deep.LoopGhost
import Derived.Deep.QuietTactic
import Derived.Outline
import Derived.Deep.Cut
/- The contracts of layer 15 (outbuf). -/
namespace Go.Proofs.YtannniobeanhlaaGreat
set_option linter.unusedSimpArgs false
set_option linter.unusedVariables false
set_option maxRecDepth 100000
open Go.ChangeShapes Go.WideShapes Go.ChangeAt Go.RowKit
/-- a Buf's block. -/
abbrev bufC (g size first m : Nat) : Array Value := #[.slice (some ⟨g, 0, none⟩) size size, .int .i64 (first : Int), .int .i64 (m : Int)]
abbrev obbyC (arr : List Int) : Array Value := (arr.map (Value.int .u8)).toArray
/-- a Buf at block b, its bytes at block g. -/
def BufAt (w : World) (b g size : Nat) (q : List Int) : Prop :=
  ∃ (first : Nat) (arr : List Int), Blk w b 167 (bufC g size first q.length) ∧ Blk w g 5 (obbyC arr) ∧ Ring arr size first q ∧ b ≠ g ∧ size ≤ 65536
theorem BufAt.keep {W w : World} {b g size : Nat} {q : List Int} (h : BufAt W b g size q) (hb : Below W.heap.size W w) : BufAt w b g size q := by
  obtain ⟨first, arr, h1, h2, h3⟩ := h
  exact ⟨first, arr, h1.keep hb, h2.keep hb, h3⟩
theorem BufAt.fr {W w : World} {F : Nat → Prop} {b g size : Nat} {q : List Int} (h : BufAt W b g size q) (hf : Fr F W w) (h1 : ¬ F b) (h2 : ¬ F g) : BufAt w b g size q := by
  obtain ⟨first, arr, k1, k2, k3⟩ := h
  exact ⟨first, arr, k1.fr hf h1, k2.fr hf h2, k3⟩
theorem BufAt.lt {w : World} {b g size : Nat} {q : List Int} (h : BufAt w b g size q) : b < w.heap.size ∧ g < w.heap.size := by
  obtain ⟨first, arr, h1, h2, h3⟩ := h
  exact ⟨lt_of_block h1, lt_of_block h2⟩
theorem BufAt.le {w : World} {b g size : Nat} {q : List Int} (h : BufAt w b g size q) : q.length ≤ size ∧ 1 ≤ size ∧ size ≤ 65536 := by
  obtain ⟨first, arr, h1, h2, h3, h4⟩ := h
  exact ⟨h3.2.2.1, by have := h3.2.1; omega, h4.2⟩
theorem obinfo5 : (Tryz.prog.info? 5).map (fun i => (i.zero, i.size, i.bytes)) = some (some (.int .u8 0), 1, 1) := by kernel_rfl
set_option maxHeartbeats 400000 in
theorem obnew_yes (n : Nat) (h1' : 1 ≤ n) (h2' : n ≤ 65536) (w : World) : Calls Tryz.prog 63 #[.int .i64 (n : Int)] w fun e w' => e = .returned (.pointer (some ⟨w.heap.size + 1, 0, none⟩)) ∧ BufAt w' (w.heap.size + 1) w.heap.size n [] ∧ Below w.heap.size w w' := by
  have t1 : decide ((n : Int) < 1) = false := by simp; omega
  have t2 : decide ((65536 : Int) < (n : Int)) = false := by simp; omega
  have t3 : (n : Int) ≤ 65536 := by omega
  obtain ⟨i0, hi, hz0, hz1, hz2⟩ := info_parts obinfo5
  have hmk := make_bytes (P := Tryz.prog) (t := 40) (e := 5) Tryz.underlying40 hi hz0 hz1 hz2 n (by omega)
  clear hi hz0 hz1 hz2
  go_enter Tryz.func63, Tryz.ntmps63
  go_wp2
  go_ret
  refine ⟨rfl, ?_, ?_⟩
  · have e0 : (w.alloc (.cells (noughts n) 5)).heap.size = w.heap.size + 1 := by simp
    have h1 := heap_alloc_new (w.alloc (.cells (noughts n) 5)) (.cells #[.slice (some ⟨w.heap.size, 0, none⟩) n n, .int .i64 0, .int .i64 0] 167)
    rw [e0] at h1
    have h2 : Blk (w.alloc (.cells (noughts n) 5)) w.heap.size 5 (noughts n) := heap_alloc_new w _
    exact ⟨0, List.replicate n 0, h1, h2.alloc _, ring_new n h1', by omega, h2'⟩
  · exact ((Below.refl _ _).alloc (Nat.le_refl _) _).alloc (by simp) _
set_option maxHeartbeats 400000 in
theorem obclear_any (b g size : Nat) (q : List Int) (w : World) (h : BufAt w b g size q) : Calls Tryz.prog 99 #[.pointer (some ⟨b, 0, none⟩)] w fun e w' => e = .returned (.tuple #[]) ∧ BufAt w' b g size [] ∧ Fr (fun k => k = b ∨ k = g) w w' := by
  obtain ⟨first, arr, h1, h2, h3, h4, h5⟩ := h
  have k := h1.rd
  have k2 := h1.wr
  have HH := Lib.hid (And.intro h1 h2)
  clear h1 h2
  go_enter Tryz.func99, Tryz.ntmps99
  go_wp2
  go_end0
  obtain ⟨h1, h2⟩ := HH.out
  have hlt := lt_of_block h1
  rw [setCell_obj h1, setCell_in hlt]
  refine ⟨rfl, ⟨0, arr, setObj_at hlt _, ?_, ring_clear h3, h4, h5⟩, Fr.setObj (Fr.refl _ _) (Or.inl rfl) _⟩
  exact (setObj_other w (Ne.symm h4) _).trans h2
end Go.Proofs.YtannniobeanhlaaGreat
/- The contracts of layer 15 (outbuf): Take. -/
namespace Go.Proofs.YtannniobeanhlaaGreat
set_option linter.unusedSimpArgs false
set_option linter.unusedVariables false
set_option maxRecDepth 100000
open Go.ChangeShapes Go.WideShapes Go.ChangeAt Go.RowKit
end Go.Proofs.YtannniobeanhlaaGreat
