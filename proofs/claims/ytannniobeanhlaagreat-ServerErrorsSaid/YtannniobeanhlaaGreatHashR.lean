import Derived.Test.YtannniobeanhlaaGreatHash
import Derived.Test.YtannniobeanhlaaGreatZDiv
import Derived.Test.YtannniobeanhlaaGreatLift
/- The contracts of layer 3 (hash): functions out of draws, places. -/
namespace Go.Proofs.YtannniobeanhlaaGreat
set_option linter.unusedSimpArgs false
set_option linter.unusedVariables false
set_option maxRecDepth 100000
open Go.ChangeShapes Go.WideShapes Go.ChangeAt Go.RowKit

/-- the draw of number i, 0 if it isn't there. -/
def drw (zs : List Int) (i : Nat) : Nat := (zs.getD i 0).toNat
def rX (zs : List Int) (i : Nat) : Nat := drw zs (3 * i) % 2305843009213693950 + 1
def rA (zs : List Int) (i : Nat) : Nat := drw zs (3 * i + 1) % 2305843009213693950 + 1
def rB (zs : List Int) (i : Nat) : Nat := drw zs (3 * i + 2) % 2305843009213693951
theorem fromOne_any (x : Nat) (hx : x < 18446744073709551616) (w : World) :
    Calls Tryz.prog 114 #[.int .u64 x] w fun e w' => e = .returned (.int .u64 (x % 2305843009213693950 + 1 : Nat)) ∧ w = w' := by
  obtain ⟨r, hr⟩ : ∃ r, r = x % 2305843009213693950 := ⟨_, rfl⟩
  have e1 : (x : Int) % 2305843009213693950 = (r : Int) := by omega
  rw [← hr]
  have hb : r < 2305843009213693950 := by omega
  clear hr
  go_enter Tryz.func114, Tryz.ntmps114
  go_wp2
  go_ret
  exact ⟨ret_i (by simp [e1]), rfl⟩
theorem draw_any (W w : World) (A : Option Addr) (n c : Nat) (zs : List Int) (hr : RdI W .u64 A n c zs) (hb : Below W.heap.size W w) (i : Nat) (hi : i < 1000) :
    Calls Tryz.prog 115 #[.slice A n c, .int .i64 i] w fun e w' => e = .returned (.int .u64 (drw zs i : Nat)) ∧ w = w' := by
  have hcap := hr.cap
  have hmax := hr.max
  have hlen := hr.len
  unfold maxLen at hmax
  by_cases h : i < n
  · obtain ⟨b0, off, hA, hlt, hcell⟩ := hr.at_ (by omega)
    subst hA
    obtain ⟨z, hz⟩ : ∃ z, z = zs.getD i 0 := ⟨_, rfl⟩
    have hzw := bounds_u64 (hr.wf_at h)
    have hc := hcell i h
    rw [← hz] at hzw hc
    have hcr : w.cell? ⟨b0, off + i, none⟩ = some (.int .u64 z) := by rw [hb.cell (p := ⟨b0, off + i, none⟩) hlt]; exact hc
    have hd : ((drw zs i : Nat) : Int) = z := by unfold drw; rw [← hz]; omega
    rw [hd]
    clear hz hc hcell hd hr hlen
    go_enter Tryz.func115, Tryz.ntmps115
    go_wp2
    go_ret
    exact ⟨rfl, rfl⟩
  · have hd : drw zs i = 0 := by unfold drw; rw [show zs.getD i 0 = 0 by simp [List.getD, List.getElem?_eq_none (show zs.length ≤ i by omega)]]; rfl
    rw [hd]
    clear hd hr hlen
    go_enter Tryz.func115, Tryz.ntmps115
    go_wp2
    go_ret
    exact ⟨rfl, rfl⟩
/-- Rows that stand in a block: three cells each. -/
structure RowsAt (w : World) (b : Nat) (k : Nat) (X A B : Nat → Nat) : Prop where
  blk : ∃ C : Array Value, w.heap[b]? = some (.cells C 192 (0, 0)) ∧ C.size = 3 * k ∧ ∀ j, j < k → C[3 * j]? = some (.int .u64 (X j)) ∧ C[3 * j + 1]? = some (.int .u64 (A j)) ∧ C[3 * j + 2]? = some (.int .u64 (B j))
theorem RowsAt.below {w w' : World} {b k B0 : Nat} {X A B : Nat → Nat} (h : RowsAt w b k X A B) (hb : Below B0 w w') (hlt : b < B0) : RowsAt w' b k X A B := by
  obtain ⟨C, h1, h2, h3⟩ := h.blk
  exact ⟨C, by rw [hb.block b hlt]; exact h1, h2, h3⟩
theorem Tryz.infoRow : (Tryz.prog.info? 192).map (fun i => (i.zero, i.size, i.bytes)) = some (some (.agg #[.int .u64 0, .int .u64 0, .int .u64 0]), 3, 24) := by kernel_rfl
set_option maxHeartbeats 1000000 in
theorem rows_any (w : World) (A : Option Addr) (n c : Nat) (zs : List Int) (hr : RdI w .u64 A n c zs) (k : Nat) (hk : k ≤ 9) :
    Calls Tryz.prog 90 #[.slice A n c, .int .i64 k] w fun e w' => e = .returned (.slice (some ⟨w.heap.size, 0, none⟩) k k) ∧ RowsAt w' w.heap.size k (rX zs) (rA zs) (rB zs) ∧ Below w.heap.size w w' := by
  obtain ⟨i0, q1, q2, q3, q4⟩ := info_parts Tryz.infoRow
  have hmk : ∀ w' : World, (Instr.makeSlice 139 (.int .i64 (k : Int)) (.int .i64 (k : Int))).run Tryz.prog w' = .ok (.slice (some ⟨w'.heap.size, 0, none⟩) k k) (w'.alloc (.cells (madeCells #[.int .u64 0, .int .u64 0, .int .u64 0] (k * 3)) 192)) := by
    intro w'
    have := run_makeSlice (P := Tryz.prog) w' 139 192 i0 _ (by kernel_rfl) q1 q2 .i64 .i64 (k : Int) (k : Int) (by omega) (by omega) (by rw [q3]; omega) (by rw [q4]; omega) (by omega)
    rw [Int.toNat_natCast, q3] at this
    exact this
  have hm1 : min (k : Int) 9 = (k : Int) := by omega
  have hm2 : max 0 (k : Int) = (k : Int) := by omega
  have HR := Lib.hid hr
  clear hr q1 q2 q3 q4
  go_enter Tryz.func90, Tryz.ntmps90
  go_wp2
  clear hmk hm1 hm2
  go_loopg [13] k (fun kk si wr => ∃ (i : Nat) (C : Array Value), i ≤ k ∧ kk = k - i ∧ si = .int .i64 (i : Int) ∧ Hid (wr.heap[w.heap.size]? = some (.cells C 192 (0, 0))) ∧ C.size = 3 * k ∧ Hid (∀ j, j < i → C[3 * j]? = some (.int .u64 (rX zs j)) ∧ C[3 * j + 1]? = some (.int .u64 (rA zs j)) ∧ C[3 * j + 2]? = some (.int .u64 (rB zs j))) ∧ Below w.heap.size w wr)
  case atStart =>
    exact ⟨0, _, by omega, by omega, rfl, Lib.hid (heap_alloc_new w _), by rw [size_madeCells]; omega, Lib.hid (fun j hj => absurd hj (by omega)), (Below.refl _ _).alloc (Nat.le_refl _) _⟩
  case round =>
    obtain ⟨i, C, hi, hkk, rfl, HH, hC, HJ, hb⟩ := hrel
    have HK := Lib.hid hkk
    have HB := Lib.hid hb
    clear hkk hb
    by_cases hin : i < k
    · have hlt := lt_of_block HH.out
      have k0 : ∃ v, wr.cell? ⟨w.heap.size, i * 3, none⟩ = some v := ⟨_, by rw [cell_at HH.out]; exact Array.getElem?_eq_getElem (by omega)⟩
      have k1 : ∃ v, wr.cell? ⟨w.heap.size, i * 3 + 1, none⟩ = some v := ⟨_, by rw [cell_at HH.out]; exact Array.getElem?_eq_getElem (by omega)⟩
      have k2 : ∃ v, wr.cell? ⟨w.heap.size, i * 3 + 2, none⟩ = some v := ⟨_, by rw [cell_at HH.out]; exact Array.getElem?_eq_getElem (by omega)⟩
      obtain ⟨v0, k0⟩ := k0
      obtain ⟨v1, k1⟩ := k1
      obtain ⟨v2, k2⟩ := k2
      have f0 : wr.frozen? ⟨w.heap.size, i * 3, none⟩ = false := free_at HH.out
      have f1 : wr.frozen? ⟨w.heap.size, i * 3 + 1, none⟩ = false := free_at HH.out
      have f2 : wr.frozen? ⟨w.heap.size, i * 3 + 2, none⟩ = false := free_at HH.out
      obtain ⟨i0, hi0⟩ : ∃ z, z = 3 * i := ⟨_, rfl⟩
      obtain ⟨i1, hi1⟩ : ∃ z, z = 3 * i + 1 := ⟨_, rfl⟩
      obtain ⟨i2, hi2⟩ : ∃ z, z = 3 * i + 2 := ⟨_, rfl⟩
      have e0 : 3 * (i : Int) = (i0 : Int) := by omega
      have e1 : (i0 : Int) + 1 = (i1 : Int) := by omega
      have e2 : (i0 : Int) + 2 = (i2 : Int) := by omega
      have d0 := draw_any w wr A n c zs HR.out HB.out i0 (by omega)
      have d1 := draw_any w wr A n c zs HR.out HB.out i1 (by omega)
      have d2 := draw_any w wr A n c zs HR.out HB.out i2 (by omega)
      have u : ∀ j, drw zs j < 18446744073709551616 := by
        intro j
        unfold drw
        by_cases g : j < zs.length
        · have hl := HR.out.len
          have := bounds_u64 (HR.out.wf_at (i := j) (by omega))
          omega
        · rw [show zs.getD j 0 = 0 by simp [List.getD, List.getElem?_eq_none (show zs.length ≤ j by omega)]]; decide
      have x0 := fun w' => fromOne_any (drw zs i0) (u _) w'
      have x1 := fun w' => fromOne_any (drw zs i1) (u _) w'
      have x2 := fun w' => fof_any (drw zs i2) (u _) w'
      have r0 : drw zs i0 % 2305843009213693950 + 1 = rX zs i := by rw [hi0]; rfl
      have r1 : drw zs i1 % 2305843009213693950 + 1 = rA zs i := by rw [hi1]; rfl
      have r2 : drw zs i2 % 2305843009213693951 = rB zs i := by rw [hi2]; rfl
      rw [r0] at x0
      rw [r1] at x1
      rw [r2] at x2
      have D0 := Lib.hid d0
      have D1 := Lib.hid d1
      have D2 := Lib.hid d2
      have X0 := Lib.hid x0
      have X1 := Lib.hid x1
      have X2 := Lib.hid x2
      clear d0 d1 d2 x0 x1 x2 r0 r1 r2 u hi0 hi1 hi2
      go_wp2_with (first
        | (go_at_call 115; first | ((with_reducible refine D0.out.mono ?_); rintro e w' ⟨rfl, rfl⟩) | ((with_reducible refine D1.out.mono ?_); rintro e w' ⟨rfl, rfl⟩) | ((with_reducible refine D2.out.mono ?_); rintro e w' ⟨rfl, rfl⟩))
        | (go_at_call 114; first | ((with_reducible refine (X0.out _).mono ?_); rintro e w' ⟨rfl, rfl⟩) | ((with_reducible refine (X1.out _).mono ?_); rintro e w' ⟨rfl, rfl⟩))
        | (go_at_call 116; ((with_reducible refine (X2.out _).mono ?_); rintro e w' ⟨rfl, rfl⟩)))
      go_roundg (k - (i + 1))
      case measure => have := HK.out; omega
      case rel =>
        have hb1 : w.heap.size < (setObj wr w.heap.size (.cells (C.setIfInBounds (i * 3) (.int .u64 (rX zs i))) 192 (0, 0))).heap.size := by rw [setObj_size]; exact hlt
        refine ⟨i + 1, ((C.setIfInBounds (i * 3) (.int .u64 (rX zs i))).setIfInBounds (i * 3 + 1) (.int .u64 (rA zs i))).setIfInBounds (i * 3 + 2) (.int .u64 (rB zs i)), by omega, by omega, by go_num, ?_, by simp [hC], ?_, ?_⟩
        · rw [setCell_obj HH.out, setCell_in hlt, setCell_in hlt]
          exact Lib.hid (setObj_at hlt _)
        · refine Lib.hid fun j hj => ?_
          simp only [Array.getElem?_setIfInBounds, Array.size_setIfInBounds, hC]
          rcases Nat.lt_or_ge j i with g | g
          · obtain ⟨a1, a2, a3⟩ := HJ.out j g
            refine ⟨?_, ?_, ?_⟩
            · rw [if_neg (by omega), if_neg (by omega), if_neg (by omega)]; exact a1
            · rw [if_neg (by omega), if_neg (by omega), if_neg (by omega)]; exact a2
            · rw [if_neg (by omega), if_neg (by omega), if_neg (by omega)]; exact a3
          · obtain rfl : j = i := by omega
            refine ⟨?_, ?_, ?_⟩
            · rw [if_neg (by omega), if_neg (by omega), if_pos (by omega), if_pos (by omega)]
            · rw [if_neg (by omega), if_pos (by omega), if_pos (by omega)]
            · rw [if_pos (by omega), if_pos (by omega)]
        · exact ((HB.out.setCell (Nat.le_refl _) _).setCell (Nat.le_refl _) _).setCell (Nat.le_refl _) _
    · go_wp2
      go_ret
      have : i = k := by omega
      subst this
      exact ⟨rfl, ⟨C, HH.out, hC, HJ.out⟩, HB.out⟩
theorem rX_lt (zs : List Int) (i : Nat) : rX zs i < 2305843009213693951 := by
  unfold rX; have := Nat.mod_lt (drw zs (3 * i)) (show 0 < 2305843009213693950 by omega); omega
theorem rA_lt (zs : List Int) (i : Nat) : rA zs i < 2305843009213693951 := by
  unfold rA; have := Nat.mod_lt (drw zs (3 * i + 1)) (show 0 < 2305843009213693950 by omega); omega
/-- the place of a number. -/
def plc (h : Nat) (n : Int) : Nat := if n < 1 then 0 else h % 2305843009213693951 * n.toNat / 2305843009213693951
theorem plc_lt (h : Nat) {n : Int} (hn : 1 ≤ n) : plc h n < n.toNat := by
  unfold plc
  rw [if_neg (by omega), Nat.div_lt_iff_lt_mul (by omega), Nat.mul_comm]
  exact Nat.mul_lt_mul_of_pos_left (Nat.mod_lt _ (by omega)) (by omega)
end Go.Proofs.YtannniobeanhlaaGreat
