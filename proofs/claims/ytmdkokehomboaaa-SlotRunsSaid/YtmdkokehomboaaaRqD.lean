/- The law SlotRuns of layer 6 (slot): the closure, the reference's counters. -/
import Derived.Test.YtmdkokehomboaaaRqC
import Derived.Test.YtmdkokehomboaaaSlT
import Derived.Test.YtmdkokehomboaaaHw
import Derived.Test.YtmdkokehomboaaaRowF
import Derived.Test.YtmdkokehomboaaaBits
namespace Go.Proofs.Ytmdkokehomboaaa
set_option linter.unusedSimpArgs false
set_option linter.unusedVariables false
set_option maxRecDepth 100000
open Go.ChangeShapes Go.WideShapes Go.ChangeAt Go.RowKit
open Ar (inR)
/-- a key's place in a row of the reference. -/
def pZ (zs : List Int) (W i : Nat) (key : ByteArray) : Nat := plc (Ha.hof (rX zs i) (rA zs i) (rB zs i) key.data.toList) (W : Int)
theorem pZ_lt (zs : List Int) {W : Nat} (hW : 1 ≤ W) (i : Nat) (key : ByteArray) : pZ zs W i key < W := by
  have := plc_lt (Ha.hof (rX zs i) (rA zs i) (rB zs i) key.data.toList) (n := (W : Int)) (by omega)
  rw [Int.toNat_natCast] at this
  exact this
/-- where the reference's sketch lies. -/
structure RfN where
  nx : Nat
  fx : Nat
  wx : Nat
  g : Nat
  fg : Nat
  fc : Nat
  k : Nat
  W : Nat
/-- its boxes, functions and counters. -/
structure Rf (w : World) (M : RfN) (base : Nat) (zs : List Int) (f : Nat → Nat → Int) : Prop where
  nb : Blk w M.nx 33 #[.slice (some ⟨M.g, 0, none⟩) M.k M.k]
  fb : Blk w M.fx 31 #[.slice (some ⟨M.fg, 0, none⟩) M.k M.fc]
  wb : Blk w M.wx 3 #[.int .i64 M.W]
  rw : OwR w base 41 3 (R3.enc3 zs) (.slice (some ⟨M.fg, 0, none⟩) M.k M.fc) (List.range M.k)
  gb : Blk w M.g 37 (numC .i64 (Sk.tab f M.k 8))
  bd : (1 ≤ M.k ∧ M.k ≤ 4) ∧ 1 ≤ M.W ∧ M.W ≤ 8
theorem Rf.keep {w w' : World} {M : RfN} {base : Nat} {zs : List Int} {f : Nat → Nat → Int} (h : Rf w M base zs f) (hb : Below w.heap.size w w') : Rf w' M base zs f := ⟨h.nb.keep hb, h.fb.keep hb, h.wb.keep hb, h.rw.keep hb, h.gb.keep hb, h.bd⟩
theorem Rf.drew {w : World} {M : RfN} {base : Nat} {zs : List Int} {f : Nat → Nat → Int} (h : Rf w M base zs f) : Rf w.drew M base zs f := h.keep (below_draws (Below.refl _ _) 1)
theorem Rf.row {w : World} {M : RfN} {base : Nat} {zs : List Int} {f : Nat → Nat → Int} (h : Rf w M base zs f) {i : Nat} (hi : i < M.k) :
    w.cell? ⟨M.fg, i * 3, none⟩ = some (.int .u64 (rX zs i)) ∧ w.cell? ⟨M.fg, i * 3 + 1, none⟩ = some (.int .u64 (rA zs i)) ∧ w.cell? ⟨M.fg, i * 3 + 2, none⟩ = some (.int .u64 (rB zs i)) := by
  have hr := List.getElem?_range hi
  exact ⟨h.rw.cell (R3.enc3_len zs) hr (j := 0) (by omega), h.rw.cell (R3.enc3_len zs) hr (j := 1) (by omega), h.rw.cell (R3.enc3_len zs) hr (j := 2) (by omega)⟩
set_option maxHeartbeats 4000000 in
theorem at_any (M : RfN) (base : Nat) (zs : List Int) (f : Nat → Nat → Int) (cx : Nat) (key : ByteArray) (cost : Int) (hs : key.size ≤ maxLen) (i : Nat) (hi : i < M.k) (w : World) (h : Rf w M base zs f) (hc : Blk w cx 35 #[.string key, .int .i64 cost]) :
    Calls Try.prog 14 #[.int .i64 (i : Int), .pointer (some ⟨M.nx, 0, none⟩), .pointer (some ⟨M.fx, 0, none⟩), .pointer (some ⟨cx, 0, none⟩), .pointer (some ⟨M.wx, 0, none⟩)] w fun e w' => e = .returned (.pointer (some ⟨M.g, i * 8 + pZ zs M.W i key, none⟩)) ∧ Below w.heap.size w w' := by
  have hbd := h.bd
  have hl := rows_lt zs M.k i hi
  have hpl := pZ_lt zs hbd.2.1 i key
  have c1 := fun wx => R3.bucket_any (rX zs i) (rA zs i) (rB zs i) hl.1 hl.2.1 hl.2.2 key hs M.W ⟨hbd.2.1, by omega⟩ wx
  rw [show plc (Ha.hof (rX zs i) (rA zs i) (rB zs i) key.data.toList) (M.W : Int) = pZ zs M.W i key from rfl] at c1
  obtain ⟨p, hp⟩ : ∃ z, z = pZ zs M.W i key := ⟨_, rfl⟩
  rw [← hp] at c1 hpl ⊢
  have C1 := Lib.hid c1
  obtain ⟨X, hX⟩ : ∃ z, z = rX zs i := ⟨_, rfl⟩
  obtain ⟨Aa, hA⟩ : ∃ z, z = rA zs i := ⟨_, rfl⟩
  obtain ⟨Bb, hB⟩ : ∃ z, z = rB zs i := ⟨_, rfl⟩
  rw [← hX, ← hA, ← hB] at C1
  have ST := Lib.hid (show ∀ wx, Below w.heap.size w wx → (fun wx : World => (∀ j, wx.cell? ⟨M.nx, j, none⟩ = (#[.slice (some ⟨M.g, 0, none⟩) M.k M.k] : Array Value)[j]?) ∧ (∀ j, wx.cell? ⟨M.fx, j, none⟩ = (#[.slice (some ⟨M.fg, 0, none⟩) M.k M.fc] : Array Value)[j]?) ∧ (∀ j, wx.cell? ⟨M.wx, j, none⟩ = (#[.int .i64 M.W] : Array Value)[j]?) ∧ (∀ j, wx.cell? ⟨cx, j, none⟩ = (#[.string key, .int .i64 cost] : Array Value)[j]?) ∧ wx.cell? ⟨M.fg, i * 3, none⟩ = some (.int .u64 X) ∧ wx.cell? ⟨M.fg, i * 3 + 1, none⟩ = some (.int .u64 Aa) ∧ wx.cell? ⟨M.fg, i * 3 + 2, none⟩ = some (.int .u64 Bb)) wx from fun wx hb => ⟨(h.keep hb).nb.rd, (h.keep hb).fb.rd, (h.keep hb).wb.rd, (hc.keep hb).rd, by rw [hX]; exact ((h.keep hb).row hi).1, by rw [hA]; exact ((h.keep hb).row hi).2.1, by rw [hB]; exact ((h.keep hb).row hi).2.2⟩)
  have hM := h.bd.1
  have hik : (i : Int) < (M.k : Int) := by omega
  have hp8 : p < 8 := by omega
  have hp8' : (p : Int) < 8 := by omega
  clear h hc hl c1 hp hX hA hB
  go_enter Try.func14, Try.ntmps14
  go_upto_region 1 with (fail)
  have BN := Lib.hid (show Below w.heap.size w w.drew from below_draws (Below.refl _ _) 1)
  refine wp_region_held_drew (S := (fun wx : World => (∀ j, wx.cell? ⟨M.nx, j, none⟩ = (#[.slice (some ⟨M.g, 0, none⟩) M.k M.k] : Array Value)[j]?) ∧ (∀ j, wx.cell? ⟨M.fx, j, none⟩ = (#[.slice (some ⟨M.fg, 0, none⟩) M.k M.fc] : Array Value)[j]?) ∧ (∀ j, wx.cell? ⟨M.wx, j, none⟩ = (#[.int .i64 M.W] : Array Value)[j]?) ∧ (∀ j, wx.cell? ⟨cx, j, none⟩ = (#[.string key, .int .i64 cost] : Array Value)[j]?) ∧ wx.cell? ⟨M.fg, i * 3, none⟩ = some (.int .u64 X) ∧ wx.cell? ⟨M.fg, i * 3 + 1, none⟩ = some (.int .u64 Aa) ∧ wx.cell? ⟨M.fg, i * 3 + 2, none⟩ = some (.int .u64 Bb))) (by kernel_rfl) (ST.out _ BN.out) (fun hHeld => ?_)
  refine wpAnyH_take (i := 0) (oi := ?_) (v := ?_) ?_ ?_ ?_ ?_ ?_ ?_ ?_ ?_
  rotate_left 2
  · simp only [List.getElem?_toArray, List.getElem?_cons_succ, List.getElem?_cons_zero]; rfl
  · kernel_rfl
  · kernel_rfl
  · kernel_rfl
  · exact fun _ _ _ h => h
  · refine Or.inl ⟨by rfl, ?_⟩
    intro w' hSw
    (try dsimp only at hSw)
    go_simp
    all_goals (with_reducible rfl)
  · assumption
  try simp only [Act.put, List.setIfInBounds_toArray, List.set_cons_zero, List.set_cons_succ]
  refine wpAnyH_take (i := 1) (oi := ?_) (v := ?_) ?_ ?_ ?_ ?_ ?_ ?_ ?_ ?_
  rotate_left 2
  · simp only [List.getElem?_toArray, List.getElem?_cons_succ, List.getElem?_cons_zero]; rfl
  · kernel_rfl
  · kernel_rfl
  · kernel_rfl
  · exact fun _ _ _ h => h
  · refine Or.inl ⟨by rfl, ?_⟩
    intro w' hSw
    (try dsimp only at hSw)
    go_simp
    all_goals (with_reducible rfl)
  · assumption
  try simp only [Act.put, List.setIfInBounds_toArray, List.set_cons_zero, List.set_cons_succ]
  refine wpAnyH_take (i := 2) (oi := ?_) (v := ?_) ?_ ?_ ?_ ?_ ?_ ?_ ?_ ?_
  rotate_left 2
  · simp only [List.getElem?_toArray, List.getElem?_cons_succ, List.getElem?_cons_zero]; rfl
  · kernel_rfl
  · kernel_rfl
  · kernel_rfl
  · exact fun _ _ _ h => h
  · refine Or.inl ⟨by rfl, ?_⟩
    intro w' hSw
    (try dsimp only at hSw)
    go_simp
    all_goals (with_reducible rfl)
  · assumption
  try simp only [Act.put, List.setIfInBounds_toArray, List.set_cons_zero, List.set_cons_succ]
  refine wpAnyH_take (i := 3) (oi := ?_) (v := ?_) ?_ ?_ ?_ ?_ ?_ ?_ ?_ ?_
  rotate_left 2
  · simp only [List.getElem?_toArray, List.getElem?_cons_succ, List.getElem?_cons_zero]; rfl
  · kernel_rfl
  · kernel_rfl
  · kernel_rfl
  · exact fun _ _ _ h => h
  · refine Or.inl ⟨by rfl, ?_⟩
    intro w' hSw
    (try dsimp only at hSw)
    go_simp
    all_goals (with_reducible rfl)
  · assumption
  try simp only [Act.put, List.setIfInBounds_toArray, List.set_cons_zero, List.set_cons_succ]
  refine wpAnyH_take (i := 4) (oi := ?_) (v := ?_) ?_ ?_ ?_ ?_ ?_ ?_ ?_ ?_
  rotate_left 2
  · simp only [List.getElem?_toArray, List.getElem?_cons_succ, List.getElem?_cons_zero]; rfl
  · kernel_rfl
  · kernel_rfl
  · kernel_rfl
  · exact fun _ _ _ h => h
  · refine Or.inl ⟨by rfl, ?_⟩
    intro w' hSw
    (try dsimp only at hSw)
    go_simp
    all_goals (with_reducible rfl)
  · assumption
  try simp only [Act.put, List.setIfInBounds_toArray, List.set_cons_zero, List.set_cons_succ]
  refine wpAnyH_take (i := 5) (oi := ?_) (v := ?_) ?_ ?_ ?_ ?_ ?_ ?_ ?_ ?_
  rotate_left 2
  · simp only [List.getElem?_toArray, List.getElem?_cons_succ, List.getElem?_cons_zero]; rfl
  · kernel_rfl
  · kernel_rfl
  · kernel_rfl
  · exact fun _ _ _ h => h
  · refine Or.inl ⟨by rfl, ?_⟩
    intro w' hSw
    (try dsimp only at hSw)
    go_simp
    all_goals (with_reducible rfl)
  · assumption
  try simp only [Act.put, List.setIfInBounds_toArray, List.set_cons_zero, List.set_cons_succ]
  refine wpAnyH_take (i := 6) (oi := ?_) (v := ?_) ?_ ?_ ?_ ?_ ?_ ?_ ?_ ?_
  rotate_left 2
  · simp only [List.getElem?_toArray, List.getElem?_cons_succ, List.getElem?_cons_zero]; rfl
  · kernel_rfl
  · kernel_rfl
  · kernel_rfl
  · exact fun _ _ _ h => h
  · refine Or.inl ⟨by rfl, ?_⟩
    intro w' hSw
    (try dsimp only at hSw)
    go_simp
    all_goals (with_reducible rfl)
  · assumption
  try simp only [Act.put, List.setIfInBounds_toArray, List.set_cons_zero, List.set_cons_succ]
  refine wpAnyH_take (i := 7) (oi := ?_) (v := ?_) ?_ ?_ ?_ ?_ ?_ ?_ ?_ ?_
  rotate_left 2
  · simp only [List.getElem?_toArray, List.getElem?_cons_succ, List.getElem?_cons_zero]; rfl
  · kernel_rfl
  · kernel_rfl
  · kernel_rfl
  · exact fun _ _ _ h => h
  · refine Or.inl ⟨by rfl, ?_⟩
    intro w' hSw
    (try dsimp only at hSw)
    go_simp
    all_goals (with_reducible rfl)
  · assumption
  try simp only [Act.put, List.setIfInBounds_toArray, List.set_cons_zero, List.set_cons_succ]
  refine wpAnyH_take (i := 8) (oi := ?_) (v := ?_) ?_ ?_ ?_ ?_ ?_ ?_ ?_ ?_
  rotate_left 2
  · simp only [List.getElem?_toArray, List.getElem?_cons_succ, List.getElem?_cons_zero]; rfl
  · kernel_rfl
  · kernel_rfl
  · kernel_rfl
  · exact fun _ _ _ h => h
  · refine Or.inl ⟨by rfl, ?_⟩
    intro w' hSw
    (try dsimp only at hSw)
    go_simp
    all_goals (with_reducible rfl)
  · assumption
  try simp only [Act.put, List.setIfInBounds_toArray, List.set_cons_zero, List.set_cons_succ]
  refine wpAnyH_take (i := 10) (oi := ?_) (v := ?_) ?_ ?_ ?_ ?_ ?_ ?_ ?_ ?_
  rotate_left 2
  · simp only [List.getElem?_toArray, List.getElem?_cons_succ, List.getElem?_cons_zero]; rfl
  · kernel_rfl
  · kernel_rfl
  · kernel_rfl
  · exact fun _ _ _ h => h
  · refine Or.inl ⟨by rfl, ?_⟩
    intro w' hSw
    (try dsimp only at hSw)
    go_simp
    all_goals (with_reducible rfl)
  · assumption
  try simp only [Act.put, List.setIfInBounds_toArray, List.set_cons_zero, List.set_cons_succ]
  refine wpAnyH_ready (rs := [9]) (by kernel_rfl) (by simp) ?_
  refine AllReadyH.cons (o := ?_) ?_ ?_ ?_
  rotate_left 1
  · simp only [List.getElem?_toArray, List.getElem?_cons_succ, List.getElem?_cons_zero]; rfl
  rotate_left 1
  · exact AllReadyH.nil
  intro K hK
  go_simp
  ((with_reducible refine (C1.out _).mono ?_); rintro e w2 ⟨rfl, b2⟩; have N9 := Lib.hid (BN.out.trans (b2.mono BN.out.size)); clear b2)
  refine hK.out _ _ (ST.out _ N9.out) (fun hHeld => ?_)
  clear hK K
  try simp only [Act.put, List.setIfInBounds_toArray, List.set_cons_zero, List.set_cons_succ]
  refine wpAnyH_take (i := 11) (oi := ?_) (v := ?_) ?_ ?_ ?_ ?_ ?_ ?_ ?_ ?_
  rotate_left 2
  · simp only [List.getElem?_toArray, List.getElem?_cons_succ, List.getElem?_cons_zero]; rfl
  · kernel_rfl
  · kernel_rfl
  · kernel_rfl
  · exact fun _ _ _ h => h
  · refine Or.inl ⟨by rfl, ?_⟩
    intro w' hSw
    (try dsimp only at hSw)
    go_simp
    all_goals (with_reducible rfl)
  · assumption
  try simp only [Act.put, List.setIfInBounds_toArray, List.set_cons_zero, List.set_cons_succ]
  refine wpAnyH_take (i := 12) (oi := ?_) (v := ?_) ?_ ?_ ?_ ?_ ?_ ?_ ?_ ?_
  rotate_left 2
  · simp only [List.getElem?_toArray, List.getElem?_cons_succ, List.getElem?_cons_zero]; rfl
  · kernel_rfl
  · kernel_rfl
  · kernel_rfl
  · exact fun _ _ _ h => h
  · refine Or.inl ⟨by rfl, ?_⟩
    intro w' hSw
    (try dsimp only at hSw)
    go_simp
    all_goals (with_reducible rfl)
  · assumption
  try simp only [Act.put, List.setIfInBounds_toArray, List.set_cons_zero, List.set_cons_succ]
  refine wpAnyH_done (by kernel_rfl) ?_ _
  clear hHeld
  go_wp2
  go_ret
  exact ⟨rfl, N9.out⟩
end Go.Proofs.Ytmdkokehomboaaa
