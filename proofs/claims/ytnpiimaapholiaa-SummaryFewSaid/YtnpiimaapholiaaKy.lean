/- The contracts of layer 4 (keys). -/
import Derived.Test.YtnpiimaapholiaaByt
import Derived.Test.YtnpiimaapholiaaKyMath
import Derived.Deep.RegionHeld3
import Derived.StillTailTactics
import Derived.BigQuiet
import Derived.Below
import Derived.Deep.LoopGhost
import Derived.Deep.QuietTactic
import Derived.Outline
import Derived.Deep.Cut
import Derived.Laws.IdiomCopy
import Derived.Lib.LazyBuf
import Derived.WalkSpells
namespace Go.Proofs.Ytnpiimaapholiaa
set_option linter.unusedSimpArgs false
set_option linter.unusedVariables false
open Go.ChangeShapes Go.WideShapes Go.ChangeAt Go.RowKit
abbrev numC (k : IntKind) (l : List Int) : Array Value := (l.map (Value.int k)).toArray
theorem numC_get (k : IntKind) (arr : List Int) (i : Nat) (h : i < arr.length) : (numC k arr)[i]? = some (.int k (arr.getD i 0)) := by
  unfold numC
  rw [List.getElem?_toArray, List.getElem?_map, List.getElem?_eq_getElem h]
  simp [List.getD, h]
theorem numC_set (k : IntKind) (l : List Int) (i : Nat) (v : Int) : (numC k l).setIfInBounds i (.int k v) = numC k (l.set i v) := by
  unfold numC; simp only [List.map_set, List.setIfInBounds_toArray]
theorem setCells_num {w : World} {b : Nat} {t : TypeId} (k : IntKind) : ∀ (vs l : List Int) (o : Nat), w.heap[b]? = some (.cells (numC k l) t (0, 0)) → w.setCells b o (vs.map (Value.int k)) = setObj w b (.cells (numC k (splice l o vs)) t (0, 0)) := by
  intro vs
  induction vs generalizing w with
  | nil => intro l o h; exact (setObj_same h).symm
  | cons v r ih =>
    intro l o h
    have hlt := lt_of_block h
    rw [List.map_cons, World.setCells, setCell_obj h, numC_set]
    rw [ih (l.set o v) (o + 1) (setObj_at hlt _), setObj_setObj]
    rfl
abbrev storeC (gb gs gf n m : Nat) : Array Value := #[.slice (some ⟨gb, 0, none⟩) (64 * n) (64 * n), .slice (some ⟨gs, 0, none⟩) n n, .slice (some ⟨gf, 0, none⟩) m n]
/-- how a place's size is kept. -/
def sizeZ (k : Option ByteArray) : Int := match k with | none => 0 | some s => (s.size : Int) + 1
structure KeysAt (w : World) (b gb gs gf n : Nat) (fl : List Nat) (K : Nat → Option ByteArray) (bs ss fs : List Int) : Prop where
  hb : Blk w b 81 (storeC gb gs gf n fl.length)
  hgb : Blk w gb 5 (numC .u8 bs)
  hgs : Blk w gs 5 (numC .u8 ss)
  hgf : Blk w gf 82 (numC .u32 fs)
  lb : bs.length = 64 * n
  ls : ss.length = n
  lf : fs.length = n
  vs : ∀ i, i < n → ss.getD i 0 = sizeZ (K i)
  vf : ∀ j, j < fl.length → fs.getD j 0 = ((fl.getD j 0 : Nat) : Int)
  vb : ∀ i s, K i = some s → s.size ≤ 64 ∧ ∀ j, j < s.size → bs.getD (64 * i + j) 0 = (nums s).getD j 0
  pl : Places n fl K
  n1 : n ≤ 65536
  ne : b ≠ gb ∧ b ≠ gs ∧ b ≠ gf ∧ gb ≠ gs ∧ gb ≠ gf ∧ gs ≠ gf
def KeysIn (w : World) (b gb gs gf n : Nat) (fl : List Nat) (K : Nat → Option ByteArray) : Prop := ∃ bs ss fs, KeysAt w b gb gs gf n fl K bs ss fs
theorem KeysIn.keep {W w : World} {b gb gs gf n : Nat} {fl : List Nat} {K : Nat → Option ByteArray} (h : KeysIn W b gb gs gf n fl K) (hb : Below W.heap.size W w) : KeysIn w b gb gs gf n fl K := by
  obtain ⟨bs, ss, fs, h⟩ := h
  exact ⟨bs, ss, fs, h.hb.keep hb, h.hgb.keep hb, h.hgs.keep hb, h.hgf.keep hb, h.lb, h.ls, h.lf, h.vs, h.vf, h.vb, h.pl, h.n1, h.ne⟩
theorem KeysIn.lt {w : World} {b gb gs gf n : Nat} {fl : List Nat} {K : Nat → Option ByteArray} (h : KeysIn w b gb gs gf n fl K) : b < w.heap.size ∧ gb < w.heap.size ∧ gs < w.heap.size ∧ gf < w.heap.size := by
  obtain ⟨bs, ss, fs, h⟩ := h
  exact ⟨lt_of_block h.hb, lt_of_block h.hgb, lt_of_block h.hgs, lt_of_block h.hgf⟩
theorem KeysIn.pl {w : World} {b gb gs gf n : Nat} {fl : List Nat} {K : Nat → Option ByteArray} (h : KeysIn w b gb gs gf n fl K) : Places n fl K ∧ n ≤ 65536 ∧ ∀ i s, K i = some s → s.size ≤ 64 := by
  obtain ⟨bs, ss, fs, h⟩ := h
  exact ⟨h.pl, h.n1, fun i s hs => (h.vb i s hs).1⟩
abbrev kyF (b gb gs gf : Nat) : Nat → Prop := fun k => k = b ∨ k = gb ∨ k = gs ∨ k = gf
/-! #### none -/
theorem len_nil (w : World) : Calls Try.prog 32 #[.pointer none] w fun e w' => e = .returned (.int .i64 0) ∧ w = w' := by
  go_enter Try.func32, Try.ntmps32
  go_wp2
  go_ret
  exact ⟨rfl, rfl⟩
theorem has_nil (i : Int) (w : World) : Calls Try.prog 42 #[.pointer none, .int .i64 i] w fun e w' => e = .returned (.bool false) ∧ w = w' := by
  go_enter Try.func42, Try.ntmps42
  go_wp2
  go_ret
  exact ⟨rfl, rfl⟩
theorem bytes_any (n : Int) (hn : 0 ≤ n ∧ n ≤ 65536) (w : World) : Calls Try.prog 34 #[.int .i64 n] w fun e w' => e = .returned (.int .i64 (69 * n)) ∧ w = w' := by
  go_enter Try.func34, Try.ntmps34
  go_wp2
  go_ret
  exact ⟨rfl, rfl⟩
theorem put_nil (s : ByteArray) (w : World) : Calls Try.prog 46 #[.pointer none, .string s] w fun e w' => e = .returned (.int .i64 (-1)) ∧ w = w' := by
  go_enter Try.func46, Try.ntmps46
  go_wp2
  go_ret
  exact ⟨rfl, rfl⟩
theorem free_nil (i : Int) (w : World) : Calls Try.prog 48 #[.pointer none, .int .i64 i] w fun e w' => e = .returned (.tuple #[]) ∧ w = w' := by
  go_enter Try.func48, Try.ntmps48
  go_wp2_with (go_at_call 42; ((with_reducible refine (has_nil _ _).mono ?_); rintro e w' ⟨rfl, rfl⟩))
  (try simp only [Exit.inBlock, Exit.then])
  exact bodyPost_ret (results_none rfl _ _ _) rfl ⟨rfl, rfl⟩
theorem key_nil (i : Int) (w : World) : Calls Try.prog 31 #[.pointer none, .int .i64 i] w fun e w' => e = .returned (.tuple #[.string ⟨#[]⟩, .bool false]) ∧ w = w' := by
  go_enter Try.func31, Try.ntmps31
  go_wp2_with (go_at_call 42; ((with_reducible refine (has_nil _ _).mono ?_); rintro e w' ⟨rfl, rfl⟩))
  go_ret2
  exact ⟨rfl, rfl⟩
theorem is_nil (i : Int) (s : ByteArray) (w : World) : Calls Try.prog 50 #[.pointer none, .int .i64 i, .string s] w fun e w' => e = .returned (.bool false) ∧ w = w' := by
  go_enter Try.func50, Try.ntmps50
  go_wp2_with (go_at_call 42; ((with_reducible refine (has_nil _ _).mono ?_); rintro e w' ⟨rfl, rfl⟩))
  go_ret
  exact ⟨rfl, rfl⟩
section
variable {b gb gs gf n : Nat} {fl : List Nat} {K : Nat → Option ByteArray}
set_option maxHeartbeats 400000 in
theorem len_any (w : World) (h : KeysIn w b gb gs gf n fl K) : Calls Try.prog 32 #[.pointer (some ⟨b, 0, none⟩)] w fun e w' => e = .returned (.int .i64 (n : Int)) ∧ w = w' := by
  obtain ⟨bs, ss, fs, h⟩ := h
  have k := h.hb.rd
  clear h
  go_enter Try.func32, Try.ntmps32
  go_wp2
  go_ret
  exact ⟨rfl, rfl⟩
/-- has a place a key? -/
def hasB (K : Nat → Option ByteArray) (n : Nat) (i : Int) : Bool := decide (0 ≤ i) && (decide (i < (n : Int)) && (K i.toNat).isSome)
set_option maxHeartbeats 1000000 in
theorem has_any (i : Int) (w : World) (h : KeysIn w b gb gs gf n fl K) : Calls Try.prog 42 #[.pointer (some ⟨b, 0, none⟩), .int .i64 i] w fun e w' => e = .returned (.bool (hasB K n i)) ∧ w = w' := by
  obtain ⟨bs, ss, fs, h⟩ := h
  have k := h.hb.rd
  have hn := h.n1
  by_cases h0 : 0 ≤ i
  · by_cases h1 : i < (n : Int)
    · obtain ⟨j, rfl⟩ : ∃ j : Nat, i = (j : Int) := ⟨i.toNat, by omega⟩
      have hjn : j < n := by omega
      have k2 : w.cell? ⟨gs, j, none⟩ = some (.int .u8 (sizeZ (K j))) := by rw [blk_cell h.hgs, ← h.vs j hjn]; exact numC_get _ _ _ (by rw [h.ls]; exact hjn)
      have e : hasB K n (j : Int) = (K j).isSome := by unfold hasB; simp [hjn]
      rw [e]
      have t1 : decide ((j : Int) < (n : Int)) = true := by simpa using h1
      have t2 : decide (j < n) = true := by simpa using hjn
      have t3 : (j : Int) < (n : Int) := h1
      have t4 : (0 : Int) ≤ (j : Int) := h0
      cases hk : K j with
      | none =>
        rw [hk] at k2
        have k3 : w.cell? ⟨gs, j, none⟩ = some (.int .u8 0) := k2
        clear h hk k2 h0 h1 e
        go_enter Try.func42, Try.ntmps42
        go_wp2
        go_ret
        exact ⟨rfl, rfl⟩
      | some s =>
        rw [hk] at k2
        have k3 : w.cell? ⟨gs, j, none⟩ = some (.int .u8 ((s.size : Int) + 1)) := k2
        have t5 : decide (0 < (s.size : Int) + 1) = true := by rw [decide_eq_true_eq]; omega
        clear h hk k2 h0 h1 e
        go_enter Try.func42, Try.ntmps42
        go_wp2
        go_ret
        exact ⟨rfl, rfl⟩
    · have e : hasB K n i = false := by unfold hasB; simp [h1]
      rw [e]
      have t1 : decide (i < (n : Int)) = false := by simpa using h1
      have t2 : decide (0 ≤ i) = true := by simpa using h0
      clear h e h1
      go_enter Try.func42, Try.ntmps42
      go_wp2
      go_ret
      exact ⟨rfl, rfl⟩
  · have e : hasB K n i = false := by unfold hasB; simp [h0]
    rw [e]
    have t2 : decide (0 ≤ i) = false := by simpa using h0
    clear h e h0
    go_enter Try.func42, Try.ntmps42
    go_wp2
    go_ret
    exact ⟨rfl, rfl⟩
end
end Go.Proofs.Ytnpiimaapholiaa
